/- Texts of earlier layers, laid together: XOctN XOctO XOctI XOctJ XOctK XOctQ XOctB XOctF XOctH XOctY. -/
import Derived.Test.YtfnidehbibfclaaGB
import Derived.RangeFuncNested
import Derived.RangeFuncBound
import Derived.RangeFuncCalls
import Derived.RangeFuncLeaves
import Derived.RangeFuncBox
import Derived.Shelf.Abstract
import Derived.Shelf.RegionOpen
import Derived.OwnWalkIn
import Derived.TacticsInMore
import Derived.LoopNIn
import Derived.LoopIn
import Derived.Laws.BitsAllLaws
set_option maxRecDepth 100000
/- Layer 3 (octet): the program's own small calls: sizes, what fits, what is within, signs. -/
namespace Go.Proofs.Ytfnidehbibfclaa
open Go.ChangeShapes Go.WideShapes Go.ChangeAt Go.RowKit OctM

theorem pissize_any (z : Int) (w : World) :
    Calls Try.prog 96 #[.int .i64 z] w fun e w' => e = .returned (.bool (decide (okS z))) ∧ w = w' := by
  by_cases h : okS z
  · rw [decide_eq_true h]
    have h1 : decide (1 ≤ z) = true := by have := h.1; simp; omega
    have h2 : decide (z ≤ 8) = true := by have := h.2; simp; omega
    have h1' : (1 : Int) ≤ z := h.1
    have h2' : z ≤ 8 := h.2
    clear h
    go_enter Try.func96, Try.ntmps96
    go_wp2
    go_ret
    exact ⟨rfl, rfl⟩
  · rw [decide_eq_false h]
    by_cases h1 : 1 ≤ z
    · have h2 : decide (z ≤ 8) = false := by unfold okS at h; simp; omega
      have h1' : decide (1 ≤ z) = true := by simp; omega
      have h2' : 8 < z := by unfold okS at h; omega
      clear h
      go_enter Try.func96, Try.ntmps96
      go_wp2
      go_ret
      exact ⟨rfl, rfl⟩
    · have h1' : decide (1 ≤ z) = false := by simp; omega
      have h2' : z < 1 := by omega
      clear h h1
      go_enter Try.func96, Try.ntmps96
      go_wp2
      go_ret
      exact ⟨rfl, rfl⟩

theorem pwithin_any (w : World) (p : Option Addr) (n c : Nat) (x z : Int) (hz : okS z) (hn : n ≤ 140737488355328) :
    Calls Try.prog 97 #[.slice p n c, .int .i64 x, .int .i64 z] w fun e w' => e = .returned (.bool (decide (x + z ≤ (n : Int)))) ∧ w = w' := by
  have h1 : 1 ≤ z := hz.1
  have h2 : z ≤ 8 := hz.2
  have h3 : (n : Int) ≤ 140737488355328 := by omega
  clear hz hn
  by_cases h : x + z ≤ (n : Int)
  · rw [decide_eq_true h]
    have h4 : decide (x ≤ (n : Int) - z) = true := by simp; omega
    clear h
    go_enter Try.func97, Try.ntmps97
    go_wp2
    go_ret
    exact ⟨rfl, rfl⟩
  · rw [decide_eq_false h]
    have h4 : decide (x ≤ (n : Int) - z) = false := by simp; omega
    clear h
    go_enter Try.func97, Try.ntmps97
    go_wp2
    go_ret
    exact ⟨rfl, rfl⟩

theorem pret_bool {a b : Bool} (h : a = b) : Ending.returned (.bool a) = .returned (.bool b) := by rw [h]
theorem eight {s : Nat} (h1 : 1 ≤ s) (h8 : s ≤ 8) : s = 1 ∨ s = 2 ∨ s = 3 ∨ s = 4 ∨ s = 5 ∨ s = 6 ∨ s = 7 ∨ s = 8 := by omega

set_option maxHeartbeats 1600000 in
theorem pfits_any (w : World) (n s : Nat) (hn : n < 18446744073709551616) (h1 : 1 ≤ s) (h8 : s ≤ 8) :
    Calls Try.prog 83 #[.int .u64 n, .int .i64 s] w fun e w' => e = .returned (.bool (decide (n < 256 ^ s))) ∧ w = w' := by
  rcases eight h1 h8 with rfl | rfl | rfl | rfl | rfl | rfl | rfl | rfl
  all_goals
    clear h1 h8
    go_enter Try.func83, Try.ntmps83
    go_wp2
    go_ret
    refine ⟨pret_bool ?_, rfl⟩
    rw [Bool.eq_iff_iff]
    simp
    omega

/-- a number's lowest bytes, the highest bit of which is its sign. -/
def extV (n s : Nat) : Int := sgV (n % 256 ^ s) s

theorem extV_of_lt {n s : Nat} (h : n < 256 ^ s) : extV n s = sgV n s := by unfold extV; rw [Nat.mod_eq_of_lt h]

set_option maxHeartbeats 1600000 in
/-- What is kept of a signed number tells it again just where it is one of so many bytes. -/
theorem ext_iff (n : Int) (s m : Nat) (hn : I64 n) (hm : n % 18446744073709551616 = (m : Int)) (h1 : 1 ≤ s) (h8 : s ≤ 8) : extV m s = n ↔ absM n < halfN s := by
  obtain ⟨n1, n2⟩ := hn
  rcases eight h1 h8 with rfl | rfl | rfl | rfl | rfl | rfl | rfl | rfl
  all_goals
    unfold extV sgV halfN absM
    simp only [Nat.reducePow, Nat.reduceSub, Nat.reduceMul]
    split <;> split <;> omega

set_option maxHeartbeats 1600000 in
theorem un_num (n : Int) (s m : Nat) (hn : I64 n) (hm : n % 18446744073709551616 = (m : Int)) (h1 : 1 ≤ s) (h8 : s ≤ 8) (h : absM n < halfN s) : unV n s = m % 256 ^ s := by
  obtain ⟨n1, n2⟩ := hn
  unfold absM at h
  rcases eight h1 h8 with rfl | rfl | rfl | rfl | rfl | rfl | rfl | rfl
  all_goals
    unfold halfN at h
    unfold unV
    simp only [Nat.reducePow, Nat.reduceSub, Nat.reduceMul] at h ⊢
    split at h <;> split <;> omega
end Go.Proofs.Ytfnidehbibfclaa
/- Layer 3 (octet): the program's Width, Signed, Unsigned, and bytes in new memory. -/
namespace Go.Proofs.Ytfnidehbibfclaa
open Go.ChangeShapes Go.WideShapes Go.ChangeAt Go.RowKit OctM

/-- Bytes in new memory, from a slice that may be nil. -/
theorem pcopied_any (w : World) (p : Option Addr) (n c : Nat) (ds : List Nat) (hz : Holds w p n c (valsN .u8 ds)) (hn : n ≤ 140737488355328) :
    Calls Try.prog 95 #[.slice p n c] w (OwnPost w n ds) := by
  obtain ⟨i0, hi, hz0, hz1, hz2⟩ := info_of info8
  have HZ := Lib.hid hz
  have BM : Hid (0 + n ≤ maxLen) := by unfold Hid maxLen; omega
  have BY : Hid ((0 + n) * 1 ≤ 140737488355328) := by unfold Hid; omega
  rcases p with _ | a
  · have c0 := hz.bare rfl
    have n0 : n = 0 := by have := hz.cap; omega
    subst c0 n0
    have fin : Hid (OwnPost w 0 ds (.returned (.slice none 0 0)) w) := by
      have l := hz.len
      rw [valsN_len] at l
      obtain rfl := List.length_eq_zero_iff.1 l
      exact ⟨_, rfl, World.ownsRow_nil w _ _ 1, Below.refl _ _⟩
    clear hz hn
    go_enter Try.func95, Try.ntmps95
    go_wp2_with (at_builtin; refine wpList_append_own_none rfl _ _ 31 rfl w.heap.size 5 i0 1 Try.underlying31 hi _ _ _ rfl (World.ownsRow_nil w _ _ 1) rfl ?_)
    go_wp2
    go_ret
    exact fin.out
  · have cells : Hid (∀ j u, (valsN .u8 ds)[j]? = some u → w.cell? (a.add j) = some u) := fun j u hu => by
      obtain ⟨a', e, h⟩ := hz.cell j u hu
      cases e
      exact h
    have hl : Hid ((valsN .u8 ds).length = n * 1) := by unfold Hid; rw [Nat.mul_one]; exact hz.len
    clear hz hn
    go_enter Try.func95, Try.ntmps95
    go_wp2_with (at_builtin; refine wpList_append_own _ rfl _ _ 31 rfl w.heap.size 5 i0 (.int .u8 0) 1 1 Try.underlying31 hi hz0 hz1 hz2 rfl (by decide) _ 0 [] rfl (World.ownsRow_nil w _ _ 1) a n c (valsN .u8 ds) rfl hl.out cells.out (valsN_one _ _) BM.out BY.out (Nat.le_refl _) ?_)
    intro v' w1 hown hgrow _
    have fin : Hid (OwnPost w n ds (.returned v') w1) := ⟨v', rfl, hown, (Below.refl _ _).grown hgrow (Nat.le_refl _) (fun j hj => by cases hj)⟩
    clear hown hgrow
    go_wp2
    go_ret
    exact fin.out

set_option maxHeartbeats 800000 in
theorem pwidth_any (w : World) (p : Option Addr) (n c : Nat) (zs : List Int) (hz : Holds w p n c (valsI .i64 zs)) (hn : n ≤ 140737488355328) (u e' : Int) (hu : widV zs = u) (he : widE zs = e') :
    Calls Try.prog 82 #[.slice p n c] w fun e w' => e = .returned (.tuple #[.int .i64 u, .int .i64 e']) ∧ w = w' := by
  have hl : zs.length = n := by have := hz.len; rwa [valsI_len] at this
  have HZ := Lib.hid hz
  have HL := Lib.hid hl
  have HU := Lib.hid hu
  have HE := Lib.hid he
  have HN := Lib.hid hn
  clear hz hl hu hn he
  go_enter Try.func82, Try.ntmps82
  go_wp2_with fail
  go_loop [4, 9] (fun s i => ∃ (k : Nat) (t : Int), s = .int .i64 t ∧ i = .int .i64 k ∧ k ≤ n ∧ okAll (zs.take k) ∧ sumI (zs.take k) = t) (fun _ i => n - (intOf i).toNat)
  case atStart => exact ⟨0, 0, rfl, rfl, Nat.zero_le _, by intro z hz; simp at hz, rfl⟩
  case round =>
    obtain ⟨k, t, rfl, rfl, k1, ok, st⟩ := hrel
    have tb := sumI_le ok
    rw [List.length_take, st, HL.out, Nat.min_eq_left k1] at tb
    have k2 : (k : Int) ≤ 140737488355328 := by have := HN.out; omega
    obtain ⟨t1, t2⟩ := tb
    by_cases g : k < n
    · obtain ⟨a, rfl, hc⟩ := HZ.out.atI g
      obtain ⟨z, ez⟩ : ∃ z, z = zs.getD k 0 := ⟨_, rfl⟩
      rw [← ez] at hc
      have g' : (k : Int) < (n : Int) := by omega
      have EZ := Lib.hid ez
      have OK := Lib.hid ok
      have ST := Lib.hid st
      have K1 := Lib.hid k1
      have G := Lib.hid g
      clear ez ok st k1 g
      by_cases s : okS z
      · have s1 : 1 ≤ z := s.1
        have s2 : z ≤ 8 := s.2
        have S := Lib.hid (decide_eq_true s)
        have S' := Lib.hid s
        clear s
        go_wp2_with fail
        refine (pissize_any z _).mono ?_; rintro e w' ⟨rfl, rfl⟩
        rw [S.out]
        go_wp2
        go_round
        case rel =>
          refine ⟨k + 1, t + z, rfl, by go_num, by have := G.out; omega, ?_, ?_⟩
          · rw [takeI_next (by rw [HL.out]; exact G.out), ← EZ.out]; exact okAll_snoc OK.out S'.out
          · rw [takeI_next (by rw [HL.out]; exact G.out), ← EZ.out, sumI_snoc, ST.out]
        case measure => simp [intOf]; have := G.out; omega
      · have S := Lib.hid (decide_eq_false s)
        have S' := Lib.hid s
        have no : Hid (¬ okAll zs) := by
          intro h
          refine S'.out ?_
          rw [EZ.out]
          exact okAll_get h (by rw [HL.out]; exact G.out)
        have fin : Hid (u = 0 ∧ e' = 1) := by
          unfold Hid
          rw [← HU.out, ← HE.out]
          unfold widV widE
          rw [if_neg no.out, if_neg no.out]
          exact ⟨rfl, rfl⟩
        clear s
        go_wp2_with fail
        refine (pissize_any z _).mono ?_; rintro e w' ⟨rfl, rfl⟩
        rw [S.out]
        go_wp2
        go_ret2
        exact ⟨ret_pair fin.out.1.symm fin.out.2.symm, rfl⟩
    · have g' : (n : Int) ≤ (k : Int) := by omega
      have fin : Hid (u = t ∧ e' = 0) := by
        unfold Hid
        have e : zs.take k = zs := List.take_of_length_le (by rw [HL.out]; omega)
        rw [e] at ok st
        rw [← HU.out, ← HE.out, ← st]
        unfold widV widE
        rw [if_pos ok, if_pos ok]
        exact ⟨rfl, rfl⟩
      clear g ok st k1
      go_wp2
      go_ret2
      exact ⟨ret_pair fin.out.1.symm fin.out.2.symm, rfl⟩

theorem psize_ok (z : Int) (h : okS z) (w : World) : Calls Try.prog 96 #[.int .i64 z] w fun e w' => e = .returned (.bool true) ∧ w = w' := by
  have := pissize_any z w
  rwa [decide_eq_true h] at this

theorem un_shift (s m : Nat) (h1 : 1 ≤ s) (h8 : s ≤ 8) :
    IntKind.u64.wrap ((m : Int) * 2 ^ (64 - 8 * s)) / 2 ^ (64 - 8 * s) = ((m % 256 ^ s : Nat) : Int) := by
  rcases eight h1 h8 with rfl | rfl | rfl | rfl | rfl | rfl | rfl | rfl
  all_goals
    simp only [IntKind.wrap_u64, Nat.reducePow, Nat.reduceSub, Nat.reduceMul, Int.reducePow]
    omega

end Go.Proofs.Ytfnidehbibfclaa
/- Layer 3 (octet): the program's iterator over the bytes of a place. -/
namespace Go.Proofs.Ytfnidehbibfclaa
open Go.ChangeShapes Go.WideShapes Go.ChangeAt Go.RowKit OctM
attribute [local go_sem] Oper.semAt_some

/-- What the iterator wants kept across a round: the box of the place. -/
def KpBox (B : Nat) (W W' : World) : Prop := ∀ v, W.cell? ⟨B, 0, none⟩ = some v → W'.cell? ⟨B, 0, none⟩ = some v
theorem kpBox_t {B : Nat} {X Y Z : World} (h : KpBox B X Y) (k : KpBox B Y Z) : KpBox B X Z := fun v e => k v (h v e)
theorem kpBox_b {B : Nat} {w : World} (W : World) (l : Nat) (o o' : Obj) (_ : w.heap.size ≤ l) (h : W.heap[l]? = some o) (ho : o.isCells = false) (_ : o.isWalk = false) : KpBox B W (W.putObj l o') :=
  fun _ e => cell_kept e (grownBy_putObj' W l o') (fun r er => by cases er; exact ⟨o, h, ho⟩)

/-- What a round is handed: the byte's number, and by how many bits its digit is above the lowest one. -/
def shD (s : Nat) (x : Fin s) : Nat := 8 * (s - 1 - x.val)
abbrev encD (s : Nat) (x : Fin s) : Array Value := #[.int .i64 (x.val : Int), .int .i64 (shD s x : Int)]
theorem fin_succ {s k : Nat} (h : k < s) : (List.finRange s).take (k + 1) = (List.finRange s).take k ++ [⟨k, h⟩] := by
  rw [List.take_succ_eq_append_getElem (by simpa using h)]
  simp
theorem fin_len {s k : Nat} (h : k ≤ s) : ((List.finRange s).take k).length = k := by simp [h]

set_option maxHeartbeats 1000000 in
theorem pdigits_in (F : Fence) (n : Nat) (h : F.fn 99) (hro : F.round = none) (a : Option Addr) (len cap : Nat) (w : World) :
    CallsIn F n Try.prog 99 #[.slice a len cap] w fun e w' => e = .returned (.func (.func 102) #[] #[.pointer (some ⟨w.heap.size, 0, none⟩)]) ∧ w' = w.alloc (.cells #[.slice a len cap] 31) := by
  refine callsIn_of_wp Try.func99 rfl h ?_ hro
  simp only [Try.ntmps99, List.size_toArray, List.length_cons, List.length_nil, Nat.reduceAdd, Nat.reduceSub, Array.replicate_succ, Array.replicate_zero, List.push_toArray, List.append_toArray, List.nil_append, List.cons_append]
  gi_wp2
  go_ret
  exact ⟨rfl, rfl⟩

set_option maxRecDepth 100000 in
set_option maxHeartbeats 2000000 in
/-- The closure: each byte's number, with its digit's place; it stops where a round says 'no more'. -/
theorem pdigits1_in (F : Fence) (n : Nat) (h : F.fn 102) (hro : F.round = none) (hn : 1 ≤ n) (l B s cap : Nat) (a : Option Addr) (hs : s ≤ 8) (J Jx : List (Fin s) → World → Prop)
    (hY : ∀ pre x W, J pre W → pre.length < s → YieldAt F (n - 1) Try.prog l (encD s x) W fun e W' =>
      (e = .returned (.bool true) ∧ J (pre ++ [x]) W' ∧ KpBox B W W') ∨ (e = .returned (.bool false) ∧ Jx (pre ++ [x]) W'))
    (W : World) (hB : W.cell? ⟨B, 0, none⟩ = some (.slice a s cap)) (h0 : J [] W) :
    CallsIn F n Try.prog 102 #[.func (.yield l) #[] #[], .pointer (some ⟨B, 0, none⟩)] W fun e W' => (∃ v, e = .returned v) ∧
      ((∃ ys, ys = List.finRange s ∧ J ys W') ∨ (∃ pre, True ∧ Jx pre W')) := by
  have s8 : (s : Int) ≤ 8 := by omega
  have HS := Lib.hid hs
  clear hs
  refine callsIn_of_wp Try.func102 rfl h ?_ hro
  simp only [Try.ntmps102, List.size_toArray, List.length_cons, List.length_nil, Nat.reduceAdd, Nat.reduceSub, Array.replicate_succ, Array.replicate_zero, List.push_toArray, List.append_toArray, List.nil_append, List.cons_append]
  gi_wp2
  gi_loopw [6] (fun i wr => ∃ k : Nat, k ≤ s ∧ i = .int .i64 k ∧ J ((List.finRange s).take k) wr ∧ wr.cell? ⟨B, 0, none⟩ = some (.slice a s cap))
    (fun i _ => s - (intOf i).toNat)
  case atStart => exact ⟨0, Nat.zero_le _, rfl, h0, hB⟩
  case round =>
    obtain ⟨k, hk, rfl, hJ, hc⟩ := hrel
    by_cases hlt : k < s
    · obtain ⟨fn, tmps, assign, body, hy, hR⟩ := hY _ ⟨k, hlt⟩ wr hJ (by rw [fin_len hk]; exact hlt)
      dsimp only [encD] at hy
      obtain ⟨m, hm⟩ : ∃ m : Nat, m = shD s ⟨k, hlt⟩ := ⟨_, rfl⟩
      rw [← hm] at hy
      have em : 8 * ((s : Int) - 1 - (k : Int)) = (m : Int) := by unfold shD at hm; simp only at hm; omega
      have lt' : (k : Int) < (s : Int) := by omega
      clear hm
      gi_wp2
      refine hR.mono ?_
      rintro e W3 (⟨rfl, hJ3, hk3⟩ | ⟨rfl, hJx3⟩)
      · gi_wp2
        go_roundw
        case rel => exact ⟨k + 1, by omega, by simp, by rw [fin_succ hlt]; exact hJ3, hk3 _ hc⟩
        case measure => simp [intOf]; omega
      · gi_wp2
        refine bodyPost_ret (results_none rfl _ _ _) rfl ?_
        exact ⟨⟨_, rfl⟩, .inr ⟨_, trivial, hJx3⟩⟩
    · obtain rfl : k = s := by omega
      gi_wp2
      go_end0
      exact ⟨⟨_, rfl⟩, .inl ⟨_, by rw [List.take_of_length_le (by simp)], hJ⟩⟩

theorem pdigits_stops (F : Fence) (n : Nat) (h : F.fn 102) (hro : F.round = none) (hn : 1 ≤ n) (B s cap : Nat) (a : Option Addr) (hs : s ≤ 8) (w : World) (hB : w.cell? ⟨B, 0, none⟩ = some (.slice a s cap)) :
    SeqStopsK F n Try.prog 102 #[.pointer (some ⟨B, 0, none⟩)] (encD s) (KpBox B) (fun ys => ys = List.finRange s) (fun _ => True) s w := fun l J Jx W hW _ _ hY h0 =>
  pdigits1_in F n h hro hn l B s cap a hs J Jx hY W ((hW.cell (p := ⟨B, 0, none⟩) (World.block_lt_of_cell? w _ hB)).trans hB) h0
end Go.Proofs.Ytfnidehbibfclaa
/- Layer 3 (octet): what the program's write leaves in a place. -/
namespace Go.Proofs.Ytfnidehbibfclaa
open Go.ChangeShapes Go.WideShapes Go.ChangeAt Go.RowKit OctM
attribute [local go_sem] Oper.semAt_some

theorem shD_pow {s : Nat} (x : Fin s) (v : Nat) : v / 2 ^ shD s x % 256 = (digN v s).getD x.val 0 := by
  rw [dig_at v s x.val x.isLt, show shD s x = 8 * (s - 1 - x.val) from rfl, Nat.pow_mul]
theorem shD_le {s : Nat} (hs : s ≤ 8) (x : Fin s) : shD s x ≤ 56 := by unfold shD; omega

theorem grown_more {a b c : World} {N : Nat} {row : Option Nat} (h : a.grownBy b (some N)) (g : b.grownBy c row) (hr : ∀ r, row = some r → r = N ∨ a.heap.size ≤ r) : a.grownBy c (some N) :=
  ⟨g.os.trans h.os, g.tape.trans h.tape, g.output.trans h.output, Nat.le_trans h.size g.size, fun i hi hne => (g.block i (Nat.lt_of_lt_of_le hi h.size) (fun e => by
    rcases hr i e.symm with e' | e'
    · exact hne (by rw [e'])
    · omega)).trans (h.block i hi hne)⟩

/-- What a row holds where the places pre are written. -/
def wroteC (off s v : Nat) (cs : Array Value) (pre : List (Fin s)) (i : Nat) : Option Value :=
  if ∃ x ∈ pre, off + x.val = i then some (.int .u8 ((digN v s).getD (i - off) 0 : Nat)) else cs[i]?

structure WRel (w W : World) (N off s v c : Nat) (cs : Array Value) (pre : List (Fin s)) : Prop where
  row : ∃ cs' : Array Value, W.heap[N]? = some (.cells cs' 5 (0, 0)) ∧ cs'.size = cs.size ∧ ∀ i : Nat, cs'[i]? = wroteC off s v cs pre i
  bp : Boxed W w.heap.size 31 (.slice (some ⟨N, off, none⟩) s c)
  bn : Boxed W (w.heap.size + 1) 24 (.int .u64 (v : Int))
  gr : w.grownBy W (some N)

theorem boxed_set {W : World} {B : Nat} {t : TypeId} {v u : Value} {p : Addr} (h : Boxed W B t v) (hp : p.block ≠ B) : Boxed (W.setCell p u) B t v := by
  unfold Boxed at h ⊢
  exact (Below.heap_setCell W p u B (fun e => hp e.symm)).trans h

theorem wrel_step {w W : World} {N off s v c : Nat} {cs : Array Value} {pre : List (Fin s)} (h : WRel w W N off s v c cs pre) (hN : N < w.heap.size) (hc : off + s ≤ cs.size) (x : Fin s) {p : Addr} (hp : p = ⟨N, off + x.val, none⟩) {d : Nat} (hd : d = (digN v s).getD x.val 0) :
    WRel w (W.setCell p (.int .u8 (d : Int))) N off s v c cs (pre ++ [x]) := by
  subst hp
  obtain ⟨cs', hb, hz, hi⟩ := h.row
  have xl := x.isLt
  refine ⟨⟨_, blk_set hb, by rw [Array.set!_eq_setIfInBounds, Array.size_setIfInBounds]; exact hz, fun i => ?_⟩, boxed_set h.bp (by show N ≠ _; omega), boxed_set h.bn (by show N ≠ _; omega), ?_⟩
  · rw [Array.set!_eq_setIfInBounds, Array.getElem?_setIfInBounds]
    by_cases e : off + x.val = i
    · subst e
      rw [if_pos rfl, if_pos (by omega)]
      unfold wroteC
      rw [if_pos ⟨x, by simp, rfl⟩, Nat.add_sub_cancel_left, hd]
    · rw [if_neg e, hi i]
      unfold wroteC
      by_cases g : ∃ y ∈ pre, off + y.val = i
      · rw [if_pos g, if_pos (by obtain ⟨y, hy, ey⟩ := g; exact ⟨y, List.mem_append_left _ hy, ey⟩)]
      · rw [if_neg g, if_neg]
        rintro ⟨y, hy, ey⟩
        rcases List.mem_append.1 hy with hy | hy
        · exact g ⟨y, hy, ey⟩
        · obtain rfl : y = x := by simpa using hy
          exact e ey
  · refine grown_more h.gr (b := W) (row := some N) ?_ (fun r e => by cases e; exact .inl rfl)
    exact ⟨rfl, rfl, rfl, (KeepsWalks.setCell W _ _).size, fun k _ hk => Below.heap_setCell _ _ _ k (fun e => hk (by rw [e]))⟩

theorem wrel_drew {w W : World} {N off s v c : Nat} {cs : Array Value} {pre : List (Fin s)} (h : WRel w W N off s v c cs pre) : WRel w W.drew N off s v c cs pre :=
  ⟨h.row, h.bp, h.bn, ⟨h.gr.os, h.gr.tape, h.gr.output, h.gr.size, h.gr.block⟩⟩

theorem wrel_own (w : World) (N off s v c B : Nat) (cs : Array Value) (hB : w.heap.size ≤ B) : OwnFrom B (fun pre W => WRel w W N off s v c cs pre) := by
  intro pre X Y row h hg hr
  have ne : ∀ {k : Nat} {C : Array Value} {t : TypeId}, X.heap[k]? = some (.cells C t (0, 0)) → some k ≠ row := fun {k C t} hk e => by
    obtain ⟨_, o, ho, hc⟩ := hr k e.symm
    rw [hk] at ho; cases ho; cases hc
  obtain ⟨cs', hb, hz, hi⟩ := h.row
  refine ⟨⟨cs', (hg.block N (Array.getElem?_eq_some_iff.1 hb).1 (ne hb)).trans hb, hz, hi⟩, h.bp.kept hg (ne h.bp), h.bn.kept hg (ne h.bn), grown_more h.gr hg (fun r e => .inr (Nat.le_trans hB (hr r e).1))⟩

/-- What write leaves. -/
structure Wrote (w : World) (N off s v : Nat) (cs : Array Value) (w' : World) : Prop where
  row : ∃ cs' : Array Value, w'.heap[N]? = some (.cells cs' 5 (0, 0)) ∧ cs'.size = cs.size ∧ ∀ i : Nat, cs'[i]? = if off ≤ i ∧ i < off + s then some (.int .u8 ((digN v s).getD (i - off) 0 : Nat)) else cs[i]?
  gr : w.grownBy w' (some N)

theorem wrel_end {w W : World} {N off s v c D : Nat} {cs : Array Value} {o : Obj} (h : WRel w W N off s v c cs (List.finRange s)) (hN : N < w.heap.size) (hD : w.heap.size ≤ D) : Wrote w N off s v cs (W.putObj D o) := by
  obtain ⟨cs', hb, hz, hi⟩ := h.row
  refine ⟨⟨cs', (World.putObj_heap_other (by omega)).trans hb, hz, fun i => ?_⟩, grown_more h.gr (grownBy_putObj' W D o) (fun r e => by cases e; exact .inr hD)⟩
  rw [hi i]
  unfold wroteC
  by_cases g : off ≤ i ∧ i < off + s
  · rw [if_pos g, if_pos ⟨⟨i - off, by omega⟩, List.mem_finRange _, by simp only; omega⟩]
  · rw [if_neg g, if_neg]
    rintro ⟨y, _, ey⟩
    have := y.isLt
    omega

theorem add_at (N off x : Nat) : (⟨N, off, none⟩ : Addr).add x = ⟨N, off + x, none⟩ := by unfold Addr.add; split <;> simp_all

set_option maxRecDepth 100000 in
set_option maxHeartbeats 4000000 in
theorem pwrite_in (F : Fence) (n : Nat) (h34 : F.fn 85) (h45 : F.fn 99) (h46 : F.fn 102) (hro : F.round = none) (hn : 3 ≤ n)
    (w : World) (N off s c v : Nat) (cs : Array Value) (hN : w.heap[N]? = some (.cells cs 5 (0, 0))) (hs : s ≤ 8) (hc : off + s ≤ cs.size) (hv : v < 18446744073709551616) :
    CallsIn F n Try.prog 85 #[.slice (some ⟨N, off, none⟩) s c, .int .u64 v] w fun e w' => (∃ u, e = .returned u) ∧ Wrote w N off s v cs w' := by
  have h1 : 1 ≤ n := by omega
  have NL : N < w.heap.size := (Array.getElem?_eq_some_iff.1 hN).1
  refine callsIn_of_wp_marks Try.func85 rfl h34 ?_ hro
  simp only [Try.ntmps85, List.size_toArray, List.length_cons, List.length_nil, Nat.reduceAdd, Nat.reduceSub, Array.replicate_succ, Array.replicate_zero, List.push_toArray, List.append_toArray, List.nil_append, List.cons_append]
  have HN := Lib.hid hN
  clear hN
  gi_wp2_with (gi_at_call 99; refine (pdigits_in F (n - 1) h45 hro _ _ _ _).mono ?_; rintro e w' ⟨rfl, rfl⟩)
  have b0 := Boxed.new w 31 (.slice (some ⟨N, off, none⟩) s c)
  have b1 := Boxed.new (w.alloc (.cells #[.slice (some ⟨N, off, none⟩) s c] 31)) 24 (.int .u64 (v : Int))
  rw [World.size_alloc] at b1
  have b2 := Boxed.new ((w.alloc (.cells #[.slice (some ⟨N, off, none⟩) s c] 31)).alloc (.cells #[.int .u64 (v : Int)] 24)) 31 (.slice (some ⟨N, off, none⟩) s c)
  rw [World.size_alloc, World.size_alloc] at b2
  have R0 : WRel w (((w.alloc (.cells #[.slice (some ⟨N, off, none⟩) s c] 31)).alloc (.cells #[.int .u64 (v : Int)] 24)).alloc (.cells #[.slice (some ⟨N, off, none⟩) s c] 31)) N off s v c cs [] := by
    refine ⟨⟨cs, ?_, rfl, fun i => by unfold wroteC; rw [if_neg (by rintro ⟨x, hx, _⟩; cases hx)]⟩, (b0.alloc _).alloc _, b1.alloc _, ?_⟩
    · exact (Below.heap_alloc _ _ _ (by simp; omega)).trans ((Below.heap_alloc _ _ _ (by simp; omega)).trans ((Below.heap_alloc _ _ _ NL).trans HN.out))
    · exact grown_more (grown_more (grown_more (row := none) (World.grownBy.refl w (some N)) (World.grownBy_alloc _ _ _) (fun r e => by cases e)) (World.grownBy_alloc _ _ none) (fun r e => by cases e)) (World.grownBy_alloc _ _ none) (fun r e => by cases e)
  obtain ⟨w3, hw3⟩ : ∃ w3, ((w.alloc (.cells #[.slice (some ⟨N, off, none⟩) s c] 31)).alloc (.cells #[.int .u64 (v : Int)] 24)).alloc (.cells #[.slice (some ⟨N, off, none⟩) s c] 31) = w3 := ⟨_, rfl⟩
  have z3 : w3.heap.size = w.heap.size + 3 := by rw [← hw3]; simp
  have b2' := b2.cell
  rw [hw3] at R0 b2' ⊢
  clear b0 b1 b2 hw3
  refine wpIn_rangeFunc_ownG hro h1 (gf := 102) (lb := #[.pointer (some ⟨w.heap.size + 1 + 1, 0, none⟩)]) rfl h46 (enters_of Try.func102 (by kernel_rfl) rfl)
    (pdigits_stops F (n - 1) h46 hro (by omega) (w.heap.size + 1 + 1) s c _ hs _ b2') kpBox_t kpBox_b (Below.refl _ _) (fun _ => rfl)
    (fun pre W => WRel w W N off s v c cs pre)
    (fun _ _ _ => False)
    (wrel_own w N off s v c w3.heap.size cs (by omega))
    (fun _ _ _ _ _ hs _ _ => hs)
    R0
    (fun x => { tmps := #[.slice (some ⟨N, off, none⟩) s c, .int .u64 v, .pointer (some ⟨w.heap.size, 0, none⟩), .pointer (some ⟨w.heap.size + 1, 0, none⟩), .int .i64 (x.val : Int), .int .i64 (shD s x : Int), .slice (some ⟨N, off, none⟩) s c, .func (.func 102) #[] #[.pointer (some ⟨w.heap.size + 1 + 1, 0, none⟩)], .int .i64 (x.val : Int), .int .i64 (shD s x : Int), undef, undef, undef, undef, undef, undef, undef], defers := [] }) ?assign ?body ?done ?stop
  case assign =>
    intro l x W K hK
    gi_wp2
    exact hK
  case body =>
    rintro l pre x W R _
    have hd : 1 ≤ n - 1 - 1 := by omega
    have hmx : Try.prog.follows .mixedOrders = true := by kernel_rfl
    obtain ⟨cs', hb, hz, hi⟩ := R.row
    have xl := x.isLt
    have c0 := R.bp.cell
    have c1 := R.bn.cell
    obtain ⟨u, cu⟩ : ∃ u, W.cell? ⟨N, off + x.val, none⟩ = some u := by
      rw [blk_cell hb]
      exact ⟨_, Array.getElem?_eq_getElem (by omega)⟩
    have f0 : W.frozen? ⟨N, off + x.val, none⟩ = false := blk_free hb
    have ad : (⟨N, off, none⟩ : Addr).add x.val = ⟨N, off + x.val, none⟩ := add_at _ _ _
    obtain ⟨d, hd'⟩ : ∃ d, d = (digN v s).getD x.val 0 := ⟨_, rfl⟩
    have m56 := shD_le hs x
    have dp := shD_pow x v
    rw [← hd'] at dp
    obtain ⟨k, hk⟩ : ∃ k, k = x.val := ⟨_, rfl⟩
    obtain ⟨m, hm⟩ : ∃ m, m = shD s x := ⟨_, rfl⟩
    rw [← hk] at xl cu f0 ad
    rw [← hm] at m56 dp
    rw [← hk, ← hm]
    have STEP : Hid (KeepsFrom w3.heap.size W (W.setCell ⟨N, off + k, none⟩ (.int .u8 (d : Int))).drew ∧ KpBox (w.heap.size + 1 + 1) W (W.setCell ⟨N, off + k, none⟩ (.int .u8 (d : Int))).drew ∧ WRel w (W.setCell ⟨N, off + k, none⟩ (.int .u8 (d : Int))).drew N off s v c cs (pre ++ [x])) :=
      ⟨((KeepsOthers.setCell _ _ _).trans (KeepsOthers.drew _)).from _, fun u hu => (World.cell?_setCell_other W _ _ _ (fun e => by have := congrArg Addr.block e; simp only at this; omega)).trans hu, wrel_drew (wrel_step R NL hc x (by rw [hk]) hd')⟩
    obtain ⟨q, hq⟩ : ∃ q, q = v / 2 ^ m := ⟨_, rfl⟩
    rw [← hq] at dp
    have e1 : (v : Int) / 2 ^ m = (q : Int) := by rw [hq]; simp
    have qv : q ≤ v := by rw [hq]; exact Nat.div_le_self _ _
    have e2 : IntKind.u64.wrap (q : Int) = (q : Int) := by rw [IntKind.wrap_u64]; omega
    have e3 : IntKind.u8.wrap (q : Int) = (d : Int) := by rw [IntKind.wrap_u8]; omega
    have kl : (k : Int) < (s : Int) := by omega
    have m2 : (m : Int) ≤ 56 := by omega
    have RR := Lib.hid R
    clear hb hz hi R dp hq hk hm hd'
    gi_wp2
    gi_region_with_o (fail)
    all_goals gi_wp2
    all_goals exact STEP.out
  case done =>
    rintro D xs W hD rfl R hK
    gi_wp2
    refine ⟨by simp, .inl ⟨_, _, rfl, run_takeDeferred hK, ?_⟩⟩
    exact ⟨_, results_none rfl _ _ _, ⟨_, rfl⟩, wrel_end R NL (by omega)⟩
  case stop =>
    rintro D c pre W _ _ h _
    exact h.elim

theorem pwrite_any (w : World) (N off s c v : Nat) (cs : Array Value) (hN : w.heap[N]? = some (.cells cs 5 (0, 0))) (hs : s ≤ 8) (hc : off + s ≤ cs.size) (hv : v < 18446744073709551616) :
    Calls Try.prog 85 #[.slice (some ⟨N, off, none⟩) s c, .int .u64 v] w fun e w' => (∃ u, e = .returned u) ∧ Wrote w N off s v cs w' :=
  (callsIn_wide (n := 3)).1 (pwrite_in Fence.wide 3 trivial trivial trivial rfl (by omega) w N off s c v cs hN hs hc hv)
end Go.Proofs.Ytfnidehbibfclaa
/- Layer 3 (octet): the number that the program's read tells of a place. -/
namespace Go.Proofs.Ytfnidehbibfclaa
open Go.ChangeShapes Go.WideShapes Go.ChangeAt Go.RowKit OctM
attribute [local go_sem] Oper.semAt_some

/-- The digits of the places pre, each in its place. -/
def orD (ds : List Nat) (s : Nat) (pre : List (Fin s)) : Nat := pre.foldl (fun m x => m ||| ds.getD x.val 0 * 2 ^ shD s x) 0
theorem orD_snoc (ds : List Nat) (s : Nat) (pre : List (Fin s)) (x : Fin s) : orD ds s (pre ++ [x]) = orD ds s pre ||| ds.getD x.val 0 * 2 ^ shD s x := by unfold orD; rw [List.foldl_append]; rfl
theorem dig_lt {ds : List Nat} (h : Byt ds) {s : Nat} (hs : s ≤ 8) (x : Fin s) : ds.getD x.val 0 * 2 ^ shD s x < 2 ^ 64 := by
  have a := byt_get h x.val
  have b := Nat.pow_le_pow_right (n := 2) (by omega) (shD_le hs x)
  have c : ds.getD x.val 0 * 2 ^ shD s x ≤ 255 * 2 ^ 56 := Nat.mul_le_mul (by omega) b
  omega
theorem orD_lt {ds : List Nat} (h : Byt ds) {s : Nat} (hs : s ≤ 8) (pre : List (Fin s)) : orD ds s pre < 2 ^ 64 := by
  unfold orD
  suffices ∀ (m : Nat), m < 2 ^ 64 → pre.foldl (fun m x => m ||| ds.getD x.val 0 * 2 ^ shD s x) m < 2 ^ 64 from this 0 (by decide)
  induction pre with
  | nil => exact fun m hm => hm
  | cons x pre ih => exact fun m hm => ih _ (Nat.or_lt_two_pow hm (dig_lt h hs x))
theorem or_digit (a d k : Nat) (h : d < 256) : a * 2 ^ (8 * (k + 1)) ||| d * 2 ^ (8 * k) = (a * 256 + d) * 2 ^ (8 * k) := by
  have e : a * 2 ^ (8 * (k + 1)) = (a <<< 8) <<< (8 * k) := by rw [Nat.shiftLeft_eq, Nat.shiftLeft_eq, Nat.mul_add, Nat.pow_add, Nat.mul_one, Nat.mul_comm (2 ^ (8 * k)), Nat.mul_assoc]
  rw [e, ← Nat.shiftLeft_eq d, ← Nat.shiftLeft_or_distrib, ← Nat.shiftLeft_add_eq_or_of_lt (by simpa using h), Nat.shiftLeft_eq, Nat.shiftLeft_eq]
theorem orD_take {ds : List Nat} (h : Byt ds) (k : Nat) (hk : k ≤ ds.length) : orD ds ds.length ((List.finRange ds.length).take k) = numN (ds.take k) * 2 ^ (8 * (ds.length - k)) := by
  induction k with
  | zero => simp [orD, numN]
  | succ k ih =>
    rw [fin_succ (by omega), orD_snoc, ih (by omega), take_next (by omega), numN_snoc]
    unfold shD
    simp only
    rw [show ds.length - k = (ds.length - 1 - k) + 1 by omega, show ds.length - (k + 1) = ds.length - 1 - k by omega, or_digit _ _ _ (byt_get h k)]
theorem orD_all {ds : List Nat} (h : Byt ds) : orD ds ds.length (List.finRange ds.length) = numN ds := by
  have a := orD_take h ds.length (Nat.le_refl _)
  rw [List.take_of_length_le (by simp), List.take_of_length_le (Nat.le_refl _), Nat.sub_self] at a
  simpa using a

structure RRel (w W : World) (a : Addr) (s c : Nat) (ds : List Nat) (pre : List (Fin s)) : Prop where
  bp : Boxed W w.heap.size 31 (.slice (some a) s c)
  bn : Boxed W (w.heap.size + 1) 24 (.int .u64 (orD ds s pre : Nat))
  low : Below w.heap.size w W

theorem rrel_drew {w W : World} {a : Addr} {s c : Nat} {ds : List Nat} {pre : List (Fin s)} (h : RRel w W a s c ds pre) : RRel w W.drew a s c ds pre := ⟨h.bp, h.bn, h.low.drew⟩
theorem rrel_step {w W : World} {a : Addr} {s c : Nat} {ds : List Nat} {pre : List (Fin s)} (h : RRel w W a s c ds pre) (x : Fin s) {r : Nat} (hr : r = orD ds s pre ||| ds.getD x.val 0 * 2 ^ shD s x) :
    RRel w (W.setCell ⟨w.heap.size + 1, 0, none⟩ (.int .u64 (r : Int))) a s c ds (pre ++ [x]) :=
  ⟨boxed_set h.bp (by simp), by rw [orD_snoc, ← hr]; exact h.bn.set _, h.low.setCell (by simp) _⟩
theorem rrel_own (w : World) (a : Addr) (s c B : Nat) (ds : List Nat) (hB : w.heap.size ≤ B) : OwnFrom B (fun pre W => RRel w W a s c ds pre) := by
  intro pre X Y row h hg hr
  have ne : ∀ {k : Nat} {C : Array Value} {t : TypeId}, X.heap[k]? = some (.cells C t (0, 0)) → some k ≠ row := fun {k C t} hk e => by
    obtain ⟨_, o, ho, hc⟩ := hr k e.symm
    rw [hk] at ho; cases ho; cases hc
  exact ⟨h.bp.kept hg (ne h.bp), h.bn.kept hg (ne h.bn), h.low.grown hg h.low.size (fun k e => Nat.le_trans hB (hr k e).1)⟩

set_option maxRecDepth 100000 in
set_option maxHeartbeats 8000000 in
theorem pread_in (F : Fence) (n : Nat) (h36 : F.fn 94) (h45 : F.fn 99) (h46 : F.fn 102) (hro : F.round = none) (hn : 3 ≤ n)
    (w : World) (a : Addr) (s c : Nat) (ds : List Nat) (hz : Holds w (some a) s c (valsN .u8 ds)) (hb : Byt ds) (hs : s ≤ 8) :
    CallsIn F n Try.prog 94 #[.slice (some a) s c] w fun e w' => e = .returned (.int .u64 (numN ds : Nat)) ∧ Below w.heap.size w w' := by
  have h1 : 1 ≤ n := by omega
  have ld : ds.length = s := by have := hz.len; rwa [valsN_len] at this
  have HZ := Lib.hid hz
  have HB := Lib.hid hb
  have LD := Lib.hid ld
  clear hz hb ld
  refine callsIn_of_wp_marks Try.func94 rfl h36 ?_ hro
  simp only [Try.ntmps94, List.size_toArray, List.length_cons, List.length_nil, Nat.reduceAdd, Nat.reduceSub, Array.replicate_succ, Array.replicate_zero, List.push_toArray, List.append_toArray, List.nil_append, List.cons_append]
  gi_wp2_with (gi_at_call 99; refine (pdigits_in F (n - 1) h45 hro _ _ _ _).mono ?_; rintro e w' ⟨rfl, rfl⟩)
  have b0 := Boxed.new w 31 (.slice (some a) s c)
  have b1 := Boxed.new (w.alloc (.cells #[.slice (some a) s c] 31)) 24 (.int .u64 0)
  rw [World.size_alloc] at b1
  have b2 := Boxed.new ((w.alloc (.cells #[.slice (some a) s c] 31)).alloc (.cells #[.int .u64 0] 24)) 31 (.slice (some a) s c)
  rw [World.size_alloc, World.size_alloc] at b2
  have R0 : RRel w (((w.alloc (.cells #[.slice (some a) s c] 31)).alloc (.cells #[.int .u64 0] 24)).alloc (.cells #[.slice (some a) s c] 31)) a s c ds [] :=
    ⟨(b0.alloc _).alloc _, b1.alloc _, (((Below.refl _ w).alloc (Nat.le_refl _) _).alloc (by simp) _).alloc (by simp; omega) _⟩
  obtain ⟨w3, hw3⟩ : ∃ w3, ((w.alloc (.cells #[.slice (some a) s c] 31)).alloc (.cells #[.int .u64 0] 24)).alloc (.cells #[.slice (some a) s c] 31) = w3 := ⟨_, rfl⟩
  have z3 : w3.heap.size = w.heap.size + 3 := by rw [← hw3]; simp
  have b2' := b2.cell
  rw [hw3] at R0 b2' ⊢
  clear b0 b1 b2 hw3
  refine wpIn_rangeFunc_ownG hro h1 (gf := 102) (lb := #[.pointer (some ⟨w.heap.size + 1 + 1, 0, none⟩)]) rfl h46 (enters_of Try.func102 (by kernel_rfl) rfl)
    (pdigits_stops F (n - 1) h46 hro (by omega) (w.heap.size + 1 + 1) s c _ hs _ b2') kpBox_t kpBox_b (Below.refl _ _) (fun _ => rfl)
    (fun pre W => RRel w W a s c ds pre)
    (fun _ _ _ => False)
    (rrel_own w a s c w3.heap.size ds (by omega))
    (fun _ _ _ _ _ hs _ _ => hs)
    R0
    (fun x => { tmps := #[.slice (some a) s c, .pointer (some ⟨w.heap.size, 0, none⟩), .int .u64 0, .pointer (some ⟨w.heap.size + 1, 0, none⟩), .int .i64 (x.val : Int), .int .i64 (shD s x : Int), .slice (some a) s c, .func (.func 102) #[] #[.pointer (some ⟨w.heap.size + 1 + 1, 0, none⟩)], .int .i64 (x.val : Int), .int .i64 (shD s x : Int), undef, undef, undef, undef, undef, undef, undef, undef, undef, undef], defers := [] }) ?assign ?body ?done ?stop
  case assign =>
    intro l x W K hK
    gi_wp2
    exact hK
  case body =>
    rintro l pre x W R _
    have hd : 1 ≤ n - 1 - 1 := by omega
    have hmx : Try.prog.follows .mixedOrders = true := by kernel_rfl
    have xl := x.isLt
    have c0 := R.bp.cell
    have c1 := R.bn.cell
    have f1 := R.bn.frozen
    obtain ⟨a', ea, cu⟩ := (HZ.out.below R.low).atN xl
    cases ea
    have tb := orD_lt HB.out hs pre
    have yb := dig_lt HB.out hs x
    have m56 := shD_le hs x
    have db := byt_get HB.out x.val
    obtain ⟨t, ht⟩ : ∃ t, t = orD ds s pre := ⟨_, rfl⟩
    obtain ⟨r, hr⟩ : ∃ r, r = orD ds s pre ||| ds.getD x.val 0 * 2 ^ shD s x := ⟨_, rfl⟩
    obtain ⟨y, hy⟩ : ∃ y, y = ds.getD x.val 0 * 2 ^ shD s x := ⟨_, rfl⟩
    have STEP : Hid (KeepsFrom w3.heap.size W (W.setCell ⟨w.heap.size + 1, 0, none⟩ (.int .u64 (r : Int))).drew ∧ KpBox (w.heap.size + 1 + 1) W (W.setCell ⟨w.heap.size + 1, 0, none⟩ (.int .u64 (r : Int))).drew ∧ RRel w (W.setCell ⟨w.heap.size + 1, 0, none⟩ (.int .u64 (r : Int))).drew a s c ds (pre ++ [x])) :=
      ⟨((KeepsOthers.setCell _ _ _).trans (KeepsOthers.drew _)).from _, fun u hu => (World.cell?_setCell_other W _ _ _ (fun e => by have := congrArg Addr.block e; simp only at this; omega)).trans hu, rrel_drew (rrel_step R x hr)⟩
    rw [← hy] at yb hr
    rw [← ht] at tb hr c1
    obtain ⟨d, hd'⟩ : ∃ d, d = ds.getD x.val 0 := ⟨_, rfl⟩
    rw [← hd'] at db cu hy
    obtain ⟨k, hk⟩ : ∃ k, k = x.val := ⟨_, rfl⟩
    obtain ⟨m, hm⟩ : ∃ m, m = shD s x := ⟨_, rfl⟩
    rw [← hk] at xl cu
    rw [← hm] at m56 hy
    rw [← hk, ← hm]
    have e0 : IntKind.u64.wrap (d : Int) = (d : Int) := by rw [IntKind.wrap_u64]; omega
    have e1 : (d : Int) * 2 ^ m = (y : Int) := by rw [hy]; simp
    have e2 : IntKind.u64.wrap (y : Int) = (y : Int) := by rw [IntKind.wrap_u64]; omega
    have e3 : bits .or .u64 (t : Int) (y : Int) = (r : Int) := by rw [hr]; exact u64_or_nat t y (by omega) (by omega)
    have kl : (k : Int) < (s : Int) := by omega
    have m2 : (m : Int) ≤ 56 := by omega
    clear R yb tb hr ht hy hd' hk hm db
    gi_wp2
    gi_region_with_o (fail)
    all_goals gi_wp2
    all_goals exact STEP.out
  case done =>
    rintro D xs W hD rfl R hK
    have c1 := R.bn.cell
    have E : Hid (orD ds s (List.finRange s) = numN ds) := by have := LD.out; subst this; exact orD_all HB.out
    rw [E.out] at c1
    gi_wp2
    refine ⟨by simp, .inl ⟨_, _, rfl, run_takeDeferred hK, ?_⟩⟩
    exact ⟨_, results_tmp rfl _ _ _, rfl, R.low.trans (belowK_b (w := w) (Nat.le_refl _) W D _ _ (by omega) hK rfl rfl)⟩
  case stop =>
    rintro D c pre W _ _ h _
    exact h.elim

theorem pread_any (w : World) (p : Option Addr) (s c : Nat) (ds : List Nat) (hz : Holds w p s c (valsN .u8 ds)) (hb : Byt ds) (h1 : 1 ≤ s) (h8 : s ≤ 8) (v : Nat) (hv : numN ds = v) :
    Calls Try.prog 94 #[.slice p s c] w (TellPost w (.returned (.int .u64 v))) := by
  obtain ⟨a, rfl, -⟩ := hz.atN (i := 0) h1
  rw [← hv]
  exact (callsIn_wide (n := 3)).1 (pread_in Fence.wide 3 trivial trivial trivial rfl (by omega) w a s c ds hz hb h8)
end Go.Proofs.Ytfnidehbibfclaa
/- Layer 3 (octet): the program's At. -/
namespace Go.Proofs.Ytfnidehbibfclaa
open Go.ChangeShapes Go.WideShapes Go.ChangeAt Go.RowKit OctM

theorem pat_ok (w : World) (p : Option Addr) (n c at' s : Nat) (ds : List Nat) (hz : Holds w p n c (valsN .u8 ds)) (hb : Byt ds) (h1 : 1 ≤ s) (h8 : s ≤ 8) (hat : at' + s ≤ n) (hn : n ≤ 10000) (v : Nat) (hv : numN ((ds.drop at').take s) = v) :
    Calls Try.prog 80 #[.slice p n c, .int .i64 at', .int .i64 s] w (TellPost w (.returned (.tuple #[.int .u64 v, .bool true]))) := by
  have l := hz.len
  rw [valsN_len] at l
  have cp := hz.cap
  obtain ⟨a, rfl, -⟩ := hz.atN (i := at') (by omega)
  have PC := hz.piece at' (at' + s) (by omega) hat
  rw [show at' + s - at' = s by omega, if_neg (by omega)] at PC
  have PN : Holds w (some (a.add (at' * 1))) s (c - at') (valsN .u8 ((ds.drop at').take s)) := by
    unfold valsN at PC ⊢
    rw [List.map_take, List.map_drop]
    exact PC
  rw [Nat.mul_one] at PN
  have NB := Lib.hid (pread_any w _ s _ _ PN (byt_take (byt_drop hb _) _) h1 h8 v hv)
  have SO := Lib.hid (psize_ok (s : Int) ⟨by omega, by omega⟩)
  have WO : Hid (∀ W, Calls Try.prog 97 #[.slice (some a) n c, .int .i64 at', .int .i64 s] W fun e w' => e = .returned (.bool true) ∧ W = w') := fun W => by
    have := pwithin_any W (some a) n c at' s ⟨by omega, by omega⟩ (by omega)
    rwa [decide_eq_true (by omega)] at this
  have d3 : (at' : Int) ≤ (n : Int) := by omega
  have d5 : (at' : Int) + (s : Int) ≤ (c : Int) := by omega
  have d6 : ¬ c = at' := by omega
  have d7 : (n : Int) ≤ 10000 := by omega
  have d8 : (s : Int) ≤ 8 := by omega
  have E : at' + s - at' = s := by omega
  have d9 : decide ((at' : Int) < 0) = false := by simp
  clear hz hb h1 h8 hat hn hv l cp PC PN
  go_enter Try.func80, Try.ntmps80
  go_wp2_with fail
  refine (SO.out _).mono ?_; rintro e w' ⟨rfl, rfl⟩
  go_wp2_with fail
  refine (WO.out _).mono ?_; rintro e w' ⟨rfl, rfl⟩
  go_wp2_with fail
  refine NB.out.mono ?_; rintro e w' ⟨rfl, L⟩
  have LL := Lib.hid L
  clear L
  go_wp2
  go_ret2
  exact ⟨rfl, LL.out⟩

theorem pat_no (w : World) (p : Option Addr) (n c : Nat) (x z : Int) (hx : I64 x) (hn : n ≤ 10000) (h : ¬ inP n x z) :
    Calls Try.prog 80 #[.slice p n c, .int .i64 x, .int .i64 z] w (TellPost w (.returned (.tuple #[.int .u64 0, .bool false]))) := by
  obtain ⟨x1, x2⟩ := hx
  unfold inP at h
  by_cases s : okS z
  · have SO := Lib.hid (psize_ok z s)
    by_cases c1 : x < 0
    · have e1 : decide (x < 0) = true := by simp; omega
      clear h s hn
      go_enter Try.func80, Try.ntmps80
      go_wp2_with fail
      refine (SO.out _).mono ?_; rintro e w' ⟨rfl, rfl⟩
      go_wp2
      go_ret2
      exact ⟨rfl, Below.refl _ _⟩
    · have e1 : decide (x < 0) = false := by simp; omega
      have c1' : 0 ≤ x := by omega
      have WO : Hid (∀ W, Calls Try.prog 97 #[.slice p n c, .int .i64 x, .int .i64 z] W fun e w' => e = .returned (.bool false) ∧ W = w') := fun W => by
        have := pwithin_any W p n c x z s (by omega)
        rwa [decide_eq_false (fun g => h ⟨s, c1', g⟩)] at this
      clear h s hn c1
      go_enter Try.func80, Try.ntmps80
      go_wp2_with fail
      refine (SO.out _).mono ?_; rintro e w' ⟨rfl, rfl⟩
      go_wp2_with fail
      refine (WO.out _).mono ?_; rintro e w' ⟨rfl, rfl⟩
      go_wp2
      go_ret2
      exact ⟨rfl, Below.refl _ _⟩
  · have SO : Hid (∀ W, Calls Try.prog 96 #[.int .i64 z] W fun e w' => e = .returned (.bool false) ∧ W = w') := fun W => by
      have := pissize_any z W
      rwa [decide_eq_false s] at this
    clear h s hn
    go_enter Try.func80, Try.ntmps80
    go_wp2_with fail
    refine (SO.out _).mono ?_; rintro e w' ⟨rfl, rfl⟩
    go_wp2
    go_ret2
    exact ⟨rfl, Below.refl _ _⟩

theorem pat_any (w : World) (p : Option Addr) (n c : Nat) (ds : List Nat) (x z : Int) (hd : Holds w p n c (valsN .u8 ds)) (hy : Byt ds) (hx : I64 x) (hn : n ≤ 10000) :
    Calls Try.prog 80 #[.slice p n c, .int .i64 x, .int .i64 z] w (TellPost w (.returned (.tuple #[.int .u64 (atV ds x z : Nat), .bool (decide (inP ds.length x z))]))) := by
  have ld : ds.length = n := by have := hd.len; rwa [valsN_len] at this
  subst ld
  by_cases h : inP ds.length x z
  · rw [decide_eq_true h, show atV ds x z = numN ((ds.drop x.toNat).take z.toNat) from if_pos h]
    obtain ⟨s, rfl, h1, h8, es⟩ := okS_nat h.1
    obtain ⟨k, rfl⟩ : ∃ k : Nat, x = (k : Int) := ⟨x.toNat, by have := h.2.1; omega⟩
    rw [Int.toNat_natCast, Int.toNat_natCast]
    exact pat_ok w p _ c k s ds hd hy h1 h8 (by have := h.2.2; omega) hn _ rfl
  · rw [decide_eq_false h, show atV ds x z = 0 from if_neg h]
    exact pat_no w p _ c x z hx hn h
end Go.Proofs.Ytfnidehbibfclaa
/- Layer 3 (octet): the program's places, one behind the other; what Lay's row holds, number by number. -/
namespace Go.Proofs.Ytfnidehbibfclaa
open Go.ChangeShapes Go.WideShapes Go.ChangeAt Go.RowKit OctM

theorem pplaces_any (w : World) (a : Option Addr) (len cap : Nat) :
    Calls Try.prog 84 #[.slice a len cap] w fun e w' => e = .returned (.func (.func 98) #[] #[.pointer (some ⟨w.heap.size, 0, none⟩), .pointer (some ⟨w.heap.size + 1, 0, none⟩)]) ∧
      w' = (w.alloc (.cells #[.slice a len cap] 31)).alloc (.cells #[.int .i64 0] 3) := by
  go_enter Try.func84, Try.ntmps84
  go_wp2
  go_ret
  exact ⟨rfl, rfl⟩

theorem pnext_any (W : World) (B0 B1 : Nat) (a : Addr) (n c t s : Nat) (b0 : Boxed W B0 31 (.slice (some a) n c)) (b1 : Boxed W B1 3 (.int .i64 (t : Int))) (h : t + s ≤ n) (h1 : 1 ≤ s) (hc : n ≤ c) (hn : n ≤ 100000) :
    Calls Try.prog 98 #[.int .i64 s, .pointer (some ⟨B0, 0, none⟩), .pointer (some ⟨B1, 0, none⟩)] W fun e w' => e = .returned (.slice (some (a.add t)) s (c - t)) ∧
      w' = W.setCell ⟨B1, 0, none⟩ (.int .i64 ((t + s : Nat) : Int)) := by
  have c0 := b0.cell
  have c1 := b1.cell
  have f1 := b1.frozen
  have d3 : (t : Int) ≤ (n : Int) := by omega
  have d5 : (t : Int) + (s : Int) ≤ (c : Int) := by omega
  have d6 : ¬ c = t := by omega
  have d7 : (n : Int) ≤ 100000 := by omega
  have d8 : (t : Int) + (s : Int) ≤ 100000 := by omega
  have E : t + s - t = s := by omega
  have EE := Lib.hid E
  clear h h1 hc hn b0 b1 E
  go_enter Try.func98, Try.ntmps98
  go_wp2
  go_ret
  refine ⟨?_, rfl⟩
  show Ending.returned (.slice (some (a.add t)) (t + s - t) (c - t)) = _
  rw [EE.out]

/-- What Lay's row holds where k numbers are laid: block w.heap.size, the two boxes behind it. -/
structure PL (w wr : World) (zs : List Int) (xs : List Nat) (L k : Nat) : Prop where
  row : ∃ cs : Array Value, wr.heap[w.heap.size]? = some (.cells cs 5 (0, 0)) ∧ cs.size = L ∧ ∀ i, i < atT zs k → cs[i]? = some (.int .u8 ((layT zs xs k).getD i 0 : Nat))
  b0 : Boxed wr (w.heap.size + 1) 31 (.slice (some ⟨w.heap.size, 0, none⟩) L L)
  b1 : Boxed wr (w.heap.size + 1 + 1) 3 (.int .i64 (atT zs k : Int))
  low : Below w.heap.size w wr

theorem pl_start (w : World) (zs : List Int) (xs : List Nat) (C : Array Value) (L : Nat) (hC : C.size = L) :
    PL w (((w.alloc (.cells C 5)).alloc (.cells #[.slice (some ⟨w.heap.size, 0, none⟩) L L] 31)).alloc (.cells #[.int .i64 0] 3)) zs xs L 0 := by
  have b0 := Boxed.new (w.alloc (.cells C 5)) 31 (.slice (some ⟨w.heap.size, 0, none⟩) L L)
  rw [World.size_alloc] at b0
  have b1 := Boxed.new ((w.alloc (.cells C 5)).alloc (.cells #[.slice (some ⟨w.heap.size, 0, none⟩) L L] 31)) 3 (.int .i64 0)
  rw [World.size_alloc, World.size_alloc] at b1
  refine ⟨⟨C, ?_, hC, fun i hi => ?_⟩, b0.alloc _, b1, (((Below.refl _ w).alloc (Nat.le_refl _) _).alloc (by simp) _).alloc (by simp; omega) _⟩
  · exact (Below.heap_alloc _ _ _ (by simp; omega)).trans ((Below.heap_alloc _ _ _ (by simp)).trans (heap_alloc_new w _))
  · exact absurd hi (by unfold atT; simp [sumI])

theorem pl_next {w wr w2 : World} {zs : List Int} {xs : List Nat} {L k s x : Nat} {cs : Array Value} (h : PL w wr zs xs L k) (ok : okAll zs) (hk : k < zs.length) (hx : xs.getD k 0 = x) (hs : (zs.getD k 0).toNat = s)
    (hb : wr.heap[w.heap.size]? = some (.cells cs 5 (0, 0))) (g : Wrote (wr.setCell ⟨w.heap.size + 1 + 1, 0, none⟩ (.int .i64 ((atT zs k + s : Nat) : Int))) w.heap.size (atT zs k) s x cs w2) : PL w w2 zs xs L (k + 1) := by
  obtain ⟨cs', hb', hz, hi⟩ := h.row
  rw [hb] at hb'
  obtain rfl : cs = cs' := by injection hb' with e; injection e
  obtain ⟨cs2, h2, z2, i2⟩ := g.row
  have a1 := atT_succ ok hk
  rw [hs] at a1
  have ll : (layT zs xs k).length = atT zs k := by
    have a := layT_len zs xs k ok (by omega)
    have b := atT_int ok (k := k) (by omega)
    omega
  have kept : ∀ {B : Nat} {t : TypeId} {v : Value}, w.heap.size < B → Boxed (wr.setCell ⟨w.heap.size + 1 + 1, 0, none⟩ (.int .i64 ((atT zs k + s : Nat) : Int))) B t v → Boxed w2 B t v := fun hB hv => hv.kept g.gr (fun e => by injection e with e; omega)
  refine ⟨⟨cs2, h2, z2.trans hz, fun i hi' => ?_⟩, kept (by omega) (boxed_set h.b0 (by simp)), ?_, ?_⟩
  · rw [i2 i, layT_succ, hx, hs]
    by_cases e : i < atT zs k
    · rw [if_neg (by omega), hi i e, List.getD_eq_getElem?_getD, List.getD_eq_getElem?_getD, List.getElem?_append_left (by omega)]
    · rw [if_pos (by omega), List.getD_eq_getElem?_getD, List.getD_eq_getElem?_getD, List.getElem?_append_right (by omega), ll]
  · rw [a1]
    exact kept (by omega) (h.b1.set _)
  · refine (h.low.setCell (p := ⟨w.heap.size + 1 + 1, 0, none⟩) (by simp; omega) _).grown g.gr (by simpa using h.low.size) (fun j e => by injection e with e; omega)

theorem pl_end {w wr : World} {zs : List Int} {xs : List Nat} {L : Nat} (h : PL w wr zs xs L zs.length) (ok : okAll zs) (hL : atT zs zs.length = L) (hm : L ≤ 100000) :
    RowPost w L (layT zs xs zs.length) (.returned (.tuple #[.slice (some ⟨w.heap.size, 0, none⟩) L L, .int .i64 0])) wr := by
  obtain ⟨cs, hb, hz, hi⟩ := h.row
  have ll : (layT zs xs zs.length).length = L := by
    have a := layT_len zs xs zs.length ok (Nat.le_refl _)
    have b := atT_int ok (k := zs.length) (Nat.le_refl _)
    omega
  have e : cs.toList = valsN .u8 (layT zs xs zs.length) := by
    apply List.ext_getElem?
    intro i
    rw [Array.getElem?_toList]
    by_cases g : i < L
    · rw [hi i (by omega), valsN_get (by omega)]
    · rw [Array.getElem?_eq_none (by omega), List.getElem?_eq_none (by rw [valsN_len]; omega)]
  have o := own_of_blk (B := w.heap.size) hb hz (by unfold maxLen; omega) (Nat.le_refl _)
  rw [e] at o
  exact ⟨_, rfl, o, h.low⟩
end Go.Proofs.Ytfnidehbibfclaa
/- Layer 3 (octet): the program's Lay. -/
namespace Go.Proofs.Ytfnidehbibfclaa
open Go.ChangeShapes Go.WideShapes Go.ChangeAt Go.RowKit OctM

theorem play_arg (w : World) (p q : Option Addr) (n c m c' : Nat) (zs : List Int) (hz : Holds w p n c (valsI .i64 zs)) (hn : n ≤ 1000) (h : (¬ okAll zs) ∨ m ≠ n) :
    Calls Try.prog 56 #[.slice p n c, .slice q m c'] w (TellPost w (.returned (.tuple #[.slice none 0 0, .int .i64 1]))) := by
  have FIN : Hid (TellPost w (.returned (.tuple #[.slice none 0 0, .int .i64 1])) (.returned (.tuple #[.slice none 0 0, .int .i64 1])) w) := ⟨rfl, Below.refl _ _⟩
  by_cases ok : okAll zs
  · have WD := Lib.hid (pwidth_any w p n c zs hz (by omega) _ 0 rfl (by unfold widE; exact if_pos ok))
    have ne : m ≠ n := h.resolve_left (fun g => g ok)
    have b2 : ((m : Int) != (n : Int)) = true := by simp; omega
    have b3 : ((m : Int) == (n : Int)) = false := by simp; omega
    have b4 : ¬ (m : Int) = (n : Int) := by omega
    generalize widV zs = t at *
    clear h ne hz ok hn
    go_enter Try.func56, Try.ntmps56
    go_wp2_with fail
    refine WD.out.mono ?_; rintro e w' ⟨rfl, rfl⟩
    go_wp2
    go_ret2
    exact FIN.out
  · have WD := Lib.hid (pwidth_any w p n c zs hz (by omega) _ 1 rfl (by unfold widE; exact if_neg ok))
    generalize widV zs = t at *
    clear h hz ok hn
    go_enter Try.func56, Try.ntmps56
    go_wp2_with fail
    refine WD.out.mono ?_; rintro e w' ⟨rfl, rfl⟩
    go_wp2
    go_ret2
    exact FIN.out

theorem fitT_next {zs : List Int} {xs : List Nat} {k s x : Nat} (h : fitT zs xs k) (hx : xs.getD k 0 = x) (hs : (zs.getD k 0).toNat = s) (hf : x < 256 ^ s) : fitT zs xs (k + 1) := fun i hi => by
  by_cases e : i = k
  · subst e; rw [hx, hs]; exact hf
  · exact h i (by omega)

set_option maxRecDepth 100000 in
set_option maxHeartbeats 8000000 in
theorem play_any (w : World) (p q : Option Addr) (n c c' L : Nat) (zs : List Int) (xs : List Nat) (hz : Holds w p n c (valsI .i64 zs)) (hx : Holds w q n c' (valsN .u64 xs)) (h64 : ∀ x ∈ xs, x < 18446744073709551616) (hn : n ≤ 1000) (ok : okAll zs) (hL : atT zs n = L) :
    Calls Try.prog 56 #[.slice p n c, .slice q n c'] w (LayPost w n L zs xs) := by
  have lz : zs.length = n := by have := hz.len; rwa [valsI_len] at this
  have lx : xs.length = n := by have := hx.len; rwa [valsN_len] at this
  have sb := sumI_le ok
  have wi : sumI zs = (L : Int) := by rw [← atT_all ok, lz, hL]
  have WD := Lib.hid (pwidth_any w p n c zs hz (by omega) (L : Int) 0 (by unfold widV; rw [if_pos ok]; exact wi) (by unfold widE; exact if_pos ok))
  have L8 : L ≤ 8000 := by omega
  obtain ⟨C, hC, mk⟩ := make8 L (by omega)
  have HC := Lib.hid hC
  have HZ := Lib.hid hz
  have HX := Lib.hid hx
  have H64 := Lib.hid h64
  have LZ := Lib.hid lz
  have LX := Lib.hid lx
  have HN := Lib.hid hn
  have OK := Lib.hid ok
  have HL := Lib.hid hL
  have HL8 := Lib.hid L8
  have hn' : (n : Int) ≤ 1000 := by omega
  have l8' : (L : Int) ≤ 8000 := by omega
  have bn : ((n : Int) != (n : Int)) = false := by simp
  clear hz hx h64 lz lx sb wi hn ok hL hC L8
  go_enter Try.func56, Try.ntmps56
  go_wp2_with fail
  refine WD.out.mono ?_; rintro e w' ⟨rfl, rfl⟩
  go_wp2_with fail
  go_loop [30] (fun i => ∃ k : Nat, i = .int .i64 k ∧ Hid (k ≤ n) ∧ Hid (fitT zs xs k)) (fun i => 2000 - (intOf i).toNat)
  case atStart => exact ⟨0, rfl, Nat.zero_le _, fun i hi => absurd hi (by omega)⟩
  case round =>
    obtain ⟨k, rfl, hk, hf⟩ := hrel
    by_cases g : k < n
    · have g' : (k : Int) < (n : Int) := by omega
      have G := Lib.hid g
      obtain ⟨a, ea, ca⟩ := HZ.out.atI g
      obtain ⟨b, eb, cb⟩ := HX.out.atN g
      subst ea eb
      obtain ⟨s, es⟩ : ∃ s, (zs.getD k 0).toNat = s := ⟨_, rfl⟩
      obtain ⟨x, ex⟩ : ∃ x, xs.getD k 0 = x := ⟨_, rfl⟩
      have os := okAll_get OK.out (i := k) (by rw [LZ.out]; exact g)
      have e0 : zs.getD k 0 = (s : Int) := by unfold okS at os; omega
      rw [e0] at ca
      rw [ex] at cb
      have xb : x < 18446744073709551616 := by
        rw [← ex, List.getD_eq_getElem?_getD, List.getElem?_eq_getElem (by rw [LX.out]; exact g)]
        exact H64.out _ (List.getElem_mem _)
      have S1 : Hid (1 ≤ s) := by unfold Hid; unfold okS at os; omega
      have S8 : Hid (s ≤ 8) := by unfold Hid; unfold okS at os; omega
      have FT := Lib.hid (pfits_any w x s xb S1.out S8.out)
      have ES := Lib.hid es
      have EX := Lib.hid ex
      by_cases f : x < 256 ^ s
      · rw [decide_eq_true f] at FT
        have NX : Hid (fitT zs xs (k + 1)) := fitT_next hf.out ex es f
        clear f g es ex os e0 xb
        go_wp2_with fail
        refine FT.out.mono ?_; rintro e w' ⟨rfl, rfl⟩
        go_wp2
        go_round
        case rel => exact ⟨k + 1, by go_num, G.out, NX⟩
        case measure => simp [intOf]; omega
      · rw [decide_eq_false f] at FT
        have FIN : Hid (LayPost w n L zs xs (.returned (.tuple #[.slice none 0 0, .int .i64 20])) w) := by
          refine .inr ⟨fun h => f ?_, rfl, Below.refl _ _⟩
          have := h k g
          rwa [ex, es] at this
        clear f g es ex os e0 xb
        go_wp2_with fail
        refine FT.out.mono ?_; rintro e w' ⟨rfl, rfl⟩
        go_wp2
        go_ret2
        exact FIN.out
    · have g' : (n : Int) ≤ (k : Int) := by omega
      have FA : Hid (fitT zs xs n) := by
        unfold Hid
        have ks : k = n := by have := hk.out; omega
        subst ks
        exact hf.out
      clear g hk hf
      go_wp2_with fail
      refine (pplaces_any _ _ _ _).mono ?_; rintro e w' ⟨rfl, rfl⟩
      have P0 := Lib.hid (pl_start w zs xs C L HC.out)
      rw [World.size_alloc]
      generalize hw3 : ((w.alloc (.cells C 5)).alloc (.cells #[.slice (some ⟨w.heap.size, 0, none⟩) L L] 31)).alloc (.cells #[.int .i64 0] 3) = w3 at *
      clear hw3
      go_wp2_with fail
      go_loopw [49] (fun i wr => ∃ k : Nat, i = .int .i64 k ∧ Hid (k ≤ n) ∧ Hid (PL w wr zs xs L k)) (fun i _ => 2000 - (intOf i).toNat)
      case atStart => exact ⟨0, rfl, Nat.zero_le _, P0⟩
      case round =>
        obtain ⟨k, rfl, hk, h⟩ := hrel
        by_cases g : k < n
        · have g' : (k : Int) < (n : Int) := by omega
          have G := Lib.hid g
          obtain ⟨a, ea, ca⟩ := (HZ.out.below h.out.low).atI g
          obtain ⟨b, eb, cb⟩ := (HX.out.below h.out.low).atN g
          subst ea eb
          obtain ⟨s, es⟩ : ∃ s, (zs.getD k 0).toNat = s := ⟨_, rfl⟩
          obtain ⟨x, ex⟩ : ∃ x, xs.getD k 0 = x := ⟨_, rfl⟩
          have os := okAll_get OK.out (i := k) (by rw [LZ.out]; exact g)
          have e0 : zs.getD k 0 = (s : Int) := by unfold okS at os; omega
          rw [e0] at ca
          rw [ex] at cb
          have xb : x < 18446744073709551616 := by
            rw [← ex, List.getD_eq_getElem?_getD, List.getElem?_eq_getElem (by rw [LX.out]; exact g)]
            exact H64.out _ (List.getElem_mem _)
          have s1 : 1 ≤ s := by unfold okS at os; omega
          have s8 : s ≤ 8 := by unfold okS at os; omega
          have a1 := atT_succ OK.out (k := k) (by rw [LZ.out]; exact g)
          rw [es] at a1
          have a2 := atT_mono OK.out (j := k + 1) (k := n) (by omega) (by rw [LZ.out]; exact Nat.le_refl _)
          rw [a1, HL.out] at a2
          obtain ⟨cs, hb, hcs, -⟩ := h.out.row
          have NX := Lib.hid (pnext_any wr (w.heap.size + 1) (w.heap.size + 1 + 1) ⟨w.heap.size, 0, none⟩ L L (atT zs k) s h.out.b0 h.out.b1 a2 s1 (Nat.le_refl _) (by have := HL8.out; omega))
          rw [add_zero'] at NX
          have hb1 : (wr.setCell ⟨w.heap.size + 1 + 1, 0, none⟩ (.int .i64 ((atT zs k + s : Nat) : Int))).heap[w.heap.size]? = some (.cells cs 5 (0, 0)) := (Below.heap_setCell _ _ _ _ (by simp; omega)).trans hb
          have WR := Lib.hid (pwrite_any _ w.heap.size (atT zs k) s (L - atT zs k) x cs hb1 s8 (by omega) xb)
          have ST : Hid (∀ w2, Wrote (wr.setCell ⟨w.heap.size + 1 + 1, 0, none⟩ (.int .i64 ((atT zs k + s : Nat) : Int))) w.heap.size (atT zs k) s x cs w2 → PL w w2 zs xs L (k + 1)) := fun w2 gw =>
            pl_next h.out OK.out (by rw [LZ.out]; exact g) ex es hb gw
          clear g es ex os e0 xb s1 s8 a1 a2 hb hb1 hcs
          go_wp2_with fail
          refine NX.out.mono ?_; rintro e w' ⟨rfl, rfl⟩
          go_wp2_with fail
          refine WR.out.mono ?_; rintro e w2 ⟨⟨u, rfl⟩, gw⟩
          have P1 := Lib.hid (ST.out w2 gw)
          clear gw
          go_wp2
          go_roundw
          case rel => exact ⟨k + 1, by go_num, G.out, P1⟩
          case measure => simp [intOf]; omega
        · have g' : (n : Int) ≤ (k : Int) := by omega
          have FIN : Hid (LayPost w n L zs xs (.returned (.tuple #[.slice (some ⟨w.heap.size, 0, none⟩) L L, .int .i64 0])) wr) := by
            have ks : k = n := by have := hk.out; omega
            subst ks
            have e := LZ.out
            subst e
            exact .inl ⟨FA.out, pl_end h.out OK.out HL.out (by have := HL8.out; omega)⟩
          clear g hk h
          go_wp2
          go_ret2
          exact FIN.out

theorem play_all (w : World) (p q : Option Addr) (n c m c' : Nat) (zs : List Int) (xs : List Nat) (hz : Holds w p n c (valsI .i64 zs)) (hx : Holds w q m c' (valsN .u64 xs)) (h64 : ∀ x ∈ xs, x < 18446744073709551616) (hn : n ≤ 1000) :
    Calls Try.prog 56 #[.slice p n c, .slice q m c'] w (RowR w (layD zs xs) (layE zs xs)) := by
  have lz : zs.length = n := by have := hz.len; rwa [valsI_len] at this
  have lx : xs.length = m := by have := hx.len; rwa [valsN_len] at this
  subst lz
  unfold layD layE
  by_cases h : okAll zs ∧ xs.length = zs.length
  · obtain rfl : m = zs.length := by rw [← lx]; exact h.2
    refine (play_any w p q zs.length c c' _ zs xs hz hx h64 hn h.1 rfl).mono fun e w' k => ?_
    rcases k with ⟨f, r⟩ | ⟨f, r⟩
    · rw [if_pos ⟨h, f⟩, if_pos h, if_pos f]
      refine rowR_row ?_ r
      have a := layT_len zs xs zs.length h.1 (Nat.le_refl _)
      have b := atT_int h.1 (k := zs.length) (Nat.le_refl _)
      omega
    · rw [if_neg (fun g => f g.2), if_pos h, if_neg f]
      exact rowR_nil r
  · rw [if_neg (fun g => h g.1), if_neg h]
    refine (play_arg w p q _ c m c' zs hz hn ?_).mono fun e w' k => rowR_nil k
    by_cases g : okAll zs
    · exact .inr fun e => h ⟨g, by rw [lx, e]⟩
    · exact .inl g
end Go.Proofs.Ytfnidehbibfclaa
/- Layer 3 (octet): the program's Put. -/
namespace Go.Proofs.Ytfnidehbibfclaa
open Go.ChangeShapes Go.WideShapes Go.ChangeAt Go.RowKit OctM

theorem pfits_at (w : World) (v s : Nat) (hv : v < 18446744073709551616) (h1 : 1 ≤ s) (h8 : s ≤ 8) (b : Bool) (hb : decide (v < 256 ^ s) = b) :
    Calls Try.prog 83 #[.int .u64 v, .int .i64 s] w fun e w' => e = .returned (.bool b) ∧ w = w' := by rw [← hb]; exact pfits_any w v s hv h1 h8
theorem pwithin_at (w : World) (p : Option Addr) (n c : Nat) (x z : Int) (hz : okS z) (hn : n ≤ 140737488355328) (b : Bool) (hb : decide (x + z ≤ (n : Int)) = b) :
    Calls Try.prog 97 #[.slice p n c, .int .i64 x, .int .i64 z] w fun e w' => e = .returned (.bool b) ∧ w = w' := by rw [← hb]; exact pwithin_any w p n c x z hz hn
theorem psize_at (z : Int) (w : World) (b : Bool) (hb : decide (okS z) = b) : Calls Try.prog 96 #[.int .i64 z] w fun e w' => e = .returned (.bool b) ∧ w = w' := by rw [← hb]; exact pissize_any z w

/-- A row of the call's own, a place of it written. -/
theorem own_wrote {w1 w2 : World} {B g cap n at' s v : Nat} {cur : Array Value} {ds : List Nat} (hb : B ≤ g) (h1 : n ≤ cap) (h2 : cap ≤ maxLen) (h3 : cur.size = cap * 1) (h4 : cur.toList.take (n * 1) = valsN .u8 ds) (ld : ds.length = n) (hat : at' + s ≤ n)
    (W : Wrote w1 g at' s v cur w2) : w2.ownsRow B 5 1 (.slice (some ⟨g, 0, none⟩) n cap) n (valsN .u8 (ds.take at' ++ digN v s ++ ds.drop (at' + s))) := by
  obtain ⟨cs', hb', hz, hi⟩ := W.row
  refine ⟨?_, .inr ⟨g, cap, cs', rfl, hb, hb', h1, h2, by rw [hz, h3], ?_⟩⟩
  · rw [valsN_len, List.length_append, List.length_append, List.length_take, List.length_drop, digN_len]
    omega
  · apply List.ext_getElem?
    intro i
    rw [Nat.mul_one] at h4 ⊢
    by_cases l : i < n
    · have old := congrArg (fun l : List Value => l[i]?) h4
      simp only [List.getElem?_take, if_pos l, Array.getElem?_toList] at old
      rw [valsN_get (by omega)] at old
      rw [List.getElem?_take, if_pos l, Array.getElem?_toList, hi i, valsN_get (by rw [List.length_append, List.length_append, List.length_take, List.length_drop, digN_len]; omega)]
      simp only [List.getD_eq_getElem?_getD] at old ⊢
      by_cases c1 : i < at'
      · rw [if_neg (by omega), List.append_assoc, List.getElem?_append_left (by rw [List.length_take]; omega), List.getElem?_take, if_pos c1]
        exact old
      · by_cases c2 : i < at' + s
        · rw [if_pos ⟨by omega, c2⟩, List.append_assoc, List.getElem?_append_right (by rw [List.length_take]; omega), List.length_take, Nat.min_eq_left (by omega), List.getElem?_append_left (by rw [digN_len]; omega)]
        · rw [if_neg (by omega), List.getElem?_append_right (by rw [List.length_append, List.length_take, digN_len]; omega), List.length_append, List.length_take, digN_len, Nat.min_eq_left (by omega), List.getElem?_drop, show at' + s + (i - (at' + s)) = i by omega]
          exact old
    · rw [List.getElem?_take, if_neg l, List.getElem?_eq_none (by rw [valsN_len, List.length_append, List.length_append, List.length_take, List.length_drop, digN_len]; omega)]

end Go.Proofs.Ytfnidehbibfclaa
/- Layer 3 (octet): the program's Take. -/
namespace Go.Proofs.Ytfnidehbibfclaa
open Go.ChangeShapes Go.WideShapes Go.ChangeAt Go.RowKit OctM

theorem make64 (s : Nat) (hs : s ≤ 100000) : ∃ C : Array Value, C.size = s ∧ ∀ w, (Instr.makeSlice 86 (.int .i64 (s : Int)) (.int .i64 (s : Int))).run Try.prog w = .ok (.slice (some ⟨w.heap.size, 0, none⟩) s s) (w.alloc (.cells C 24)) := by
  obtain ⟨i, hi, h0, h1, h2⟩ := info_of info64
  refine ⟨madeCells #[Value.int .u64 0] s, size_madeCells _ _, fun w => ?_⟩
  have r := run_make (P := Try.prog) w 86 24 i (.int .u64 0) Try.underlying86 hi h0 .i64 .i64 (s : Int) (s : Int) (by omega) (by omega) (by rw [h2]; omega) (by omega)
  rw [h1, Int.toNat_natCast, Nat.mul_one] at r
  exact r

theorem ptake_arg (w : World) (p q : Option Addr) (n c m c' : Nat) (zs : List Int) (hz : Holds w p n c (valsI .i64 zs)) (hn : n ≤ 1000) (h : ¬ okAll zs) :
    Calls Try.prog 76 #[.slice p n c, .slice q m c'] w (TellPost w (.returned (.tuple #[.slice none 0 0, .slice none 0 0, .int .i64 1]))) := by
  have FIN : Hid (TellPost w (.returned (.tuple #[.slice none 0 0, .slice none 0 0, .int .i64 1])) (.returned (.tuple #[.slice none 0 0, .slice none 0 0, .int .i64 1])) w) := ⟨rfl, Below.refl _ _⟩
  have WD := Lib.hid (pwidth_any w p n c zs hz (by omega) _ 1 rfl (by unfold widE; exact if_neg h))
  generalize widV zs = t at *
  clear h hz hn
  go_enter Try.func76, Try.ntmps76
  go_wp2_with fail
  refine WD.out.mono ?_; rintro e w' ⟨rfl, rfl⟩
  go_wp2
  go_ret3
  exact FIN.out

theorem ptake_short (w : World) (p q : Option Addr) (n c m c' : Nat) (zs : List Int) (hz : Holds w p n c (valsI .i64 zs)) (hn : n ≤ 1000) (ok : okAll zs) (h : (m : Int) < sumI zs) :
    Calls Try.prog 76 #[.slice p n c, .slice q m c'] w (TellPost w (.returned (.tuple #[.slice none 0 0, .slice none 0 0, .int .i64 4]))) := by
  have FIN : Hid (TellPost w (.returned (.tuple #[.slice none 0 0, .slice none 0 0, .int .i64 4])) (.returned (.tuple #[.slice none 0 0, .slice none 0 0, .int .i64 4])) w) := ⟨rfl, Below.refl _ _⟩
  have WD := Lib.hid (pwidth_any w p n c zs hz (by omega) (sumI zs) 0 (by unfold widV; exact if_pos ok) (by unfold widE; exact if_pos ok))
  have b2 : decide ((m : Int) < sumI zs) = true := by simp; omega
  generalize sumI zs = t at *
  clear hz hn ok
  go_enter Try.func76, Try.ntmps76
  go_wp2_with fail
  refine WD.out.mono ?_; rintro e w' ⟨rfl, rfl⟩
  go_wp2
  go_ret3
  exact FIN.out

/-- What Take has laid where k numbers are taken. -/
structure PT (w wr : World) (zs : List Int) (ds : List Nat) (q : Option Addr) (m c' n k : Nat) : Prop where
  row : ∃ cs : Array Value, wr.heap[w.heap.size]? = some (.cells cs 24 (0, 0)) ∧ cs.size = n ∧ ∀ i, i < k → cs[i]? = some (.int .u64 ((takT zs ds k).getD i 0 : Nat))
  b0 : Boxed wr (w.heap.size + 1) 31 (.slice q m c')
  b1 : Boxed wr (w.heap.size + 1 + 1) 3 (.int .i64 (atT zs k : Int))
  low : Below w.heap.size w wr

theorem pt_start (w : World) (zs : List Int) (ds : List Nat) (C : Array Value) (q : Option Addr) (m c' n : Nat) (hC : C.size = n) :
    PT w (((w.alloc (.cells C 24)).alloc (.cells #[.slice q m c'] 31)).alloc (.cells #[.int .i64 0] 3)) zs ds q m c' n 0 := by
  have b0 := Boxed.new (w.alloc (.cells C 24)) 31 (.slice q m c')
  rw [World.size_alloc] at b0
  have b1 := Boxed.new ((w.alloc (.cells C 24)).alloc (.cells #[.slice q m c'] 31)) 3 (.int .i64 0)
  rw [World.size_alloc, World.size_alloc] at b1
  refine ⟨⟨C, ?_, hC, fun i hi => absurd hi (by omega)⟩, b0.alloc _, b1, (((Below.refl _ w).alloc (Nat.le_refl _) _).alloc (by simp) _).alloc (by simp; omega) _⟩
  exact (Below.heap_alloc _ _ _ (by simp; omega)).trans ((Below.heap_alloc _ _ _ (by simp)).trans (heap_alloc_new w _))

theorem takT_get (zs : List Int) (ds : List Nat) (k i : Nat) (h : i < k) : (takT zs ds (k + 1)).getD i 0 = (takT zs ds k).getD i 0 := by
  show (takT zs ds k ++ [_]).getD i 0 = _
  simp only [List.getD_eq_getElem?_getD]
  rw [List.getElem?_append_left (by rw [takT_len]; exact h)]
theorem takT_last (zs : List Int) (ds : List Nat) (k : Nat) : (takT zs ds (k + 1)).getD k 0 = numN ((ds.drop (atT zs k)).take (zs.getD k 0).toNat) := by
  show (takT zs ds k ++ [_]).getD k 0 = _
  rw [List.getD_eq_getElem?_getD, List.getElem?_append_right (by rw [takT_len]; exact Nat.le_refl _), takT_len, Nat.sub_self]
  rfl

theorem pt_next {w wr w2 : World} {zs : List Int} {ds : List Nat} {q : Option Addr} {m c' n k s x : Nat} (h : PT w wr zs ds q m c' n k) (ok : okAll zs) (hk : k < zs.length) (hn : k < n) (hs : (zs.getD k 0).toNat = s) (hx : numN ((ds.drop (atT zs k)).take s) = x)
    (g : Below (wr.setCell ⟨w.heap.size + 1 + 1, 0, none⟩ (.int .i64 ((atT zs k + s : Nat) : Int))).heap.size (wr.setCell ⟨w.heap.size + 1 + 1, 0, none⟩ (.int .i64 ((atT zs k + s : Nat) : Int))) w2) :
    PT w (w2.setCell ⟨w.heap.size, k, none⟩ (.int .u64 (x : Int))) zs ds q m c' n (k + 1) ∧ (∃ u, w2.cell? ⟨w.heap.size, k, none⟩ = some u) ∧ w2.frozen? ⟨w.heap.size, k, none⟩ = false := by
  obtain ⟨cs, hb, hz, hi⟩ := h.row
  have a1 := atT_succ ok hk
  rw [hs] at a1
  have hb1 : (wr.setCell ⟨w.heap.size + 1 + 1, 0, none⟩ (.int .i64 ((atT zs k + s : Nat) : Int))).heap[w.heap.size]? = some (.cells cs 24 (0, 0)) := (Below.heap_setCell _ _ _ _ (by simp; omega)).trans hb
  have hb2 : w2.heap[w.heap.size]? = some (.cells cs 24 (0, 0)) := (g.block _ (Array.getElem?_eq_some_iff.1 hb1).1).trans hb1
  have kept : ∀ {B : Nat} {t : TypeId} {v : Value}, w.heap.size < B → Boxed (wr.setCell ⟨w.heap.size + 1 + 1, 0, none⟩ (.int .i64 ((atT zs k + s : Nat) : Int))) B t v → Boxed (w2.setCell ⟨w.heap.size, k, none⟩ (.int .u64 (x : Int))) B t v := fun hB hv =>
    boxed_set ((g.block _ hv.lt).trans hv) (by simp; omega)
  refine ⟨⟨⟨_, blk_set hb2, by rw [Array.set!_eq_setIfInBounds, Array.size_setIfInBounds]; exact hz, fun i hi' => ?_⟩, kept (by omega) (boxed_set h.b0 (by simp)), ?_, ?_⟩, ⟨_, by rw [blk_cell hb2]; exact Array.getElem?_eq_getElem (by omega)⟩, blk_free hb2⟩
  · rw [Array.set!_eq_setIfInBounds, Array.getElem?_setIfInBounds]
    by_cases e : k = i
    · subst e
      rw [if_pos rfl, if_pos (by omega), takT_last, hs, hx]
    · rw [if_neg e, hi i (by omega), takT_get _ _ _ _ (by omega)]
  · rw [a1]
    exact kept (by omega) (h.b1.set _)
  · exact ((h.low.setCell (p := ⟨w.heap.size + 1 + 1, 0, none⟩) (by simp; omega) _).trans (g.mono (by simpa using h.low.size))).setCell (Nat.le_refl _) _

theorem pt_end {w wr : World} {zs : List Int} {ds : List Nat} {q : Option Addr} {m c' n : Nat} (h : PT w wr zs ds q m c' n n) (hm : n ≤ 100000) :
    wr.ownsRow w.heap.size 24 1 (.slice (some ⟨w.heap.size, 0, none⟩) n n) n (valsN .u64 (takT zs ds n)) := by
  obtain ⟨cs, hb, hz, hi⟩ := h.row
  have e : cs.toList = valsN .u64 (takT zs ds n) := by
    apply List.ext_getElem?
    intro i
    rw [Array.getElem?_toList]
    by_cases g : i < n
    · rw [hi i g, valsN_get (by rw [takT_len]; exact g)]
    · rw [Array.getElem?_eq_none (by omega), List.getElem?_eq_none (by rw [valsN_len, takT_len]; omega)]
  have o := own_of_blk (B := w.heap.size) hb hz (by unfold maxLen; omega) (Nat.le_refl _)
  rw [e] at o
  exact o

theorem pt_post {w wr w2 : World} {zs : List Int} {ds : List Nat} {q : Option Addr} {m c' n W : Nat} {r : Value} (h : PT w wr zs ds q m c' n n) (hm : n ≤ 100000) (o : w2.ownsRow wr.heap.size 5 1 r (m - W) (valsN .u8 (ds.drop W))) (l : Below wr.heap.size wr w2) :
    TakePost w n m W zs ds (.returned (.tuple #[.slice (some ⟨w.heap.size, 0, none⟩) n n, r, .int .i64 0])) w2 :=
  ⟨_, r, rfl, own_keep (pt_end h hm) l, own_base o h.low.size, h.low.trans (l.mono h.low.size)⟩

set_option maxRecDepth 100000 in
set_option maxHeartbeats 8000000 in
theorem ptake_ok (w : World) (p q : Option Addr) (n c m c' W : Nat) (zs : List Int) (ds : List Nat) (hz : Holds w p n c (valsI .i64 zs)) (hd : Holds w q m c' (valsN .u8 ds)) (hy : Byt ds) (hn : n ≤ 1000) (hm : m ≤ 10000) (ok : okAll zs) (hW : atT zs n = W) (h : W ≤ m) :
    Calls Try.prog 76 #[.slice p n c, .slice q m c'] w (TakePost w n m W zs ds) := by
  have lz : zs.length = n := by have := hz.len; rwa [valsI_len] at this
  have wi : sumI zs = (W : Int) := by rw [← atT_all ok, lz, hW]
  have WD := Lib.hid (pwidth_any w p n c zs hz (by omega) (W : Int) 0 (by unfold widV; rw [if_pos ok]; exact wi) (by unfold widE; exact if_pos ok))
  obtain ⟨C, hC, mk⟩ := make64 n (by omega)
  have HC := Lib.hid hC
  have cp' : m ≤ c' := hd.cap
  have HZ := Lib.hid hz
  have HD := Lib.hid hd
  have LZ := Lib.hid lz
  have HN := Lib.hid hn
  have OK := Lib.hid ok
  have HW := Lib.hid hW
  have HM := Lib.hid hm
  have HY := Lib.hid hy
  have b2 : decide ((m : Int) < (W : Int)) = false := by simp; omega
  have b3 : decide (m < W) = false := by simp; omega
  have b4 : (W : Int) ≤ (m : Int) := by omega
  have b5 : (m : Int) ≤ (c' : Int) := by omega
  have b6 : (m : Int) ≤ 10000 := by omega
  have H := Lib.hid h
  have hn' : (n : Int) ≤ 1000 := by omega
  have CP := Lib.hid cp'
  have N5 : Hid (n ≤ 100000) := by unfold Hid; omega
  clear hz hd lz wi hn ok hW hm hy h cp' hC
  go_enter Try.func76, Try.ntmps76
  go_wp2_with fail
  refine WD.out.mono ?_; rintro e w' ⟨rfl, rfl⟩
  go_wp2_with fail
  refine (pplaces_any _ _ _ _).mono ?_; rintro e w' ⟨rfl, rfl⟩
  have P0 := Lib.hid (pt_start w zs ds C q m c' n HC.out)
  rw [World.size_alloc]
  generalize hw3 : ((w.alloc (.cells C 24)).alloc (.cells #[.slice q m c'] 31)).alloc (.cells #[.int .i64 0] 3) = w3 at *
  clear hw3
  go_wp2_with fail
  go_loopw [32] (fun i wr => ∃ k : Nat, i = .int .i64 k ∧ Hid (k ≤ n) ∧ Hid (PT w wr zs ds q m c' n k)) (fun i _ => 2000 - (intOf i).toNat)
  case atStart => exact ⟨0, rfl, Nat.zero_le _, P0⟩
  case round =>
    obtain ⟨k, rfl, hk, h⟩ := hrel
    by_cases g : k < n
    · have g' : (k : Int) < (n : Int) := by omega
      have G := Lib.hid g
      obtain ⟨a, ea, ca⟩ := (HZ.out.below h.out.low).atI g
      subst ea
      obtain ⟨s, es⟩ : ∃ s, (zs.getD k 0).toNat = s := ⟨_, rfl⟩
      have os := okAll_get OK.out (i := k) (by rw [LZ.out]; exact g)
      have e0 : zs.getD k 0 = (s : Int) := by unfold okS at os; omega
      rw [e0] at ca
      have s1 : 1 ≤ s := by unfold okS at os; omega
      have s8 : s ≤ 8 := by unfold okS at os; omega
      have a1 := atT_succ OK.out (k := k) (by rw [LZ.out]; exact g)
      rw [es] at a1
      have a2 := atT_mono OK.out (j := k + 1) (k := n) (by omega) (by rw [LZ.out]; exact Nat.le_refl _)
      rw [a1, HW.out] at a2
      have tm : atT zs k + s ≤ m := Nat.le_trans a2 H.out
      obtain ⟨b, eb, -⟩ := HD.out.atN (i := atT zs k) (by omega)
      subst eb
      have NX := Lib.hid (pnext_any wr (w.heap.size + 1) (w.heap.size + 1 + 1) b m c' (atT zs k) s h.out.b0 h.out.b1 tm s1 CP.out (by have := HM.out; omega))
      obtain ⟨x, ex⟩ : ∃ x, numN ((ds.drop (atT zs k)).take s) = x := ⟨_, rfl⟩
      have lo1 : Below w.heap.size w (wr.setCell ⟨w.heap.size + 1 + 1, 0, none⟩ (.int .i64 ((atT zs k + s : Nat) : Int))) := h.out.low.setCell (by simp; omega) _
      have PC := (HD.out.below lo1).piece (atT zs k) (atT zs k + s) (by omega) tm
      rw [show atT zs k + s - atT zs k = s by omega, if_neg (by have := CP.out; omega)] at PC
      have PN : Holds (wr.setCell ⟨w.heap.size + 1 + 1, 0, none⟩ (.int .i64 ((atT zs k + s : Nat) : Int))) (some (b.add (atT zs k))) s (c' - atT zs k) (valsN .u8 ((ds.drop (atT zs k)).take s)) := by
        rw [Nat.mul_one] at PC
        unfold valsN at PC ⊢
        rw [List.map_take, List.map_drop]
        exact PC
      have RD := Lib.hid (pread_any _ _ s _ _ PN (byt_take (byt_drop HY.out _) _) s1 s8 x ex)
      have ST := Lib.hid (fun w2 gw => pt_next (w2 := w2) h.out OK.out (by rw [LZ.out]; exact g) g es ex gw)
      have ad : (⟨w.heap.size, 0, none⟩ : Addr).add k = ⟨w.heap.size, k, none⟩ := add_zero' _ _
      clear g es os e0 a1 a2 tm PC PN ex s1 s8 lo1
      go_wp2_with fail
      refine NX.out.mono ?_; rintro e w' ⟨rfl, rfl⟩
      go_wp2_with fail
      refine RD.out.mono ?_; rintro e w2 ⟨rfl, gw⟩
      obtain ⟨P1, ⟨u, cu⟩, fu⟩ := ST.out w2 gw
      replace P1 := Lib.hid P1
      clear gw
      go_wp2
      go_roundw
      case rel => exact ⟨k + 1, by go_num, G.out, P1⟩
      case measure => simp [intOf]; omega
    · have g' : (n : Int) ≤ (k : Int) := by omega
      have ks : k = n := by have := hk.out; omega
      subst ks
      have hd' := HD.out.below h.out.low
      have DO := drop_own hd' H.out
      clear hd'
      rcases q with _ | b
      · have cz : c' = 0 := HD.out.bare rfl
        have mz : m = 0 := by have := CP.out; omega
        have tz : W = 0 := by have := H.out; omega
        subst cz mz tz
        rw [if_pos rfl] at DO
        have OW := Lib.hid (pcopied_any wr none 0 0 (ds.drop 0) DO (by omega))
        clear DO
        go_wp2_with fail
        refine OW.out.mono ?_; rintro e w2 ⟨r, rfl, o2, l2⟩
        have FIN := Lib.hid (pt_post (W := 0) h.out N5.out o2 l2)
        clear o2 l2
        go_wp2
        go_ret3
        exact FIN.out
      · by_cases cc : c' = W
        · rw [if_pos cc] at DO
          have z0 : c' - W = 0 := by omega
          rw [z0] at DO
          have OW := Lib.hid (pcopied_any wr (some b) (m - W) 0 (ds.drop W) DO (by have := HM.out; omega))
          clear DO z0
          go_wp2_with fail
          refine OW.out.mono ?_; rintro e w2 ⟨r, rfl, o2, l2⟩
          have FIN := Lib.hid (pt_post (W := W) h.out N5.out o2 l2)
          clear o2 l2
          go_wp2
          go_ret3
          exact FIN.out
        · rw [if_neg cc, Nat.mul_one] at DO
          have OW := Lib.hid (pcopied_any wr (some (b.add W)) (m - W) (c' - W) (ds.drop W) DO (by have := HM.out; omega))
          have cc' : ¬ W = c' := fun e => cc e.symm
          clear DO
          go_wp2_with fail
          refine OW.out.mono ?_; rintro e w2 ⟨r, rfl, o2, l2⟩
          have FIN := Lib.hid (pt_post (W := W) h.out N5.out o2 l2)
          clear o2 l2
          go_wp2
          go_ret3
          exact FIN.out

theorem ptake_all (w : World) (p q : Option Addr) (n c m c' : Nat) (zs : List Int) (ds : List Nat) (hz : Holds w p n c (valsI .i64 zs)) (hd : Holds w q m c' (valsN .u8 ds)) (hy : Byt ds) (hn : n ≤ 1000) (hm : m ≤ 10000) :
    Calls Try.prog 76 #[.slice p n c, .slice q m c'] w (TakR w (takX zs ds) (takD zs ds) (takE zs ds)) := by
  have lz : zs.length = n := by have := hz.len; rwa [valsI_len] at this
  have ld : ds.length = m := by have := hd.len; rwa [valsN_len] at this
  subst lz ld
  unfold takX takD takE
  by_cases ok : okAll zs
  · by_cases g : sumI zs ≤ (ds.length : Int)
    · rw [if_pos ⟨ok, g⟩, if_pos ⟨ok, g⟩, if_pos ok, if_neg (by omega)]
      have aw := atT_all ok
      have wm : atT zs zs.length ≤ ds.length := by omega
      refine (ptake_ok w p q _ c _ c' (atT zs zs.length) zs ds hz hd hy hn hm ok rfl wm).mono fun e w' k => ?_
      obtain ⟨v, r, rfl, o1, o2, l⟩ := k.out
      have e1 := takT_len zs ds zs.length
      have e2 : (ds.drop (atT zs zs.length)).length = ds.length - atT zs zs.length := List.length_drop
      rw [← e2] at o2
      generalize takT zs ds zs.length = X at *
      rw [← e1] at o1
      obtain ⟨p1, c1, rfl, n1⟩ := own_new o1
      obtain ⟨p2, c2, rfl, n2⟩ := own_new o2
      exact ⟨p1, c1, p2, c2, rfl, n1, n2, l⟩
    · rw [if_neg (fun x => g x.2), if_neg (fun x => g x.2), if_pos ok, if_pos (by omega)]
      exact (ptake_short w p q _ c _ c' zs hz hn ok (by omega)).mono fun e w' k => ⟨none, 0, none, 0, k.1, New.nil _ _, New.nil _ _, k.2⟩
  · rw [if_neg (fun x => ok x.1), if_neg (fun x => ok x.1), if_neg ok]
    exact (ptake_arg w p q _ c _ c' zs hz hn ok).mono fun e w' k => ⟨none, 0, none, 0, k.1, New.nil _ _, New.nil _ _, k.2⟩
end Go.Proofs.Ytfnidehbibfclaa
