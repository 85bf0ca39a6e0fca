/- Texts of earlier layers, laid together: XOctR XOctD XOctA XOctS XOctP XOctL XOctT XOctU XOctV XOctX XOctZ XSoft. -/
import Derived.Test.YtfnidehbibfclaaGA
import Derived.Laws.MakeOwn
import Derived.Deep.RegionHeld3
set_option maxRecDepth 100000
/- Contracts of the document's own answers for layer 3 (octet): sizes, widths, numbers. -/
namespace Go.Proofs.Ytfnidehbibfclaa
open Go.ChangeShapes Go.WideShapes Go.ChangeAt Go.RowKit OctM

def widthI (zs : List Int) : Int := if okAll zs then sumI zs else -1

set_option maxHeartbeats 800000 in
theorem rnumber_any (w : World) (p : Option Addr) (n c : Nat) (ds : List Nat) (hz : Holds w p n c (valsN .u8 ds)) (hb : Byt ds) (hn : n ≤ 8) (v : Nat) (hv : numN ds = v) :
    Calls Try.prog 53 #[.slice p n c] w fun e w' => e = .returned (.int .u64 v) ∧ w = w' := by
  have hl : ds.length = n := by have := hz.len; rwa [valsN_len] at this
  have HZ := Lib.hid hz
  have HL := Lib.hid hl
  have HV := Lib.hid hv
  have HB := Lib.hid hb
  clear hz hl hv hb
  go_enter Try.func53, Try.ntmps53
  go_wp2_with fail
  go_loop [3, 4] (fun s i => ∃ (k t : Nat), s = .int .u64 t ∧ i = .int .i64 k ∧ k ≤ n ∧ numN (ds.take k) = t) (fun _ i => n - (intOf i).toNat)
  case atStart => exact ⟨0, 0, rfl, rfl, Nat.zero_le _, rfl⟩
  case round =>
    obtain ⟨k, t, rfl, rfl, k1, st⟩ := hrel
    by_cases g : k < n
    · obtain ⟨a, rfl, hc⟩ := HZ.out.atN g
      obtain ⟨z, ez⟩ : ∃ z, z = ds.getD k 0 := ⟨_, rfl⟩
      rw [← ez] at hc
      have z1 : z < 256 := by rw [ez]; exact byt_get HB.out k
      have tb := numN_lt (byt_take HB.out k)
      rw [st, List.length_take, HL.out, Nat.min_eq_left k1] at tb
      have pb := Nat.pow_le_pow_right (n := 256) (by omega) (show k ≤ 7 by omega)
      have tb2 : t < 72057594037927936 := Nat.lt_of_lt_of_le tb pb
      obtain ⟨m, hm⟩ : ∃ m, m = t * 256 := ⟨_, rfl⟩
      obtain ⟨q, hq⟩ : ∃ q, q = m + z := ⟨_, rfl⟩
      have e1 : IntKind.u64.wrap ((t : Int) * 256) = (m : Int) := by rw [IntKind.wrap_u64]; omega
      have e2 : IntKind.u64.wrap (z : Int) = (z : Int) := by rw [IntKind.wrap_u64]; omega
      have e3 : IntKind.u64.wrap ((m : Int) + (z : Int)) = (q : Int) := by rw [IntKind.wrap_u64]; omega
      have g' : (k : Int) < (n : Int) := by omega
      have EQ : Hid (q = numN (ds.take (k + 1))) := by unfold Hid; rw [take_next (by rw [HL.out]; exact g), ← ez, numN_snoc, st, hq, hm]
      have K8 : (k : Int) ≤ 8 := by omega
      have G := Lib.hid g
      clear ez st k1 g tb pb tb2 hm hq z1
      go_wp2
      go_round
      case rel => exact ⟨k + 1, q, rfl, by go_num, by have := G.out; omega, EQ.out.symm⟩
      case measure => simp [intOf]; have := G.out; omega
    · have g' : (n : Int) ≤ (k : Int) := by omega
      have fin : Hid (t = v) := by
        unfold Hid
        have e : ds.take k = ds := List.take_of_length_le (by rw [HL.out]; omega)
        rw [e] at st
        rw [← HV.out, ← st]
      clear g st k1
      go_wp2
      go_ret
      exact ⟨by rw [fin.out]; rfl, rfl⟩
end Go.Proofs.Ytfnidehbibfclaa
/- Contracts of the document's own answers for layer 3 (octet): a number's digits, in new memory. -/
namespace Go.Proofs.Ytfnidehbibfclaa
open Go.ChangeShapes Go.WideShapes Go.ChangeAt Go.RowKit OctM

theorem info8 : (Try.prog.info? 5).map (fun i => (i.zero, i.size, i.bytes)) = some (some (.int .u8 0), 1, 1) := by kernel_rfl
theorem info_of {o : Option TypeInfo} {z : Option Value} {s b : Nat} (h : o.map (fun i => (i.zero, i.size, i.bytes)) = some (z, s, b)) : ∃ i, o = some i ∧ i.zero = z ∧ i.size = s ∧ i.bytes = b := by
  obtain ⟨i, hi, h⟩ := Option.map_eq_some_iff.1 h
  simp only [Prod.mk.injEq] at h
  exact ⟨i, hi, h.1, h.2.1, h.2.2⟩

/-- New bytes, nothing in them. -/
theorem make8 (s : Nat) (hs : s ≤ 1000000) : ∃ C : Array Value, C.size = s ∧ ∀ w, (Instr.makeSlice 31 (.int .i64 (s : Int)) (.int .i64 (s : Int))).run Try.prog w = .ok (.slice (some ⟨w.heap.size, 0, none⟩) s s) (w.alloc (.cells C 5)) := by
  obtain ⟨i, hi, h0, h1, h2⟩ := info_of info8
  refine ⟨madeCells #[Value.int .u8 0] s, size_madeCells _ _, fun w => ?_⟩
  have r := run_make (P := Try.prog) w 31 5 i (.int .u8 0) Try.underlying31 hi h0 .i64 .i64 (s : Int) (s : Int) (by omega) (by omega) (by rw [h2]; omega) (by omega)
  rw [h1, Int.toNat_natCast, Nat.mul_one] at r
  exact r

structure DRel (w wr : World) (n s j m : Nat) (cs : Array Value) : Prop where
  blk : wr.heap[w.heap.size]? = some (.cells cs 5 (0, 0))
  low : Below w.heap.size w wr
  siz : cs.size = s
  top : j ≤ s
  num : n / 256 ^ (s - j) = m
  dig : ∀ i, j ≤ i → i < s → cs[i]? = some (.int .u8 ((digN n s).getD i 0 : Nat))

theorem drel_step {w wr : World} {n s j m : Nat} {cs : Array Value} (h : DRel w wr n s (j + 1) m cs) : DRel w (wr.setCell ⟨w.heap.size, j, none⟩ (.int .u8 (m % 256 : Nat))) n s j (m / 256) (cs.set! j (.int .u8 (m % 256 : Nat))) := by
  have t := h.top
  refine ⟨blk_set h.blk, h.low.setCell (Nat.le_refl _) _, by rw [Array.set!_eq_setIfInBounds, Array.size_setIfInBounds]; exact h.siz, by omega, ?_, fun i hi hs => ?_⟩
  · rw [← h.num, div_step, show s - (j + 1) + 1 = s - j by omega]
  · rw [Array.set!_eq_setIfInBounds, Array.getElem?_setIfInBounds]
    by_cases e : j = i
    · subst e
      have z := h.siz
      rw [if_pos rfl, if_pos (by omega), dig_at _ _ _ hs, show s - 1 - j = s - (j + 1) by omega, h.num]
    · rw [if_neg e]
      exact h.dig i (by omega) hs

theorem drel_end {w wr : World} {n s m : Nat} {cs : Array Value} (h : DRel w wr n s 0 m cs) : cs.toList = valsN .u8 (digN n s) ∧ n / 256 ^ s = m := by
  refine ⟨?_, h.num⟩
  apply List.ext_getElem?
  intro i
  rw [Array.getElem?_toList]
  by_cases g : i < s
  · rw [h.dig i (Nat.zero_le _) g, valsN_get (by rw [digN_len]; exact g)]
  · rw [Array.getElem?_eq_none (by rw [h.siz]; omega), List.getElem?_eq_none (by rw [valsN_len, digN_len]; omega)]

/-- What Digits leaves: new bytes that hold the digits. -/
structure DPost (w : World) (n s : Nat) (e : Ending) (w' : World) : Prop where
  out : ∃ cs, e = .returned (.tuple #[.slice (some ⟨w.heap.size, 0, none⟩) s s, .bool (decide (n < 256 ^ s))]) ∧ w'.heap[w.heap.size]? = some (.cells cs 5 (0, 0)) ∧ cs.toList = valsN .u8 (digN n s) ∧ Below w.heap.size w w'

set_option maxHeartbeats 1600000 in
theorem rdigits_any (w : World) (n s : Nat) (hn : n < 18446744073709551616) (h1 : 1 ≤ s) (h8 : s ≤ 8) :
    Calls Try.prog 33 #[.int .u64 n, .int .i64 s] w (DPost w n s) := by
  obtain ⟨C, hC, mk⟩ := make8 s (by omega)
  have HC := Lib.hid hC
  have HN := Lib.hid hn
  have s1 : (1 : Int) ≤ (s : Int) := by omega
  have s8 : (s : Int) ≤ 8 := by omega
  have H8 := Lib.hid h8
  clear hC hn h1 h8
  go_enter Try.func33, Try.ntmps33
  go_wp2_with fail
  go_loopw [0, 7] (fun nn i wr => ∃ (z : Int) (j m : Nat) (cs : Array Value), nn = .int .u64 m ∧ i = .int .i64 z ∧ Hid (z = (j : Int) - 1) ∧ Hid (m < 18446744073709551616) ∧ Hid (DRel w wr n s j m cs)) (fun _ i _ => (intOf i + 1).toNat)
  case atStart => exact ⟨_, s, n, C, rfl, rfl, rfl, HN.out, ⟨heap_alloc_new w _, (Below.refl _ _).alloc (Nat.le_refl _) _, HC.out, Nat.le_refl _, by rw [Nat.sub_self, Nat.pow_zero, Nat.div_one], fun i h h' => by omega⟩⟩
  case round =>
    obtain ⟨z, j, m, cs, rfl, rfl, hz, hm, h⟩ := hrel
    rcases j with _ | j
    · obtain rfl : z = -1 := by rw [hz.out]; rfl
      have E := drel_end h.out
      obtain ⟨b, hb⟩ : ∃ b, b = decide (n < 256 ^ s) := ⟨_, rfl⟩
      have fb : ((m : Int) == 0) = b := by
        rw [hb, ← E.2]
        have := fits_iff n s
        rw [Bool.eq_iff_iff, beq_iff_eq, decide_eq_true_iff, ← this]
        omega
      have FIN : Hid (DPost w n s (.returned (.tuple #[.slice (some ⟨w.heap.size, 0, none⟩) s s, .bool b])) wr) := by
        unfold Hid
        rw [hb]
        exact ⟨cs, rfl, h.out.blk, E.1, h.out.low⟩
      clear hb E h hz hm
      go_wp2
      go_ret2
      exact FIN.out
    · obtain rfl : z = (j : Int) := by rw [hz.out]; omega
      have jt : (j : Int) < (s : Int) := by have := h.out.top; omega
      have c0 : ∃ u, wr.cell? ⟨w.heap.size, j, none⟩ = some u := by
        rw [blk_cell h.out.blk]
        have t := h.out.top
        have z := h.out.siz
        exact ⟨_, Array.getElem?_eq_getElem (by omega)⟩
      obtain ⟨u, c0⟩ := c0
      have f0 : wr.frozen? ⟨w.heap.size, j, none⟩ = false := blk_free h.out.blk
      have ad : (⟨w.heap.size, 0, none⟩ : Addr).add j = ⟨w.heap.size, j, none⟩ := add_zero' _ _
      obtain ⟨d, hd⟩ : ∃ d, d = m % 256 := ⟨_, rfl⟩
      obtain ⟨q, hq⟩ : ∃ q, q = m / 256 := ⟨_, rfl⟩
      have e1 : (m : Int) % 256 = (d : Int) := by omega
      have e2 : IntKind.u8.wrap (d : Int) = (d : Int) := by rw [IntKind.wrap_u8]; omega
      have e3 : (m : Int) / 256 = (q : Int) := by omega
      have e4 : IntKind.u64.wrap (q : Int) = (q : Int) := by have := hm.out; rw [IntKind.wrap_u64]; omega
      have NX := drel_step h.out
      rw [← hd, ← hq] at NX
      replace NX := Lib.hid NX
      have QB : Hid (q < 18446744073709551616) := by unfold Hid; have := hm.out; omega
      clear hd hq h hz hm
      go_wp2
      go_roundw
      case rel => exact ⟨_, j, q, _, rfl, rfl, rfl, QB, NX⟩
      case measure => simp [intOf]
end Go.Proofs.Ytfnidehbibfclaa
/- Contracts of the document's own answers for layer 3 (octet): bytes in new memory, places. -/
namespace Go.Proofs.Ytfnidehbibfclaa
open Go.ChangeShapes Go.WideShapes Go.ChangeAt Go.RowKit OctM

/-- New bytes, the call's own. -/
structure OwnPost (w : World) (n : Nat) (ds : List Nat) (e : Ending) (w' : World) : Prop where
  out : ∃ v, e = .returned v ∧ w'.ownsRow w.heap.size 5 1 v n (valsN .u8 ds) ∧ Below w.heap.size w w'

theorem rown_any (w : World) (p : Option Addr) (n c : Nat) (ds : List Nat) (hz : Holds w p n c (valsN .u8 ds)) (hn : n ≤ 140737488355328) :
    Calls Try.prog 22 #[.slice p n c] w (OwnPost w n ds) := by
  obtain ⟨i0, hi, hz0, hz1, hz2⟩ := info_of info8
  have HZ := Lib.hid hz
  have BM : Hid (0 + n ≤ maxLen) := by unfold Hid maxLen; omega
  have BY : Hid ((0 + n) * 1 ≤ 140737488355328) := by unfold Hid; omega
  rcases p with _ | a
  · have c0 := hz.bare rfl
    have n0 : n = 0 := by have := hz.cap; omega
    subst c0 n0
    have fin : Hid (OwnPost w 0 ds (.returned (.slice none 0 0)) w) := by
      have l := hz.len
      rw [valsN_len] at l
      obtain rfl := List.length_eq_zero_iff.1 l
      exact ⟨_, rfl, World.ownsRow_nil w _ _ 1, Below.refl _ _⟩
    clear hz hn
    go_enter Try.func22, Try.ntmps22
    go_wp2_with (at_builtin; refine wpList_append_own_none rfl _ _ 31 rfl w.heap.size 5 i0 1 Try.underlying31 hi _ _ _ rfl (World.ownsRow_nil w _ _ 1) rfl ?_)
    go_wp2
    go_ret
    exact fin.out
  · have cells : Hid (∀ j u, (valsN .u8 ds)[j]? = some u → w.cell? (a.add j) = some u) := fun j u hu => by
      obtain ⟨a', e, h⟩ := hz.cell j u hu
      cases e
      exact h
    have hl : Hid ((valsN .u8 ds).length = n * 1) := by unfold Hid; rw [Nat.mul_one]; exact hz.len
    clear hz hn
    go_enter Try.func22, Try.ntmps22
    go_wp2_with (at_builtin; refine wpList_append_own _ rfl _ _ 31 rfl w.heap.size 5 i0 (.int .u8 0) 1 1 Try.underlying31 hi hz0 hz1 hz2 rfl (by decide) _ 0 [] rfl (World.ownsRow_nil w _ _ 1) a n c (valsN .u8 ds) rfl hl.out cells.out (valsN_one _ _) BM.out BY.out (Nat.le_refl _) ?_)
    intro v' w1 hown hgrow _
    have fin : Hid (OwnPost w n ds (.returned v') w1) := ⟨v', rfl, hown, (Below.refl _ _).grown hgrow (Nat.le_refl _) (fun j hj => by cases hj)⟩
    clear hown hgrow
    go_wp2
    go_ret
    exact fin.out

end Go.Proofs.Ytfnidehbibfclaa
/- Contracts of the document's own answers for layer 3 (octet): signed numbers. -/
namespace Go.Proofs.Ytfnidehbibfclaa
open Go.ChangeShapes Go.WideShapes Go.ChangeAt Go.RowKit OctM

structure CRel (w wr : World) (ds : List Nat) (s k : Nat) (cs : Array Value) : Prop where
  blk : wr.heap[w.heap.size]? = some (.cells cs 5 (0, 0))
  low : Below w.heap.size w wr
  siz : cs.size = s
  dig : ∀ i, i < s → cs[i]? = some (.int .u8 (if i < k then (255 - ds.getD i 0 : Nat) else (ds.getD i 0 : Nat)))

theorem crel_start {w w1 : World} {ds : List Nat} {s : Nat} {cs : Array Value} (hb : w1.heap[w.heap.size]? = some (.cells cs 5 (0, 0))) (hl : Below w.heap.size w w1) (hc : cs.toList = valsN .u8 ds) (hs : ds.length = s) : CRel w w1 ds s 0 cs := by
  have e : cs.size = s := by rw [← Array.length_toList, hc, valsN_len, hs]
  refine ⟨hb, hl, e, fun i hi => ?_⟩
  rw [if_neg (by omega), ← Array.getElem?_toList, hc, valsN_get (by omega)]
theorem crel_step {w wr : World} {ds : List Nat} {s k : Nat} {cs : Array Value} (h : CRel w wr ds s k cs) (hk : k < s) : CRel w (wr.setCell ⟨w.heap.size, k, none⟩ (.int .u8 (255 - ds.getD k 0 : Nat))) ds s (k + 1) (cs.set! k (.int .u8 (255 - ds.getD k 0 : Nat))) := by
  refine ⟨blk_set h.blk, h.low.setCell (Nat.le_refl _) _, by rw [Array.set!_eq_setIfInBounds, Array.size_setIfInBounds]; exact h.siz, fun i hi => ?_⟩
  rw [Array.set!_eq_setIfInBounds, Array.getElem?_setIfInBounds]
  by_cases e : k = i
  · subst e
    have z := h.siz
    rw [if_pos rfl, if_pos (by omega), if_pos (by omega)]
  · rw [if_neg e, h.dig i hi]
    by_cases g : i < k
    · rw [if_pos g, if_pos (by omega)]
    · rw [if_neg g, if_neg (by omega)]
theorem crel_end {w wr : World} {ds : List Nat} {s : Nat} {cs : Array Value} (h : CRel w wr ds s s cs) (hs : ds.length = s) (hm : s ≤ 8) : Holds wr (some ⟨w.heap.size, 0, none⟩) s s (valsN .u8 (flip ds)) := by
  have e : cs.toList = valsN .u8 (flip ds) := by
    apply List.ext_getElem?
    intro i
    rw [Array.getElem?_toList]
    by_cases g : i < s
    · rw [h.dig i g, if_pos g, valsN_get (by rw [flip_len]; omega), flip_get _ _ (by omega)]
    · rw [Array.getElem?_eq_none (by rw [h.siz]; omega), List.getElem?_eq_none (by rw [valsN_len, flip_len]; omega)]
  have o := own_of_blk h.blk h.siz (by unfold maxLen; omega) (Nat.zero_le _)
  rw [e] at o
  obtain ⟨p, c, hv, hh⟩ := own_holds o
  cases hv
  exact hh

/-- What a call leaves that lays new memory alone, and answers e. -/
def TellPost (w : World) (x : Ending) (e : Ending) (w' : World) : Prop := e = x ∧ Below w.heap.size w w'

end Go.Proofs.Ytfnidehbibfclaa
/- Contracts of the document's own answers for layer 3 (octet): a number put in its place. -/
namespace Go.Proofs.Ytfnidehbibfclaa
open Go.ChangeShapes Go.WideShapes Go.ChangeAt Go.RowKit OctM

/-- What Put leaves: new bytes, the call's own. -/
structure RowPost (w : World) (n : Nat) (ds : List Nat) (e : Ending) (w' : World) : Prop where
  out : ∃ v, e = .returned (.tuple #[v, .int .i64 0]) ∧ w'.ownsRow w.heap.size 5 1 v n (valsN .u8 ds) ∧ Below w.heap.size w w'

theorem holdsN_take {w : World} {p : Option Addr} {n c k : Nat} {ds : List Nat} (h : Holds w p n c (valsN .u8 ds)) (hk : k ≤ n) : Holds w p k c (valsN .u8 (ds.take k)) := by
  refine ⟨?_, by have := h.cap; omega, h.max, h.bare, fun i u hu => ?_⟩
  · have := h.len
    rw [valsN_len] at this ⊢
    rw [List.length_take]
    omega
  · refine h.cell i u ?_
    unfold valsN at hu ⊢
    rw [List.map_take, List.getElem?_take] at hu
    split at hu
    · exact hu
    · cases hu
theorem holdsN_drop {w : World} {a : Addr} {n c k : Nat} {ds : List Nat} (h : Holds w (some a) n c (valsN .u8 ds)) : ∀ j u, (valsN .u8 (ds.drop k))[j]? = some u → w.cell? ((a.add k).add j) = some u := by
  intro j u hu
  unfold valsN at hu
  rw [List.map_drop, List.getElem?_drop] at hu
  obtain ⟨a', e, hc⟩ := h.cell _ _ hu
  cases e
  rw [add_add]
  exact hc

end Go.Proofs.Ytfnidehbibfclaa
/- Contracts of the document's own answers for layer 3 (octet): rows laid. -/
namespace Go.Proofs.Ytfnidehbibfclaa
open Go.ChangeShapes Go.WideShapes Go.ChangeAt Go.RowKit OctM

structure LRel (w wr : World) (zs : List Int) (xs : List Nat) (v : Value) (L k : Nat) : Prop where
  own : wr.ownsRow w.heap.size 5 1 v L (valsN .u8 (layT zs xs k))
  low : Below w.heap.size w wr
  len : L = (layT zs xs k).length
  fit : fitT zs xs k

/-- What Lay leaves: the row, or ErrRange. -/
def LayPost (w : World) (n L : Nat) (zs : List Int) (xs : List Nat) (e : Ending) (w' : World) : Prop :=
  (fitT zs xs n ∧ RowPost w L (layT zs xs n) e w') ∨ (¬ fitT zs xs n ∧ TellPost w (.returned (.tuple #[.slice none 0 0, .int .i64 20])) e w')

theorem lrel_next {w wr w1 w2 : World} {zs : List Int} {xs : List Nat} {v v' : Value} {L k s x : Nat} (h : LRel w wr zs xs v L k) (hx : xs.getD k 0 = x) (hs : (zs.getD k 0).toNat = s) (hf : x < 256 ^ s) (hb : Below wr.heap.size wr w1)
    (ho : w2.ownsRow w.heap.size 5 1 v' (L + s) (valsN .u8 (layT zs xs k) ++ valsN .u8 (digN x s))) (hg : w1.grownBy w2 v.ownBlock) : LRel w w2 zs xs v' (L + s) (k + 1) := by
  refine ⟨?_, (h.low.trans (hb.mono h.low.size)).grown hg (Nat.le_trans h.low.size hb.size) (fun j hj => (World.ownsRow.lt h.own j hj).1), ?_, fun i hi => ?_⟩
  · rw [layT_succ, hx, hs, valsN_append]; exact ho
  · rw [layT_succ, hx, hs, List.length_append, digN_len, ← h.len]
  · by_cases e : i = k
    · subst e; rw [hx, hs]; exact hf
    · exact h.fit i (by omega)

end Go.Proofs.Ytfnidehbibfclaa
/- Contracts of the document's own answers for layer 3 (octet): rows taken. -/
namespace Go.Proofs.Ytfnidehbibfclaa
open Go.ChangeShapes Go.WideShapes Go.ChangeAt Go.RowKit OctM

theorem info64 : (Try.prog.info? 24).map (fun i => (i.zero, i.size, i.bytes)) = some (some (.int .u64 0), 1, 8) := by kernel_rfl

structure TRel (w wr : World) (zs : List Int) (ds : List Nat) (v : Value) (k : Nat) : Prop where
  own : wr.ownsRow w.heap.size 24 1 v k (valsN .u64 (takT zs ds k))
  low : Below w.heap.size w wr

structure TakePost (w : World) (n m W : Nat) (zs : List Int) (ds : List Nat) (e : Ending) (w' : World) : Prop where
  out : ∃ v r, e = .returned (.tuple #[v, r, .int .i64 0]) ∧ w'.ownsRow w.heap.size 24 1 v n (valsN .u64 (takT zs ds n)) ∧ w'.ownsRow w.heap.size 5 1 r (m - W) (valsN .u8 (ds.drop W)) ∧ Below w.heap.size w w'

theorem one_new8 (w : World) (x : Value) (T : TypeId) : ∀ (j : Nat) (u : Value), [x][j]? = some u → (w.alloc (.cells #[x] T)).cell? ((⟨w.heap.size, 0, none⟩ : Addr).add j) = some u := by
  intro j u hu
  rcases j with _ | j
  · have e : x = u := by simpa using hu
    subst e
    rw [add_zero', World.cell?_alloc_at _ _ _ _ rfl]
    rfl
  · simp at hu
theorem one_int (k : IntKind) (d : Int) : ∀ u ∈ [Value.int k d], u.oneCell' = true := by
  intro u hu
  simp at hu
  subst hu
  rfl

theorem trel_next {w wr w2 : World} {zs : List Int} {ds : List Nat} {v v' : Value} {k x : Nat} {o : Obj} (h : TRel w wr zs ds v k) (hx : numN ((ds.drop (atT zs k)).take (zs.getD k 0).toNat) = x)
    (ho : w2.ownsRow w.heap.size 24 1 v' (k + 1) (valsN .u64 (takT zs ds k) ++ [.int .u64 x])) (hg : (wr.alloc o).grownBy w2 v.ownBlock) : TRel w w2 zs ds v' (k + 1) := by
  refine ⟨?_, (h.low.alloc h.low.size o).grown hg (by simp; have := h.low.size; omega) (fun j hj => (World.ownsRow.lt h.own j hj).1)⟩
  show w2.ownsRow _ _ _ _ _ (valsN .u64 (takT zs ds k ++ [numN ((ds.drop (atT zs k)).take (zs.getD k 0).toNat)]))
  rw [valsN_append, hx]
  exact ho

theorem drop_own {w : World} {p : Option Addr} {m c W : Nat} {ds : List Nat} (h : Holds w p m c (valsN .u8 ds)) (hW : W ≤ m) : Holds w (if c = W then p else p.map (·.add (W * 1))) (m - W) (c - W) (valsN .u8 (ds.drop W)) := by
  have a := h.piece W m hW (Nat.le_refl _)
  have l := h.len
  unfold valsN at a l ⊢
  rw [List.length_map] at l
  rw [List.map_drop]
  rwa [List.take_of_length_le (by rw [List.length_drop, List.length_map]; omega)] at a

end Go.Proofs.Ytfnidehbibfclaa
/- Contracts of the document's own answers for layer 3 (octet): what a signed number stands as. -/
namespace Go.Proofs.Ytfnidehbibfclaa
open Go.ChangeShapes Go.WideShapes Go.ChangeAt Go.RowKit OctM

theorem absM_lt (n : Int) (h : I64 n) : absM n < 9223372036854775808 := by unfold absM; unfold I64 at h; split <;> omega
theorem absM_neg (n : Int) (h : n < 0) : -(n + 1) = (absM n : Nat) := by unfold absM; rw [if_pos h]; omega
theorem absM_pos (n : Int) (h : 0 ≤ n) : n = (absM n : Nat) := by unfold absM; rw [if_neg (by omega)]; omega

end Go.Proofs.Ytfnidehbibfclaa
/- Layer 3 (octet): what each call answers, as functions of what is handed in; how it is told; and that the document's own answers tell it so. -/
namespace Go.Proofs.Ytfnidehbibfclaa
open Go.ChangeShapes Go.WideShapes Go.ChangeAt Go.RowKit OctM

def widE (zs : List Int) : Int := if okAll zs then 0 else 1
def widV (zs : List Int) : Int := if okAll zs then sumI zs else 0
def layE (zs : List Int) (xs : List Nat) : Int := if okAll zs ∧ xs.length = zs.length then (if fitT zs xs zs.length then 0 else 20) else 1
def layD (zs : List Int) (xs : List Nat) : List Nat := if (okAll zs ∧ xs.length = zs.length) ∧ fitT zs xs zs.length then layT zs xs zs.length else []
def takE (zs : List Int) (ds : List Nat) : Int := if okAll zs then (if (ds.length : Int) < sumI zs then 4 else 0) else 1
def takX (zs : List Int) (ds : List Nat) : List Nat := if okAll zs ∧ sumI zs ≤ (ds.length : Int) then takT zs ds zs.length else []
def takD (zs : List Int) (ds : List Nat) : List Nat := if okAll zs ∧ sumI zs ≤ (ds.length : Int) then ds.drop (atT zs zs.length) else []
def inP (n : Nat) (x z : Int) : Prop := okS z ∧ 0 ≤ x ∧ x + z ≤ (n : Int)
instance (n : Nat) (x z : Int) : Decidable (inP n x z) := by unfold inP; exact inferInstance
def atV (ds : List Nat) (x z : Int) : Nat := if inP ds.length x z then numN ((ds.drop x.toNat).take z.toNat) else 0
def putE (ds : List Nat) (x z : Int) (v : Nat) : Int := if okS z ∧ 0 ≤ x then (if v < 256 ^ z.toNat then (if x + z ≤ (ds.length : Int) then 0 else 4) else 20) else 1
def putD (ds : List Nat) (x z : Int) (v : Nat) : List Nat := if putE ds x z v = 0 then ds.take x.toNat ++ digN v z.toNat ++ ds.drop (x.toNat + z.toNat) else []
def sgE (n : Nat) (z : Int) : Int := if okS z then (if n < 256 ^ z.toNat then 0 else 20) else 1
def sgR (n : Nat) (z : Int) : Int := if sgE n z = 0 then sgV n z.toNat else 0
def unE (n : Int) (z : Int) : Int := if okS z then (if absM n < halfN z.toNat then 0 else 20) else 1
def unR (n : Int) (z : Int) : Nat := if unE n z = 0 then unV n z.toNat else 0

/-- New memory that holds the values vs: from block B on, not shut. -/
structure New (B : Nat) (w : World) (p : Option Addr) (n c : Nat) (vs : List Value) : Prop where
  holds : Holds w p n c vs
  base : ∀ a, p = some a → B ≤ a.block
  free : ∀ a, p = some a → ∀ i, i < n → w.frozen? (a.add i) = false

theorem own_new {w : World} {B : Nat} {T : TypeId} {v : Value} {n : Nat} {vs : List Value} (h : w.ownsRow B T 1 v n vs) : ∃ p c, v = .slice p n c ∧ New B w p n c vs := by
  obtain ⟨p, c, rfl, hh⟩ := own_holds h
  refine ⟨p, c, rfl, hh, fun a ha => ?_, fun a ha i _ => ?_⟩
  · exact (World.ownsRow.lt h a.block (by rw [ha]; rfl)).1
  · obtain ⟨-, ⟨e, -⟩ | ⟨g, cap, cur, e, -, hg, -⟩⟩ := h
    · injection e with e _ _
      rw [ha] at e
      cases e
    · injection e with e _ _
      rw [ha] at e
      injection e with e
      rw [e, add_zero']
      exact blk_free hg
theorem New.nil (B : Nat) (w : World) : New B w none 0 0 [] := ⟨Holds.nil _ _ _ (Nat.zero_le _) (fun _ => rfl), (fun a h => by cases h), (fun a h => by cases h)⟩

/-- A row of bytes and an error's number are told. -/
def RowR (w : World) (D : List Nat) (E : Int) (e : Ending) (w' : World) : Prop :=
  ∃ p c, e = .returned (.tuple #[.slice p D.length c, .int .i64 E]) ∧ New w.heap.size w' p D.length c (valsN .u8 D) ∧ Below w.heap.size w w'
/-- Numbers, bytes and an error's number are told. -/
def TakR (w : World) (X D : List Nat) (E : Int) (e : Ending) (w' : World) : Prop :=
  ∃ p c q d, e = .returned (.tuple #[.slice p X.length c, .slice q D.length d, .int .i64 E]) ∧ New w.heap.size w' p X.length c (valsN .u64 X) ∧ New w.heap.size w' q D.length d (valsN .u8 D) ∧ Below w.heap.size w w'

theorem rowR_nil {w w' : World} {E : Int} {e : Ending} (h : TellPost w (.returned (.tuple #[.slice none 0 0, .int .i64 E])) e w') : RowR w [] E e w' := ⟨none, 0, h.1, New.nil _ _, h.2⟩
theorem rowR_row {w w' : World} {n : Nat} {ds : List Nat} {e : Ending} (hn : ds.length = n) (h : RowPost w n ds e w') : RowR w ds 0 e w' := by
  obtain ⟨v, rfl, o, l⟩ := h.out
  rw [← hn] at o
  obtain ⟨p, c, rfl, nw⟩ := own_new o
  exact ⟨p, c, rfl, nw, l⟩

end Go.Proofs.Ytfnidehbibfclaa
/- Layer 3 (octet): the document's own answers on places and signed numbers, in one form. -/
namespace Go.Proofs.Ytfnidehbibfclaa
open Go.ChangeShapes Go.WideShapes Go.ChangeAt Go.RowKit OctM

theorem okS_nat {z : Int} (h : okS z) : ∃ s : Nat, z = (s : Int) ∧ 1 ≤ s ∧ s ≤ 8 ∧ z.toNat = s := by
  unfold okS at h
  exact ⟨z.toNat, by omega, by omega, by omega, rfl⟩

end Go.Proofs.Ytfnidehbibfclaa
/- Layer 3 (octet): rows there and back, as numbers. No program. -/
namespace Go.Proofs.Ytfnidehbibfclaa
open Go.ChangeShapes Go.WideShapes Go.ChangeAt Go.RowKit OctM

theorem layT_prefix (zs : List Int) (xs : List Nat) {k N : Nat} (h : k ≤ N) : ∃ r, layT zs xs N = layT zs xs k ++ r := by
  induction N with
  | zero => obtain rfl : k = 0 := by omega
            exact ⟨[], rfl⟩
  | succ m ih =>
    by_cases e : k = m + 1
    · subst e; exact ⟨[], by simp⟩
    · obtain ⟨r, hr⟩ := ih (by omega)
      exact ⟨r ++ digN (xs.getD m 0) (zs.getD m 0).toNat, by rw [layT_succ, hr, List.append_assoc]⟩
theorem layT_at {zs : List Int} (xs : List Nat) (ok : okAll zs) {k : Nat} (hk : k ≤ zs.length) : (layT zs xs k).length = atT zs k := by
  have a := layT_len zs xs k ok hk
  have b := atT_int ok hk
  omega
/-- The place of a number in a row. -/
theorem lay_place {zs : List Int} (xs bh : List Nat) (ok : okAll zs) {k N : Nat} (hk : k < N) (hN : N ≤ zs.length) (hf : fitT zs xs N) :
    (((layT zs xs N ++ bh).drop (atT zs k)).take (zs.getD k 0).toNat) = digN (xs.getD k 0) (zs.getD k 0).toNat ∧ numN (((layT zs xs N ++ bh).drop (atT zs k)).take (zs.getD k 0).toNat) = xs.getD k 0 := by
  obtain ⟨r, hr⟩ := layT_prefix zs xs (show k + 1 ≤ N by omega)
  have e : ((layT zs xs N ++ bh).drop (atT zs k)).take (zs.getD k 0).toNat = digN (xs.getD k 0) (zs.getD k 0).toNat := by
    rw [hr, layT_succ, ← layT_at xs ok (k := k) (by omega), List.append_assoc, List.append_assoc, List.drop_left, List.take_append_of_le_length (by rw [digN_len]; exact Nat.le_refl _), List.take_of_length_le (by rw [digN_len]; exact Nat.le_refl _)]
  refine ⟨e, ?_⟩
  rw [e, num_dig, Nat.mod_eq_of_lt (hf k hk)]
theorem take_lay {zs : List Int} (xs bh : List Nat) (ok : okAll zs) {N : Nat} (hN : N ≤ zs.length) (hx : xs.length = N) (hf : fitT zs xs N) (k : Nat) (hk : k ≤ N) : takT zs (layT zs xs N ++ bh) k = xs.take k := by
  induction k with
  | zero => rfl
  | succ m ih =>
    show takT zs (layT zs xs N ++ bh) m ++ [numN _] = _
    rw [ih (by omega), (lay_place xs bh ok (k := m) (by omega) hN hf).2, take_next (by omega)]
theorem takT_getD (zs : List Int) (ds : List Nat) {m N : Nat} (h : m < N) : (takT zs ds N).getD m 0 = numN ((ds.drop (atT zs m)).take (zs.getD m 0).toNat) := by
  induction N with
  | zero => omega
  | succ j ih =>
    by_cases e : m < j
    · rw [show takT zs ds (j + 1) = takT zs ds j ++ [numN ((ds.drop (atT zs j)).take (zs.getD j 0).toNat)] from rfl, List.getD_eq_getElem?_getD, List.getElem?_append_left (by rw [takT_len]; exact e), ← List.getD_eq_getElem?_getD]
      exact ih e
    · obtain rfl : m = j := by omega
      rw [show takT zs ds (m + 1) = takT zs ds m ++ [numN ((ds.drop (atT zs m)).take (zs.getD m 0).toNat)] from rfl, List.getD_eq_getElem?_getD, List.getElem?_append_right (by rw [takT_len]; exact Nat.le_refl _), takT_len, Nat.sub_self]
      rfl
theorem lay_take {zs : List Int} {ds : List Nat} (ok : okAll zs) (hy : Byt ds) {N : Nat} (hN : N ≤ zs.length) (hl : atT zs N ≤ ds.length) (k : Nat) (hk : k ≤ N) : layT zs (takT zs ds N) k = ds.take (atT zs k) := by
  induction k with
  | zero => show [] = _; rw [show atT zs 0 = 0 from rfl]; rfl
  | succ m ih =>
    have a1 := atT_succ ok (k := m) (by omega)
    have a2 := atT_mono ok (j := m + 1) (k := N) (by omega) hN
    have g := takT_getD zs ds (N := N) (m := m) (by omega)
    have l : ((ds.drop (atT zs m)).take (zs.getD m 0).toNat).length = (zs.getD m 0).toNat := by rw [List.length_take, List.length_drop]; omega
    have d := dig_num (byt_take (byt_drop hy (atT zs m)) (zs.getD m 0).toNat)
    rw [l] at d
    rw [layT_succ, ih (by omega), g, d, a1, List.take_add]
theorem take_fit (zs : List Int) {ds : List Nat} (hy : Byt ds) (N : Nat) : fitT zs (takT zs ds N) N := by
  intro i hi
  rw [takT_getD zs ds hi]
  refine Nat.lt_of_lt_of_le (numN_lt (byt_take (byt_drop hy _) _)) (Nat.pow_le_pow_right (by omega) ?_)
  rw [List.length_take]
  omega
theorem fit_lt {zs : List Int} {xs : List Nat} (ok : okAll zs) (hx : xs.length = zs.length) (hf : fitT zs xs zs.length) : ∀ x ∈ xs, x < 18446744073709551616 := by
  intro x h
  obtain ⟨i, hi, rfl⟩ := List.getElem_of_mem h
  have a := hf i (by omega)
  rw [List.getD_eq_getElem?_getD, List.getElem?_eq_getElem hi] at a
  have o := okAll_get ok (i := i) (by omega)
  unfold okS at o
  exact Nat.lt_of_lt_of_le a (pow_le8 _ (by omega))

/-- What the program's calls tell of a row that was laid. -/
structure BackN (zs : List Int) (xs D : List Nat) (L : Nat) : Prop where
  lay : layD zs xs = D ∧ layE zs xs = 0
  wid : widV zs = (L : Int) ∧ widE zs = 0
  len : D.length = L
  byt : Byt D
  low : L ≤ 8 * zs.length
  take : ∀ bh, takX zs (D ++ bh) = xs ∧ takD zs (D ++ bh) = bh ∧ takE zs (D ++ bh) = 0
  at' : ∀ k, k < zs.length → atV D (atT zs k : Int) (zs.getD k 0) = xs.getD k 0 ∧ inP D.length (atT zs k : Int) (zs.getD k 0)
  short : ∀ j, j < L → takE zs (D.take j) = 4
  other : ∀ es, Byt es → es.length < L → takE zs es = 4
  back : ∀ es, Byt es → L ≤ es.length → ∃ o l, takX zs es = o ∧ takD zs es = l ∧ takE zs es = 0 ∧ (∀ x ∈ o, x < 18446744073709551616) ∧ o.length = zs.length ∧ layE zs o = 0 ∧ layD zs o ++ l = es

theorem backN {zs : List Int} {xs : List Nat} (ok : okAll zs) (hx : xs.length = zs.length) (hf : fitT zs xs zs.length) : BackN zs xs (layT zs xs zs.length) (atT zs zs.length) := by
  have ll := layT_at xs ok (k := zs.length) (Nat.le_refl _)
  have si := atT_all ok
  have e0 : layE zs xs = 0 := by unfold layE; rw [if_pos ⟨ok, hx⟩, if_pos hf]
  refine ⟨⟨by unfold layD; rw [if_pos ⟨⟨ok, hx⟩, hf⟩], e0⟩, ⟨by unfold widV; rw [if_pos ok, si], by unfold widE; rw [if_pos ok]⟩, ll, layT_byt _ _ _, by rw [← ll]; exact layT_le zs xs _ ok (Nat.le_refl _), fun bh => ?_, fun k hk => ?_, fun j hj => ?_, fun es _ h => ?_, fun es hy h => ?_⟩
  · have g : sumI zs ≤ ((layT zs xs zs.length ++ bh).length : Int) := by rw [List.length_append, ll, ← si]; omega
    refine ⟨?_, ?_, ?_⟩
    · unfold takX
      rw [if_pos ⟨ok, g⟩, take_lay xs bh ok (Nat.le_refl _) hx hf _ (Nat.le_refl _), List.take_of_length_le (by omega)]
    · unfold takD
      rw [if_pos ⟨ok, g⟩, ← ll, List.drop_left]
    · unfold takE
      rw [if_pos ok, if_neg (by omega)]
  · have o := okAll_get ok hk
    have a1 := atT_succ ok hk
    have a2 := atT_mono ok (j := k + 1) (k := zs.length) (by omega) (Nat.le_refl _)
    have p : inP (layT zs xs zs.length).length (atT zs k : Int) (zs.getD k 0) := by
      refine ⟨o, by omega, ?_⟩
      unfold okS at o
      rw [ll]
      omega
    refine ⟨?_, p⟩
    unfold atV
    rw [if_pos p, Int.toNat_natCast]
    have b := (lay_place xs [] ok hk (Nat.le_refl _) hf).2
    rwa [List.append_nil] at b
  · unfold takE
    rw [if_pos ok, if_pos (by rw [List.length_take, ll, ← si]; omega)]
  · unfold takE
    rw [if_pos ok, if_pos (by rw [← si]; omega)]
  · have g : sumI zs ≤ (es.length : Int) := by rw [← si]; omega
    have f := take_fit zs hy zs.length
    have tl := takT_len zs es zs.length
    refine ⟨takT zs es zs.length, es.drop (atT zs zs.length), by unfold takX; rw [if_pos ⟨ok, g⟩], by unfold takD; rw [if_pos ⟨ok, g⟩], by unfold takE; rw [if_pos ok, if_neg (by omega)], fit_lt ok tl f, tl, by unfold layE; rw [if_pos ⟨ok, tl⟩, if_pos f], ?_⟩
    unfold layD
    rw [if_pos ⟨⟨ok, tl⟩, f⟩, lay_take ok hy (Nat.le_refl _) h _ (Nat.le_refl _), List.take_append_drop]
end Go.Proofs.Ytfnidehbibfclaa
/- A row of bytes that may be written: for every stage. -/
namespace Go.Proofs.Ytfnidehbibfclaa
open Go.ChangeShapes Go.WideShapes Go.ChangeAt Go.RowKit OctM

/-- Bytes that may be written, whatever stands in them. -/
structure Soft (w : World) (p : Option Addr) (n : Nat) : Prop where
  cell : ∀ i, i < n → ∃ a z, p = some a ∧ w.cell? (a.add i) = some (.int .u8 z) ∧ w.frozen? (a.add i) = false

theorem new_soft {B : Nat} {w : World} {p : Option Addr} {n c : Nat} {ds : List Nat} (h : New B w p n c (valsN .u8 ds)) : Soft w p n := by
  refine ⟨fun i hi => ?_⟩
  obtain ⟨a, ha, hc⟩ := h.holds.atN hi
  exact ⟨a, _, ha, hc, h.free a ha i hi⟩
theorem soft_below {w w' : World} {p : Option Addr} {n : Nat} (h : Soft w p n) (hb : Below w.heap.size w w') : Soft w' p n := by
  refine ⟨fun i hi => ?_⟩
  obtain ⟨a, z, ha, hc, hf⟩ := h.cell i hi
  have lt := World.block_lt_of_cell? w _ hc
  exact ⟨a, z, ha, (hb.cell lt).trans hc, (hb.frozen lt).trans hf⟩
theorem soft_set {w : World} {a : Addr} {n k : Nat} (h : Soft w (some a) n) (hk : k < n) (z : Int) : Soft (w.setCell (a.add k) (.int .u8 z)) (some a) n := by
  refine ⟨fun i hi => ?_⟩
  obtain ⟨a1, z1, e1, c1, f1⟩ := h.cell i hi
  obtain ⟨a2, z2, e2, c2, f2⟩ := h.cell k hk
  cases e1
  cases e2
  by_cases e : a.add k = a.add i
  · exact ⟨a, z, rfl, by rw [← e]; exact World.cell?_setCell_same _ _ _ c2, by rw [World.frozen?_setCell, ← e]; exact f2⟩
  · exact ⟨a, z1, rfl, by rw [World.cell?_setCell_other _ _ _ _ e]; exact c1, by rw [World.frozen?_setCell]; exact f1⟩
end Go.Proofs.Ytfnidehbibfclaa
