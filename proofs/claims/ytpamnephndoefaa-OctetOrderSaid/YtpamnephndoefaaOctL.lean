/- Contracts of the document's own answers for layer 3 (octet): rows laid. -/
import Derived.Test.YtpamnephndoefaaOctP
import Derived.Deep.RegionHeld3
namespace Go.Proofs.Ytpamnephndoefaa
open Go.ChangeShapes Go.WideShapes Go.ChangeAt Go.RowKit OctM

theorem rlay_arg (w : World) (p q : Option Addr) (n c m c' : Nat) (zs : List Int) (hz : Holds w p n c (valsI .i64 zs)) (hn : n ≤ 1000) (h : (¬ okAll zs) ∨ m ≠ n) :
    Calls Try.prog 12 #[.slice p n c, .slice q m c'] w (TellPost w (.returned (.tuple #[.slice none 0 0, .int .i64 1]))) := by
  have FIN : Hid (TellPost w (.returned (.tuple #[.slice none 0 0, .int .i64 1])) (.returned (.tuple #[.slice none 0 0, .int .i64 1])) w) := ⟨rfl, Below.refl _ _⟩
  by_cases ok : okAll zs
  · have u1 : 0 ≤ sumI zs := by have := sumI_le ok; omega
    have WD := Lib.hid (rwidth_any w p n c zs hz (by omega) (sumI zs) (by unfold widthI; exact if_pos ok))
    have ne : m ≠ n := h.resolve_left (fun g => g ok)
    have b1 : decide (sumI zs < 0) = false := by simp; omega
    have b2 : ((m : Int) != (n : Int)) = true := by simp; omega
    have b3 : ((m : Int) == (n : Int)) = false := by simp; omega
    have b4 : ¬ (m : Int) = (n : Int) := by omega
    generalize sumI zs = t at *
    clear h ne hz ok
    go_enter Try.func12, Try.ntmps12
    go_wp2_with fail
    refine WD.out.mono ?_; rintro e w' ⟨rfl, rfl⟩
    go_wp2
    go_ret2
    exact FIN.out
  · have WD := Lib.hid (rwidth_any w p n c zs hz (by omega) (-1) (by unfold widthI; exact if_neg ok))
    clear h hz ok
    go_enter Try.func12, Try.ntmps12
    go_wp2_with fail
    refine WD.out.mono ?_; rintro e w' ⟨rfl, rfl⟩
    go_wp2
    go_ret2
    exact FIN.out

structure LRel (w wr : World) (zs : List Int) (xs : List Nat) (v : Value) (L k : Nat) : Prop where
  own : wr.ownsRow w.heap.size 5 1 v L (valsN .u8 (layT zs xs k))
  low : Below w.heap.size w wr
  len : L = (layT zs xs k).length
  fit : fitT zs xs k

/-- What Lay leaves: the row, or ErrRange. -/
def LayPost (w : World) (n L : Nat) (zs : List Int) (xs : List Nat) (e : Ending) (w' : World) : Prop :=
  (fitT zs xs n ∧ RowPost w L (layT zs xs n) e w') ∨ (¬ fitT zs xs n ∧ TellPost w (.returned (.tuple #[.slice none 0 0, .int .i64 20])) e w')

theorem lrel_next {w wr w1 w2 : World} {zs : List Int} {xs : List Nat} {v v' : Value} {L k s x : Nat} (h : LRel w wr zs xs v L k) (hx : xs.getD k 0 = x) (hs : (zs.getD k 0).toNat = s) (hf : x < 256 ^ s) (hb : Below wr.heap.size wr w1)
    (ho : w2.ownsRow w.heap.size 5 1 v' (L + s) (valsN .u8 (layT zs xs k) ++ valsN .u8 (digN x s))) (hg : w1.grownBy w2 v.ownBlock) : LRel w w2 zs xs v' (L + s) (k + 1) := by
  refine ⟨?_, (h.low.trans (hb.mono h.low.size)).grown hg (Nat.le_trans h.low.size hb.size) (fun j hj => (World.ownsRow.lt h.own j hj).1), ?_, fun i hi => ?_⟩
  · rw [layT_succ, hx, hs, valsN_append]; exact ho
  · rw [layT_succ, hx, hs, List.length_append, digN_len, ← h.len]
  · by_cases e : i = k
    · subst e; rw [hx, hs]; exact hf
    · exact h.fit i (by omega)

set_option maxHeartbeats 3200000 in
theorem rlay_any (w : World) (p q : Option Addr) (n c c' L : Nat) (zs : List Int) (xs : List Nat) (hz : Holds w p n c (valsI .i64 zs)) (hx : Holds w q n c' (valsN .u64 xs)) (h64 : ∀ x ∈ xs, x < 18446744073709551616) (hn : n ≤ 1000) (ok : okAll zs) (hL : (layT zs xs n).length = L) :
    Calls Try.prog 12 #[.slice p n c, .slice q n c'] w (LayPost w n L zs xs) := by
  obtain ⟨i0, hi, hz0, hz1, hz2⟩ := info_of info8
  have lz : zs.length = n := by have := hz.len; rwa [valsI_len] at this
  have lx : xs.length = n := by have := hx.len; rwa [valsN_len] at this
  have sb := sumI_le ok
  have WD := Lib.hid (rwidth_any w p n c zs hz (by omega) (sumI zs) (by unfold widthI; exact if_pos ok))
  have b1 : decide (sumI zs < 0) = false := by simp; omega
  have b0 : 0 ≤ sumI zs := by omega
  have HZ := Lib.hid hz
  have HX := Lib.hid hx
  have LZ := Lib.hid lz
  have LX := Lib.hid lx
  have H64 := Lib.hid h64
  have HN := Lib.hid hn
  have OK := Lib.hid ok
  have HL := Lib.hid hL
  generalize sumI zs = t at *
  clear hz hx lz lx h64 ok hL sb
  have hn' : (n : Int) ≤ 1000 := by omega
  clear hn
  go_enter Try.func12, Try.ntmps12
  go_wp2_with fail
  refine WD.out.mono ?_; rintro e w' ⟨rfl, rfl⟩
  go_wp2_with fail
  go_loopw [6, 7] (fun v i wr => ∃ (k M : Nat), i = .int .i64 k ∧ Hid (k ≤ n) ∧ Hid (LRel w wr zs xs v M k)) (fun _ i _ => 2000 - (intOf i).toNat)
  case atStart => exact ⟨0, 0, rfl, Nat.zero_le _, ⟨World.ownsRow_nil w _ _ 1, Below.refl _ _, rfl, fun i hi => by omega⟩⟩
  case round =>
    obtain ⟨k, M, rfl, hk, h⟩ := hrel
    by_cases g : k < n
    · have g' : (k : Int) < (n : Int) := by omega
      have G := Lib.hid g
      obtain ⟨a, ea, ca⟩ := (HZ.out.below h.out.low).atI g
      obtain ⟨b, eb, cb⟩ := (HX.out.below h.out.low).atN g
      subst ea eb
      obtain ⟨x, ex⟩ : ∃ x, xs.getD k 0 = x := ⟨_, rfl⟩
      obtain ⟨s, es⟩ : ∃ s, (zs.getD k 0).toNat = s := ⟨_, rfl⟩
      have os := okAll_get OK.out (i := k) (by rw [LZ.out]; exact g)
      have e0 : zs.getD k 0 = (s : Int) := by unfold okS at os; omega
      rw [e0] at ca
      rw [ex] at cb
      have s1 : 1 ≤ s := by unfold okS at os; omega
      have s8 : s ≤ 8 := by unfold okS at os; omega
      have x64 : x < 18446744073709551616 := by
        rw [← ex, List.getD_eq_getElem?_getD, List.getElem?_eq_getElem (by rw [LX.out]; exact g)]
        exact H64.out _ (List.getElem_mem _)
      have DG := Lib.hid (fun w => rdigits_any w x s x64 s1 s8)
      have EX := Lib.hid ex
      have ES := Lib.hid es
      have CA := Lib.hid ca
      have CB := Lib.hid cb
      have ML := layT_le zs xs k OK.out (by rw [LZ.out]; omega)
      rw [← h.out.len] at ML
      have MB : Hid (M + s ≤ maxLen) := by unfold Hid maxLen; have := HN.out; omega
      have MB2 : Hid ((M + s) * 1 ≤ 140737488355328) := by unfold Hid; have := HN.out; omega
      have DL : Hid ((valsN .u8 (digN x s)).length = s * 1) := by unfold Hid; rw [valsN_len, digN_len, Nat.mul_one]
      clear g ex es os e0 s1 s8 x64 ca cb ML
      have HB0 : Below wr.heap.size wr wr.drew := (Below.refl _ _).drew
      by_cases f : x < 256 ^ s
      · have BF : Hid (decide (x < 256 ^ s) = true) := by unfold Hid; simp; exact f
        have F := Lib.hid f
        clear f
        go_wp2_with fail
        go_region_held3 (fun w' => w'.cell? (b.add k) = some (.int .u64 x) ∧ w'.cell? (a.add k) = some (.int .i64 s))
          (first | exact ⟨(HB0.cell (World.block_lt_of_cell? wr _ CB.out)).trans CB.out, (HB0.cell (World.block_lt_of_cell? wr _ CA.out)).trans CA.out⟩ | exact ⟨(HB1.cell (World.block_lt_of_cell? wr _ CB.out)).trans CB.out, (HB1.cell (World.block_lt_of_cell? wr _ CA.out)).trans CA.out⟩)
          (first
            | (go_at_call 35; refine (DG.out _).mono ?_; rintro e w1 ⟨cs, rfl, hb, hc, hl⟩; rw [BF.out]; have HB1 : Below wr.heap.size wr w1 := HB0.trans (hl.mono (Nat.le_refl _)); have HBK : Hid (w1.heap[wr.heap.size]? = some (.cells cs 5 (0, 0))) := hb; have HC := Lib.hid hc; clear hb hc hl))
        have D1 : Hid (∀ j u, (valsN .u8 (digN x s))[j]? = some u → w1.cell? ((⟨wr.heap.size, 0, none⟩ : Addr).add j) = some u) := by
          intro j u hu
          rw [add_zero', blk_cell HBK.out, ← Array.getElem?_toList, HC.out]
          exact hu
        have O1 : Hid (w1.ownsRow w.heap.size 5 1 u6 M (valsN .u8 (layT zs xs k))) := own_keep h.out.own HB1
        have S1 : Hid (w.heap.size ≤ w1.heap.size) := Nat.le_trans h.out.low.size HB1.size
        have HB := Lib.hid HB1
        go_wp2_with (at_builtin; refine wpList_append_own _ rfl _ _ 24 rfl w.heap.size 5 i0 (.int .u8 0) 1 1 Try.underlying24 hi hz0 hz1 hz2 rfl (by decide) _ _ _ rfl O1.out ⟨wr.heap.size, 0, none⟩ s s (valsN .u8 (digN x s)) rfl DL.out D1.out (valsN_one _ _) MB.out MB2.out S1.out ?_)
        intro v' w2 o2 g2 _
        have NX := Lib.hid (lrel_next h.out EX.out ES.out F.out HB.out o2 g2)
        clear o2 g2
        go_wp2
        go_roundw
        case rel => exact ⟨k + 1, M + s, by go_num, G.out, NX⟩
        case measure => simp [intOf]; omega
      · have BF : Hid (decide (x < 256 ^ s) = false) := by unfold Hid; simp; omega
        have F := Lib.hid f
        clear f
        go_wp2_with fail
        go_region_held3 (fun w' => w'.cell? (b.add k) = some (.int .u64 x) ∧ w'.cell? (a.add k) = some (.int .i64 s))
          (first | exact ⟨(HB0.cell (World.block_lt_of_cell? wr _ CB.out)).trans CB.out, (HB0.cell (World.block_lt_of_cell? wr _ CA.out)).trans CA.out⟩ | exact ⟨(HB1.cell (World.block_lt_of_cell? wr _ CB.out)).trans CB.out, (HB1.cell (World.block_lt_of_cell? wr _ CA.out)).trans CA.out⟩)
          (first
            | (go_at_call 35; refine (DG.out _).mono ?_; rintro e w1 ⟨cs, rfl, hb, hc, hl⟩; rw [BF.out]; have HB1 : Below wr.heap.size wr w1 := HB0.trans (hl.mono (Nat.le_refl _)); have HBK : Hid (w1.heap[wr.heap.size]? = some (.cells cs 5 (0, 0))) := hb; have HC := Lib.hid hc; clear hb hc hl))
        have FIN : Hid (LayPost w n L zs xs (.returned (.tuple #[.slice none 0 0, .int .i64 20])) w1) := by
          refine .inr ⟨fun ft => F.out ?_, rfl, h.out.low.trans (HB1.mono h.out.low.size)⟩
          have := ft k G.out
          rwa [EX.out, ES.out] at this
        go_wp2
        go_ret2
        exact FIN.out
    · have g' : (n : Int) ≤ (k : Int) := by omega
      have ks : k = n := by have := hk.out; omega
      subst ks
      have FIN : Hid (LayPost w k L zs xs (.returned (.tuple #[u6, .int .i64 0])) wr) := by
        refine .inl ⟨h.out.fit, ⟨_, rfl, ?_, h.out.low⟩⟩
        have e : M = L := h.out.len.trans HL.out
        rw [← e]
        exact h.out.own
      clear h g
      go_wp2
      go_ret2
      exact FIN.out
end Go.Proofs.Ytpamnephndoefaa
