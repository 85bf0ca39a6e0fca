/- Layer 5 (ext), the program's: how many bytes a field has; the field that has these. -/
import Derived.Test.YteclcefeipjoeaaExtI
import Derived.Test.YteclcefeipjoeaaOctQ
namespace Go.Proofs.Yteclcefeipjoeaa
open Go.ChangeShapes Go.WideShapes Go.ChangeAt Go.RowKit OctM

theorem numN_two {ds : List Nat} {i : Nat} (h : i + 2 ≤ ds.length) : numN ((ds.drop i).take 2) = ds.getD i 0 * 256 + ds.getD (i + 1) 0 := by
  have e : (ds.drop i).take 2 = [ds.getD i 0, ds.getD (i + 1) 0] := by
    apply List.ext_getElem?
    intro j
    rw [List.getElem?_take]
    rcases j with _ | _ | j
    · rw [if_pos (by omega), List.getElem?_drop, Nat.add_zero, List.getD_eq_getElem?_getD, List.getElem?_eq_getElem (by omega)]
      rfl
    · rw [if_pos (by omega), List.getElem?_drop, List.getD_eq_getElem?_getD, List.getD_eq_getElem?_getD]
      show ds[i + 1]? = some ((ds[i + 1]?).getD 0)
      rw [List.getElem?_eq_getElem (by omega)]
      rfl
    · rw [if_neg (by omega)]
      rfl
  rw [e]
  show (0 * 256 + ds.getD i 0) * 256 + ds.getD (i + 1) 0 = _
  omega
theorem at_two {ds : List Nat} {i : Nat} (h : i + 2 ≤ ds.length) : atV ds (i : Int) 2 = ds.getD i 0 * 256 + ds.getD (i + 1) 0 := by
  unfold atV
  rw [if_pos (by unfold inP okS; omega)]
  exact numN_two h

theorem getD_lt {ds : List Nat} (hy : Byt ds) (i : Nat) : ds.getD i 0 < 256 := by
  rw [List.getD_eq_getElem?_getD]
  by_cases g : i < ds.length
  · rw [List.getElem?_eq_getElem g]; exact hy _ (List.getElem_mem _)
  · rw [List.getElem?_eq_none (by omega)]; exact (by decide : 0 < 256)

/-- What is measured: the field's bytes, or 0 and an error. -/
def meaV (bs : List Nat) : Nat := if errX bs = 0 then lenX bs else 0

theorem pmeasure_any (w : World) (p : Option Addr) (n c : Nat) (ds : List Nat) (hd : Holds w p n c (valsN .u8 ds)) (hy : Byt ds) (hn : n ≤ 10000) :
    Calls Try.prog 36 #[.slice p n c] w (TellPost w (.returned (.tuple #[.int .i64 (meaV ds : Nat), .int .i64 (errX ds : Nat)]))) := by
  have ln : ds.length = n := by have := hd.len; rwa [valsN_len] at this
  by_cases s16 : n < 16
  · have e := errX_short (bs := ds) (by omega)
    have FIN : Hid (TellPost w (.returned (.tuple #[.int .i64 (meaV ds : Nat), .int .i64 (errX ds : Nat)])) (.returned (.tuple #[.int .i64 0, .int .i64 4])) w) := by
      unfold meaV
      rw [e, if_neg (by decide)]
      exact ⟨rfl, Below.refl _ _⟩
    have s1 : decide ((n : Int) < 16) = true := by simp; omega
    have s2 : decide (n < 16) = true := by simp; omega
    clear hd hy hn ln s16 e
    go_enter Try.func36, Try.ntmps36
    go_wp2
    go_ret2
    exact FIN.out
  have s1 : decide ((n : Int) < 16) = false := by simp; omega
  have s2 : decide (n < 16) = false := by simp; omega
  have L16 : 16 ≤ ds.length := by omega
  obtain ⟨s, hs⟩ : ∃ s, s = lenX ds := ⟨_, rfl⟩
  have PA := pat_any w p n c ds 2 2 hd hy (by unfold I64; omega) hn
  have ev : atV ds (2 : Int) 2 = s := by
    have := at_two (ds := ds) (i := 2) (by omega)
    rw [hs]
    exact this
  rw [ev] at PA
  have y2 := getD_lt hy 2
  have y3 := getD_lt hy 3
  have sb : s < 65536 := by rw [hs]; unfold lenX; omega
  replace PA := Lib.hid PA
  obtain ⟨z, hz⟩ : ∃ z, z = (s : Int) - 4 := ⟨_, rfl⟩
  have e3 : (s : Int) - 4 = z := by omega
  have w1 : IntKind.i64.wrap (s : Int) = (s : Int) := by rw [IntKind.wrap_i64]; omega
  have w2 : IntKind.i64.wrap z = z := by rw [IntKind.wrap_i64]; omega
  have PD := Lib.hid (fun w => pdata_any w z (by unfold I64; omega))
  have lz : longZ z ↔ longN (lenX ds - 4) := by rw [← hs]; unfold longZ longN; omega
  have s64 : (s : Int) < 65536 := by omega
  by_cases nlo : ¬ longZ z
  · rw [decide_eq_false nlo] at PD
    have e := errX_form (bs := ds) L16 (fun g => nlo (lz.2 g))
    have FIN : Hid (∀ w', Below w.heap.size w w' → TellPost w (.returned (.tuple #[.int .i64 (meaV ds : Nat), .int .i64 (errX ds : Nat)])) (.returned (.tuple #[.int .i64 0, .int .i64 5])) w') := fun w' b => by
      unfold meaV
      rw [e, if_neg (by decide)]
      exact ⟨rfl, b⟩
    clear hd hy ln s16 e L16 hs ev y2 y3 sb hz lz nlo
    go_enter Try.func36, Try.ntmps36
    go_wp2_with fail
    refine PA.out.mono ?_; rintro e w' ⟨rfl, low⟩
    have F := Lib.hid (FIN.out w' low)
    clear low
    go_wp2_with fail
    refine (PD.out _).mono ?_; rintro e w' ⟨rfl, rfl⟩
    go_wp2
    go_ret2
    exact F.out
  have lo : longZ z := Decidable.not_not.1 nlo
  rw [decide_eq_true lo] at PD
  by_cases more : n < s
  · have e := errX_more L16 (lz.1 lo) (by omega)
    have FIN : Hid (∀ w', Below w.heap.size w w' → TellPost w (.returned (.tuple #[.int .i64 (meaV ds : Nat), .int .i64 (errX ds : Nat)])) (.returned (.tuple #[.int .i64 0, .int .i64 4])) w') := fun w' b => by
      unfold meaV
      rw [e, if_neg (by decide)]
      exact ⟨rfl, b⟩
    have g1 : decide ((n : Int) < (s : Int)) = true := by simp; omega
    have g2 : decide (n < s) = true := by simp; omega
    clear hd hy ln s16 e L16 hs ev y2 y3 sb hz lz nlo lo more
    go_enter Try.func36, Try.ntmps36
    go_wp2_with fail
    refine PA.out.mono ?_; rintro e w' ⟨rfl, low⟩
    have F := Lib.hid (FIN.out w' low)
    clear low
    go_wp2_with fail
    refine (PD.out _).mono ?_; rintro e w' ⟨rfl, rfl⟩
    go_wp2
    go_ret2
    exact F.out
  · have e := errX_ok L16 (lz.1 lo) (by omega)
    have FIN : Hid (∀ w', Below w.heap.size w w' → TellPost w (.returned (.tuple #[.int .i64 (meaV ds : Nat), .int .i64 (errX ds : Nat)])) (.returned (.tuple #[.int .i64 (s : Nat), .int .i64 0])) w') := fun w' b => by
      unfold meaV
      rw [if_pos e, e, ← hs]
      exact ⟨rfl, b⟩
    have g1 : decide ((n : Int) < (s : Int)) = false := by simp; omega
    have g2 : decide (n < s) = false := by simp; omega
    clear hd hy ln s16 e L16 hs ev y2 y3 sb hz lz nlo lo more
    go_enter Try.func36, Try.ntmps36
    go_wp2_with fail
    refine PA.out.mono ?_; rintro e w' ⟨rfl, low⟩
    have F := Lib.hid (FIN.out w' low)
    clear low
    go_wp2_with fail
    refine (PD.out _).mono ?_; rintro e w' ⟨rfl, rfl⟩
    go_wp2
    go_ret2
    exact F.out

theorem New.setCell {B : Nat} {w : World} {p : Option Addr} {n c : Nat} {vs : List Value} (h : New B w p n c vs) {a : Addr} (hb : a.block < B) (v : Value) : New B (w.setCell a v) p n c vs := by
  have ne : ∀ b, p = some b → ∀ i, a ≠ b.add i := fun b hp i e => by
    have := h.base b hp
    rw [e, add_block] at hb
    omega
  refine ⟨⟨h.holds.len, h.holds.cap, h.holds.max, h.holds.bare, fun i u hu => ?_⟩, h.base, fun b hp i hi => ?_⟩
  · obtain ⟨b, hp, hc⟩ := h.holds.cell i u hu
    exact ⟨b, hp, by rw [World.cell?_setCell_other _ _ _ _ (ne b hp i)]; exact hc⟩
  · rw [World.frozen?_setCell]
    exact h.free b hp i hi

/-- A field is told: its type and its bytes in new memory. -/
def FldR (w : World) (t : Nat) (D : List Nat) (m : Nat) (e : Ending) (w' : World) : Prop :=
  ∃ q d, e = .returned (.agg #[.int .u16 (t : Nat), .slice q m d]) ∧ New w.heap.size w' q m d (valsN .u8 D) ∧ Below w.heap.size w w'

theorem pread5_any (w : World) (p : Option Addr) (n c m : Nat) (ds : List Nat) (hd : Holds w p n c (valsN .u8 ds)) (hy : Byt ds) (hn : n ≤ 10000) (hm : n = m + 4) :
    Calls Try.prog 37 #[.slice p n c] w (FldR w (tyX ds) (ds.drop 4) m) := by
  have ln : ds.length = n := by have := hd.len; rwa [valsN_len] at this
  obtain ⟨a, rfl, -⟩ := hd.atN (i := 0) (by omega)
  have cn := hd.cap
  obtain ⟨t, ht⟩ : ∃ t, t = tyX ds := ⟨_, rfl⟩
  have B0 : Below w.heap.size w (w.alloc (.cells #[.int .u16 0, .slice none 0 0] 44)) := (Below.refl _ _).alloc (Nat.le_refl _) _
  have PA := fun w' (b : Below w.heap.size w w') => pat_any w' (some a) n c ds 0 2 (hd.below b) hy (by unfold I64; omega) hn
  have ev : atV ds (0 : Int) 2 = t := by
    have := at_two (ds := ds) (i := 0) (by omega)
    rw [ht]
    exact this
  simp only [ev] at PA
  have y0 := getD_lt hy 0
  have y1 := getD_lt hy 1
  have tb : t < 65536 := by rw [ht]; unfold tyX; omega
  replace PA := Lib.hid PA
  have w1 : IntKind.u16.wrap (t : Int) = (t : Int) := by rw [IntKind.wrap_u16]; omega
  have t16 : (t : Int) < 65536 := by omega
  rw [← ht]
  obtain ⟨pq, hpq⟩ : ∃ pq : Option Addr, (if c = 4 then some a else some ⟨a.block, a.off + 4, none⟩) = pq := ⟨_, rfl⟩
  have PC := Lib.hid (fun w' (b : Below w.heap.size w w') => show Calls Try.prog 29 #[.slice pq m (c - 4)] w' _ from pclone_any w' pq m (c - 4) (ds.drop 4) (by
    have h := (hd.below b).piece 4 n (by omega) (by omega)
    have e : (some a : Option Addr).map (·.add (4 * 1)) = some ⟨a.block, a.off + 4, none⟩ := rfl
    rw [e, hpq, show n - 4 = m by omega] at h
    unfold valsN at h ⊢
    rw [List.take_of_length_le (by rw [List.length_drop, List.length_map]; omega)] at h
    rw [List.map_drop]
    exact h) (by omega))
  have BB := Lib.hid B0
  have HE : (w.alloc (.cells #[.int .u16 0, .slice none 0 0] 44)).heap[w.heap.size]? = some (.cells #[.int .u16 0, .slice none 0 0] 44 (0, 0)) := heap_alloc_new w _
  replace HE := Lib.hid HE
  have nm : (n : Int) - 4 = (m : Int) := by omega
  have nn : (4 : Int) ≤ (n : Int) := by omega
  have nc : (n : Int) ≤ (c : Int) := by omega
  have nm' : n - 4 = m := by omega
  clear hd hy hn hm ln cn ht B0 ev y0 y1 tb
  go_enter Try.func37, Try.ntmps37
  go_wp2_with fail
  refine (PA.out _ BB.out).mono ?_; rintro e w1 ⟨rfl, l1⟩
  have L1 := Lib.hid (BB.out.trans (l1.mono BB.out.size))
  have HE1 := Lib.hid ((l1.block _ (Array.getElem?_eq_some_iff.1 HE.out).1).trans HE.out)
  clear l1
  go_wp2_with fail
  refine (PC.out _ L1.out).mono ?_; rintro e w2 ⟨q, d, rfl, nw, l2⟩
  have HE2 := (l2.block _ (Array.getElem?_eq_some_iff.1 HE1.out).1).trans HE1.out
  have f0 := blk_free (o := 0) HE2
  have f1 := blk_free (o := 1) HE2
  have k0 := blk_cell (o := 0) HE2
  have k1 := blk_cell (o := 1) HE2
  have lt : w.heap.size < w1.heap.size := (Array.getElem?_eq_some_iff.1 HE1.out).1
  have S1 := blk_set (o := 0) (u := .int .u16 (t : Nat)) HE2
  have S2 := blk_set (o := 1) (u := .slice q m d) S1
  have NW := Lib.hid (((nw.setCell (a := ⟨w.heap.size, 0, none⟩) lt (.int .u16 (t : Nat))).setCell (a := ⟨w.heap.size, 1, none⟩) lt (.slice q m d)).low L1.out.size)
  have LW := Lib.hid (((L1.out.trans (l2.mono L1.out.size)).setCell (p := ⟨w.heap.size, 0, none⟩) (Nat.le_refl _) (.int .u16 (t : Nat))).setCell (p := ⟨w.heap.size, 1, none⟩) (Nat.le_refl _) (.slice q m d))
  replace S2 := Lib.hid S2
  clear nw l2 lt S1 HE2
  go_wp2
  (try simp only [Exit.inBlock, Exit.then])
  refine bodyPost_ret (results_cell_row rfl _ _ w.heap.size _ _ (0, 0) _ rfl S2.out Try.underlying44 rfl (by kernel_rfl)) rfl ?_
  exact ⟨q, d, rfl, NW.out, LW.out⟩
end Go.Proofs.Yteclcefeipjoeaa
