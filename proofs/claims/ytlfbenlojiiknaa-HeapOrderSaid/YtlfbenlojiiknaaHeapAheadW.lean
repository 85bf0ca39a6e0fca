/- HeapAhead, awake: the walks. -/
import Derived.Test.YtlfbenlojiiknaaHeapS
import Derived.Test.YtlfbenlojiiknaaHeapL
set_option maxRecDepth 100000
namespace Go.Proofs.Ytlfbenlojiiknaa
open Go.ChangeShapes Go.WideShapes Go.ChangeAt Go.RowKit HeapM

/-- A literal row of ids, in a block of its own. -/
theorem lit_row {w : World} {N : Nat} (ds : List Nat) (h : w.heap[N]? = some (.cells (valsN .u64 ds).toArray 32 (0, 0))) (hl : ds.length ≤ 1000) : Holds w (some ⟨N, 0, none⟩) ds.length ds.length (valsN .u64 ds) := by
  have b := blk_holds (n := ds.length) h (by simp [valsN_len]) (by unfold maxLen; omega)
  simpa using b

def a1 : It := ⟨1, 0, 9⟩
def a2 : It := ⟨2, 0, 5⟩
def a3 : It := ⟨3, 0, 7⟩
def a4 : It := ⟨1, 0, 4⟩
theorem ok_small (i s : Nat) (t : Int) (hi : i < 100) (hs : s < 100) (ht : 0 ≤ t) (ht' : t < 100) : ItOk ⟨i, s, t⟩ := ⟨by simp only; omega, by simp only; omega, by simp only; omega, by simp only; omega⟩

set_option maxHeartbeats 2000000 in
theorem awake13_any (C : HCode) (w : World) : Calls Try.prog 11 #[] w fun e w' => e = .returned (.bool true) ∧ Below w.heap.size w w' := by
  have NW : Hid (Calls Try.prog 9 #[.int .i64 9] w fun e w' => ∃ N, e = .returned (.tuple #[.pointer (some ⟨N, 0, none⟩), .int .i64 0]) ∧ HAt C w w' N 9 []) := C.new w w (Below.refl _ _) 9 (by decide) (by decide)
  have P1 : Hid (∀ wr N, HAt C w wr N 9 [] → Calls Try.prog 12 #[.pointer (some ⟨N, 0, none⟩), .agg #[.int .u64 1, .int .u64 0, .int .i64 9]] wr fun e w' => e = .returned (.int .i64 0) ∧ HAt C w w' N 9 [a1]) := fun wr N h => h.push a1 (ok_small _ _ _ (by decide) (by decide) (by decide) (by decide))
  have P2 : Hid (∀ wr N, HAt C w wr N 9 [a1] → Calls Try.prog 12 #[.pointer (some ⟨N, 0, none⟩), .agg #[.int .u64 2, .int .u64 0, .int .i64 5]] wr fun e w' => e = .returned (.int .i64 0) ∧ HAt C w w' N 9 [a2, a1]) := fun wr N h => h.push a2 (ok_small _ _ _ (by decide) (by decide) (by decide) (by decide))
  have P3 : Hid (∀ wr N, HAt C w wr N 9 [a2, a1] → Calls Try.prog 12 #[.pointer (some ⟨N, 0, none⟩), .agg #[.int .u64 3, .int .u64 0, .int .i64 7]] wr fun e w' => e = .returned (.int .i64 0) ∧ HAt C w w' N 9 [a2, a1, a3]) := fun wr N h => h.push a3 (ok_small _ _ _ (by decide) (by decide) (by decide) (by decide))
  have R1 : Hid (∀ wr N, HAt C w wr N 9 [a2, a1, a3] → Calls Try.prog 26 #[.pointer (some ⟨N, 0, none⟩)] wr fun e w' => ∃ p c, e = .returned (.slice p 3 c) ∧ HoldsI w' p 3 c [a2, a1, a3] ∧ HAt C w w' N 9 [a2, a1, a3]) := fun wr N h => h.row
  have S1 : Hid (∀ wr N, HAt C w wr N 9 [a2, a1, a3] → Calls Try.prog 15 #[.pointer (some ⟨N, 0, none⟩), .agg #[.int .u64 1, .int .u64 0, .int .i64 4]] wr fun e w' => e = .returned (.int .i64 0) ∧ HAt C w w' N 9 [a4, a2, a3]) := fun wr N h => h.set a4 (ok_small _ _ _ (by decide) (by decide) (by decide) (by decide))
  have R2 : Hid (∀ wr N, HAt C w wr N 9 [a4, a2, a3] → Calls Try.prog 26 #[.pointer (some ⟨N, 0, none⟩)] wr fun e w' => ∃ p c, e = .returned (.slice p 3 c) ∧ HoldsI w' p 3 c [a4, a2, a3] ∧ HAt C w w' N 9 [a4, a2, a3]) := fun wr N h => h.row
  have Q1 : Hid (∀ wr N, HAt C w wr N 9 [a4, a2, a3] → Calls Try.prog 19 #[.pointer (some ⟨N, 0, none⟩)] wr fun e w' => e = .returned (.tuple #[.agg #[.int .u64 1, .int .u64 0, .int .i64 4], .int .i64 0]) ∧ HAt C w w' N 9 [a2, a3]) := fun wr N h => h.pop
  have M1 : Hid (∀ wr N, HAt C w wr N 9 [a2, a3] → Calls Try.prog 17 #[.pointer (some ⟨N, 0, none⟩), .int .u64 8] wr fun e w' => e = .returned (.tuple #[.agg #[.int .u64 0, .int .u64 0, .int .i64 0], .int .i64 6]) ∧ HAt C w w' N 9 [a2, a3]) := fun wr N h => h.remove 8 (by decide)
  have R3 : Hid (∀ wr N, HAt C w wr N 9 [a2, a3] → Calls Try.prog 26 #[.pointer (some ⟨N, 0, none⟩)] wr fun e w' => ∃ p c, e = .returned (.slice p 2 c) ∧ HoldsI w' p 2 c [a2, a3] ∧ HAt C w w' N 9 [a2, a3]) := fun wr N h => h.row
  have P4 : Hid (∀ wr N, HAt C w wr N 9 [a2, a3] → Calls Try.prog 12 #[.pointer (some ⟨N, 0, none⟩), .agg #[.int .u64 3, .int .u64 0, .int .i64 0]] wr fun e w' => e = .returned (.int .i64 9) ∧ HAt C w w' N 9 [a2, a3]) := fun wr N h => h.push ⟨3, 0, 0⟩ (ok_small _ _ _ (by decide) (by decide) (by decide) (by decide))
  have AR := Lib.hid lare13_any
  go_enter Try.func11, Try.ntmps11
  go_wp2_with fail
  refine NW.out.mono ?_; rintro e w1 ⟨N, rfl, h⟩
  have H := Lib.hid h
  clear h NW
  go_wp2_with fail
  refine (P1.out w1 N H.out).mono ?_; rintro e w2 ⟨rfl, h⟩
  replace H := Lib.hid h
  clear h
  go_wp2_with fail
  refine (P2.out w2 N H.out).mono ?_; rintro e w3 ⟨rfl, h⟩
  replace H := Lib.hid h
  clear h
  go_wp2_with fail
  refine (P3.out w3 N H.out).mono ?_; rintro e w4 ⟨rfl, h⟩
  replace H := Lib.hid h
  clear h P1 P2 P3
  go_wp2_with fail
  refine (R1.out w4 N H.out).mono ?_; rintro e w5 ⟨p5, c5, rfl, r5, h⟩
  have HR := Lib.hid r5
  replace H := Lib.hid h
  clear r5 h R1
  have AL : Below w5.heap.size w5 (w5.alloc (.cells #[.int .u64 2, .int .u64 1, .int .u64 3] 32)) := (Below.refl _ _).alloc (Nat.le_refl _) _
  have LR : Hid (Holds (w5.alloc (.cells #[.int .u64 2, .int .u64 1, .int .u64 3] 32)) (some ⟨w5.heap.size, 0, none⟩) 3 3 (valsN .u64 [2, 1, 3])) := lit_row [2, 1, 3] (heap_alloc_new w5 _) (by decide)
  have A5 := Lib.hid (AR.out (w5.alloc (.cells #[.int .u64 2, .int .u64 1, .int .u64 3] 32)) p5 3 c5 [a2, a1, a3] (some ⟨w5.heap.size, 0, none⟩) 3 3 [2, 1, 3] (HR.out.below AL) LR.out (by decide))
  rw [show decide (idsOf [a2, a1, a3] = [2, 1, 3]) = true from by decide] at A5
  replace H := Lib.hid (H.out.below AL)
  clear AL LR HR
  go_wp2_with fail
  refine A5.out.mono ?_; rintro e w6 ⟨rfl, l⟩
  replace H := Lib.hid (H.out.below l)
  clear l A5
  go_wp2_with fail
  refine (S1.out w6 N H.out).mono ?_; rintro e w7 ⟨rfl, h⟩
  replace H := Lib.hid h
  clear h S1
  go_wp2_with fail
  refine (R2.out w7 N H.out).mono ?_; rintro e w8 ⟨p8, c8, rfl, r8, h⟩
  have HR := Lib.hid r8
  replace H := Lib.hid h
  clear r8 h R2
  have AL : Below w8.heap.size w8 (w8.alloc (.cells #[.int .u64 1, .int .u64 2, .int .u64 3] 32)) := (Below.refl _ _).alloc (Nat.le_refl _) _
  have LR : Hid (Holds (w8.alloc (.cells #[.int .u64 1, .int .u64 2, .int .u64 3] 32)) (some ⟨w8.heap.size, 0, none⟩) 3 3 (valsN .u64 [1, 2, 3])) := lit_row [1, 2, 3] (heap_alloc_new w8 _) (by decide)
  have A5 := Lib.hid (AR.out (w8.alloc (.cells #[.int .u64 1, .int .u64 2, .int .u64 3] 32)) p8 3 c8 [a4, a2, a3] (some ⟨w8.heap.size, 0, none⟩) 3 3 [1, 2, 3] (HR.out.below AL) LR.out (by decide))
  rw [show decide (idsOf [a4, a2, a3] = [1, 2, 3]) = true from by decide] at A5
  replace H := Lib.hid (H.out.below AL)
  clear AL LR HR
  go_wp2_with fail
  refine A5.out.mono ?_; rintro e w9 ⟨rfl, l⟩
  replace H := Lib.hid (H.out.below l)
  clear l A5
  go_wp2_with fail
  refine (Q1.out w9 N H.out).mono ?_; rintro e w10 ⟨rfl, h⟩
  have AX : Below w10.heap.size w10 (w10.alloc (.cells #[.int .u64 1, .int .u64 0, .int .i64 4] 34)) := (Below.refl _ _).alloc (Nat.le_refl _) _
  have BX : Hid ((w10.alloc (.cells #[.int .u64 1, .int .u64 0, .int .i64 4] 34)).heap[w10.heap.size]? = some (.cells #[.int .u64 1, .int .u64 0, .int .i64 4] 34 (0, 0))) := heap_alloc_new _ _
  have RK : Hid (Calls Try.prog 17 #[.pointer (some ⟨N, 0, none⟩), .int .u64 8] (w10.alloc (.cells #[.int .u64 1, .int .u64 0, .int .i64 4] 34)) fun e w' => e = .returned (.tuple #[.agg #[.int .u64 0, .int .u64 0, .int .i64 0], .int .i64 6]) ∧ HAt C w w' N 9 [a2, a3] ∧ ∀ K o, w10.heap.size ≤ K → (w10.alloc (.cells #[.int .u64 1, .int .u64 0, .int .i64 4] 34)).heap[K]? = some o → w'.heap[K]? = some o) := h.remove_keep AX 8 (by decide)
  clear h Q1 AX M1 H
  go_wp2_with fail
  refine RK.out.mono ?_; rintro e w11 ⟨rfl, h, kp⟩
  have B11 := kp _ _ (Nat.le_refl _) BX.out
  have AZ : Below w11.heap.size w11 (w11.alloc (.cells #[.int .u64 0, .int .u64 0, .int .i64 0] 34)) := (Below.refl _ _).alloc (Nat.le_refl _) _
  have x0 := blk_cell (o := 0) ((AZ.block _ (Array.getElem?_eq_some_iff.1 B11).1).trans B11)
  simp only [List.getElem?_toArray, List.getElem?_cons_zero] at x0
  have H := Lib.hid (h.below AZ)
  clear h kp B11 BX AZ RK
  go_wp2_with fail
  generalize w11.alloc (.cells #[.int .u64 0, .int .u64 0, .int .i64 0] 34) = w12 at *
  refine (R3.out w12 N H.out).mono ?_; rintro e w13 ⟨p13, c13, rfl, r13, h⟩
  have HR := Lib.hid r13
  replace H := Lib.hid h
  clear r13 h R3 x0
  have AL : Below w13.heap.size w13 (w13.alloc (.cells #[.int .u64 2, .int .u64 3] 32)) := (Below.refl _ _).alloc (Nat.le_refl _) _
  have LR : Hid (Holds (w13.alloc (.cells #[.int .u64 2, .int .u64 3] 32)) (some ⟨w13.heap.size, 0, none⟩) 2 2 (valsN .u64 [2, 3])) := lit_row [2, 3] (heap_alloc_new w13 _) (by decide)
  have A5 := Lib.hid (AR.out (w13.alloc (.cells #[.int .u64 2, .int .u64 3] 32)) p13 2 c13 [a2, a3] (some ⟨w13.heap.size, 0, none⟩) 2 2 [2, 3] (HR.out.below AL) LR.out (by decide))
  rw [show decide (idsOf [a2, a3] = [2, 3]) = true from by decide] at A5
  replace H := Lib.hid (H.out.below AL)
  clear AL LR HR
  go_wp2_with fail
  refine A5.out.mono ?_; rintro e w14 ⟨rfl, l⟩
  replace H := Lib.hid (H.out.below l)
  clear l A5
  go_wp2_with fail
  refine (P4.out w14 N H.out).mono ?_; rintro e w15 ⟨rfl, h⟩
  have L := Lib.hid h.low
  clear h H
  go_wp2
  go_ret
  exact ⟨rfl, L.out⟩
end Go.Proofs.Ytlfbenlojiiknaa
