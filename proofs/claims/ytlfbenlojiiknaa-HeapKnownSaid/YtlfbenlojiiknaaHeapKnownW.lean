/- HeapKnown: the walk. -/
import Derived.Test.YtlfbenlojiiknaaHeapAheadW
set_option maxRecDepth 100000
namespace Go.Proofs.Ytlfbenlojiiknaa
open Go.ChangeShapes Go.WideShapes Go.ChangeAt Go.RowKit HeapM

def k5 : It := ⟨1, 0, 5⟩
def k3 : It := ⟨1, 9, 3⟩
/-- The item that Min told, in its block. -/
structure KBox (w wr : World) (b : Nat) : Prop where
  at_ : wr.heap[b]? = some (.cells #[.int .u64 1, .int .u64 9, .int .i64 3] 34 (0, 0))
  low : Below w.heap.size w wr
theorem KBox.below {w wr w' : World} {b : Nat} (h : KBox w wr b) (k : Below wr.heap.size wr w') : KBox w w' b :=
  ⟨(k.block _ (Array.getElem?_eq_some_iff.1 h.at_).1).trans h.at_, h.low.trans (k.mono h.low.size)⟩

section
attribute [local go_sem ↓] eqlI_eq
set_option maxHeartbeats 4000000 in
theorem known13_walk (C : HCode) (w : World) : Calls Try.prog 8 #[] w fun e w' => e = .returned (.bool true) ∧ Below w.heap.size w w' := by
  have N0 : Hid (Calls Try.prog 9 #[.int .i64 0] w fun e w' => e = .returned (.tuple #[.pointer none, .int .i64 1]) ∧ Below w.heap.size w w') := C.new_no w 0 (by unfold I64; omega) (by omega)
  have N1 : Hid (∀ wr, Below w.heap.size w wr → Calls Try.prog 9 #[.int .i64 1048577] wr fun e w' => e = .returned (.tuple #[.pointer none, .int .i64 1]) ∧ Below w.heap.size w w') := fun wr l => (C.new_no wr 1048577 (by unfold I64; omega) (by omega)).mono fun e w' ⟨a, b⟩ => ⟨a, l.trans (b.mono l.size)⟩
  have N2 : Hid (∀ wr, Below w.heap.size w wr → Calls Try.prog 9 #[.int .i64 1] wr fun e w' => ∃ N, e = .returned (.tuple #[.pointer (some ⟨N, 0, none⟩), .int .i64 0]) ∧ HAt C w w' N 1 []) := fun wr l => C.new w wr l 1 (by decide) (by decide)
  have P0 : Hid (∀ wr N, HAt C w wr N 1 [] → Calls Try.prog 19 #[.pointer (some ⟨N, 0, none⟩)] wr fun e w' => e = .returned (.tuple #[.agg #[.int .u64 0, .int .u64 0, .int .i64 0], .int .i64 6]) ∧ HAt C w w' N 1 []) := fun wr N h => h.pop
  have S0 : Hid (∀ wr N, HAt C w wr N 1 [] → Calls Try.prog 15 #[.pointer (some ⟨N, 0, none⟩), .agg #[.int .u64 1, .int .u64 0, .int .i64 0]] wr fun e w' => e = .returned (.int .i64 6) ∧ HAt C w w' N 1 []) := fun wr N h => h.set ⟨1, 0, 0⟩ (ok_small _ _ _ (by decide) (by decide) (by decide) (by decide))
  have P1 : Hid (∀ wr N, HAt C w wr N 1 [] → Calls Try.prog 12 #[.pointer (some ⟨N, 0, none⟩), .agg #[.int .u64 1, .int .u64 0, .int .i64 5]] wr fun e w' => e = .returned (.int .i64 0) ∧ HAt C w w' N 1 [k5]) := fun wr N h => h.push k5 (ok_small _ _ _ (by decide) (by decide) (by decide) (by decide))
  have P2 : Hid (∀ wr N, HAt C w wr N 1 [k5] → Calls Try.prog 12 #[.pointer (some ⟨N, 0, none⟩), .agg #[.int .u64 2, .int .u64 0, .int .i64 0]] wr fun e w' => e = .returned (.int .i64 7) ∧ HAt C w w' N 1 [k5]) := fun wr N h => h.push ⟨2, 0, 0⟩ (ok_small _ _ _ (by decide) (by decide) (by decide) (by decide))
  have S1 : Hid (∀ wr N, HAt C w wr N 1 [k5] → Calls Try.prog 15 #[.pointer (some ⟨N, 0, none⟩), .agg #[.int .u64 1, .int .u64 9, .int .i64 3]] wr fun e w' => e = .returned (.int .i64 0) ∧ HAt C w w' N 1 [k3]) := fun wr N h => h.set k3 (ok_small _ _ _ (by decide) (by decide) (by decide) (by decide))
  have M1 : Hid (∀ wr N, HAt C w wr N 1 [k3] → Calls Try.prog 24 #[.pointer (some ⟨N, 0, none⟩)] wr fun e w' => e = .returned (.tuple #[.agg #[.int .u64 1, .int .u64 9, .int .i64 3], .bool true]) ∧ HAt C w w' N 1 [k3]) := fun wr N h => h.min
  have ZP : Hid (∀ wr b, KBox w wr b → Calls Try.prog 19 #[.pointer none] wr fun e w' => e = .returned (.tuple #[.agg #[.int .u64 0, .int .u64 0, .int .i64 0], .int .i64 2]) ∧ KBox w w' b) := fun wr b h => (C.pop_none wr).mono fun e w' ⟨k, l⟩ => ⟨k, h.below l⟩
  have ZR : Hid (∀ wr b, KBox w wr b → Calls Try.prog 17 #[.pointer none, .int .u64 1] wr fun e w' => e = .returned (.tuple #[.agg #[.int .u64 0, .int .u64 0, .int .i64 0], .int .i64 2]) ∧ KBox w w' b) := fun wr b h => (C.remove_none wr 1).mono fun e w' ⟨k, l⟩ => ⟨k, h.below l⟩
  have ZM : Hid (∀ wr b, KBox w wr b → Calls Try.prog 24 #[.pointer none] wr fun e w' => e = .returned (.tuple #[.agg #[.int .u64 0, .int .u64 0, .int .i64 0], .bool false]) ∧ KBox w w' b) := fun wr b h => (C.min_none wr).mono fun e w' ⟨k, l⟩ => ⟨k, h.below l⟩
  have ZF : Hid (∀ wr b, KBox w wr b → Calls Try.prog 22 #[.pointer none, .int .u64 1] wr fun e w' => e = .returned (.tuple #[.agg #[.int .u64 0, .int .u64 0, .int .i64 0], .int .i64 0, .bool false]) ∧ KBox w w' b) := fun wr b h => (C.find_none wr 1).mono fun e w' ⟨k, l⟩ => ⟨k, h.below l⟩
  have AW : Hid (∀ wr b, KBox w wr b → Calls Try.prog 11 #[] wr fun e w' => e = .returned (.bool true) ∧ KBox w w' b) := fun wr b h => (awake13_any C wr).mono fun e w' ⟨k, l⟩ => ⟨k, h.below l⟩
  have ZU : Hid (∀ wr b, KBox w wr b → Calls Try.prog 12 #[.pointer none, .agg #[.int .u64 1, .int .u64 9, .int .i64 3]] wr fun e w' => e = .returned (.int .i64 2) ∧ KBox w w' b) := fun wr b h => (C.push_none wr k3).mono fun e w' ⟨k, l⟩ => ⟨k, h.below l⟩
  have ZS : Hid (∀ wr b, KBox w wr b → Calls Try.prog 15 #[.pointer none, .agg #[.int .u64 1, .int .u64 9, .int .i64 3]] wr fun e w' => e = .returned (.int .i64 2) ∧ KBox w w' b) := fun wr b h => (C.set_none wr k3).mono fun e w' ⟨k, l⟩ => ⟨k, h.below l⟩
  have ZL : Hid (∀ wr b, KBox w wr b → Calls Try.prog 13 #[.pointer none] wr fun e w' => e = .returned (.int .i64 0) ∧ KBox w w' b) := fun wr b h => (C.len_none wr).mono fun e w' ⟨k, l⟩ => ⟨k, h.below l⟩
  have ZO : Hid (∀ wr b, KBox w wr b → Calls Try.prog 26 #[.pointer none] wr fun e w' => ∃ p c, e = .returned (.slice p 0 c) ∧ KBox w w' b) := fun wr b h => (C.row_none wr).mono fun e w' ⟨p, c, k, _, l⟩ => ⟨p, c, k, h.below l⟩
  have ZC : Hid (∀ wr b, KBox w wr b → Calls Try.prog 21 #[.pointer none] wr fun e w' => e = .returned (.pointer none) ∧ KBox w w' b) := fun wr b h => (C.copy_none wr).mono fun e w' ⟨k, l⟩ => ⟨k, h.below l⟩
  have EQ : ∀ W, (eqlI (.agg #[.int .u64 1, .int .u64 9, .int .i64 3]) (.agg #[.int .u64 1, .int .u64 9, .int .i64 3])).run Try.prog W = .ok (.bool true) W := fun W => eql_it W k3 k3 true (by decide)
  go_enter Try.func8, Try.ntmps8
  go_wp2_with fail
  refine N0.out.mono ?_; rintro e w1 ⟨rfl, h⟩
  go_wp2_with fail
  refine (N1.out w1 h).mono ?_; rintro e w2 ⟨rfl, k⟩
  go_wp2_with fail
  refine (N2.out w2 k).mono ?_; rintro e w3 ⟨N, rfl, t⟩
  have H := Lib.hid t
  clear h k t N0 N1 N2
  go_wp2_with fail
  refine (P0.out w3 N H.out).mono ?_; rintro e w4 ⟨rfl, h⟩
  replace H := Lib.hid (h.below ((Below.refl _ _).alloc (Nat.le_refl _) (.cells #[.int .u64 0, .int .u64 0, .int .i64 0] 34)))
  clear h P0
  go_wp2_with fail
  generalize w4.alloc (.cells #[.int .u64 0, .int .u64 0, .int .i64 0] 34) = w5 at *
  refine (S0.out w5 N H.out).mono ?_; rintro e w6 ⟨rfl, h⟩
  replace H := Lib.hid h
  clear h S0
  go_wp2_with fail
  refine (P1.out w6 N H.out).mono ?_; rintro e w7 ⟨rfl, h⟩
  replace H := Lib.hid h
  clear h P1
  go_wp2_with fail
  refine (P2.out w7 N H.out).mono ?_; rintro e w8 ⟨rfl, h⟩
  replace H := Lib.hid h
  clear h P2
  go_wp2_with fail
  refine (S1.out w8 N H.out).mono ?_; rintro e w9 ⟨rfl, h⟩
  replace H := Lib.hid h
  clear h S1
  go_wp2_with fail
  refine (M1.out w9 N H.out).mono ?_; rintro e w10 ⟨rfl, h⟩
  obtain ⟨b, hb⟩ : ∃ b, w10.heap.size = b := ⟨_, rfl⟩
  have B : Hid (KBox w (w10.alloc (.cells #[.int .u64 1, .int .u64 9, .int .i64 3] 34)) b) := ⟨by rw [← hb]; exact heap_alloc_new _ _, h.low.trans ((Below.refl _ _).alloc (h.low.size) _)⟩
  clear h M1 H
  go_upto_region 13 with fail
  generalize w10.alloc (.cells #[.int .u64 1, .int .u64 9, .int .i64 3] 34) = w11 at *
  clear hb
  have HB := B.out
  clear B
  go_wp2_with fail
  refine (ZP.out _ b HB).mono ?_; clear HB; rintro e w12 ⟨rfl, h⟩
  have HB := h.below ((Below.refl _ _).alloc (Nat.le_refl _) (.cells #[.int .u64 0, .int .u64 0, .int .i64 0] 34))
  clear h
  go_wp2_with fail
  refine (ZR.out _ b HB).mono ?_; clear HB; rintro e w13 ⟨rfl, h⟩
  have HB := h.below ((Below.refl _ _).alloc (Nat.le_refl _) (.cells #[.int .u64 0, .int .u64 0, .int .i64 0] 34))
  clear h
  go_wp2_with fail
  refine (ZM.out _ b HB).mono ?_; clear HB; rintro e w14 ⟨rfl, h⟩
  have HB := h.below ((Below.refl _ _).alloc (Nat.le_refl _) (.cells #[.int .u64 0, .int .u64 0, .int .i64 0] 34))
  clear h
  go_wp2_with fail
  refine (ZF.out _ b HB).mono ?_; clear HB; rintro e w15 ⟨rfl, h⟩
  have HB := h.below ((Below.refl _ _).alloc (Nat.le_refl _) (.cells #[.int .u64 0, .int .u64 0, .int .i64 0] 34))
  clear h
  have g0 := blk_cell (o := 0) HB.at_
  have g1 := blk_cell (o := 1) HB.at_
  have g2 := blk_cell (o := 2) HB.at_
  simp only [List.getElem?_toArray, List.getElem?_cons_zero, List.getElem?_cons_succ] at g0 g1 g2
  go_wp2_with fail
  refine (AW.out _ b HB).mono ?_; clear HB g0 g1 g2; rintro e wx ⟨rfl, HB⟩
  have g0 := blk_cell (o := 0) HB.at_
  have g1 := blk_cell (o := 1) HB.at_
  have g2 := blk_cell (o := 2) HB.at_
  simp only [List.getElem?_toArray, List.getElem?_cons_zero, List.getElem?_cons_succ] at g0 g1 g2
  go_wp2_with fail
  refine (ZU.out _ b HB).mono ?_; clear HB g0 g1 g2; rintro e wx ⟨rfl, HB⟩
  have g0 := blk_cell (o := 0) HB.at_
  have g1 := blk_cell (o := 1) HB.at_
  have g2 := blk_cell (o := 2) HB.at_
  simp only [List.getElem?_toArray, List.getElem?_cons_zero, List.getElem?_cons_succ] at g0 g1 g2
  go_wp2_with fail
  refine (ZS.out _ b HB).mono ?_; clear HB g0 g1 g2; rintro e wx ⟨rfl, HB⟩
  have g0 := blk_cell (o := 0) HB.at_
  have g1 := blk_cell (o := 1) HB.at_
  have g2 := blk_cell (o := 2) HB.at_
  simp only [List.getElem?_toArray, List.getElem?_cons_zero, List.getElem?_cons_succ] at g0 g1 g2
  go_wp2_with fail
  refine (ZL.out _ b HB).mono ?_; clear HB g0 g1 g2; rintro e wx ⟨rfl, HB⟩
  have g0 := blk_cell (o := 0) HB.at_
  have g1 := blk_cell (o := 1) HB.at_
  have g2 := blk_cell (o := 2) HB.at_
  simp only [List.getElem?_toArray, List.getElem?_cons_zero, List.getElem?_cons_succ] at g0 g1 g2
  go_wp2_with fail
  refine (ZO.out _ b HB).mono ?_; clear HB g0 g1 g2; rintro e wx ⟨p, c, rfl, HB⟩
  have g0 := blk_cell (o := 0) HB.at_
  have g1 := blk_cell (o := 1) HB.at_
  have g2 := blk_cell (o := 2) HB.at_
  simp only [List.getElem?_toArray, List.getElem?_cons_zero, List.getElem?_cons_succ] at g0 g1 g2
  go_wp2_with fail
  refine (ZC.out _ b HB).mono ?_; clear HB g0 g1 g2; rintro e wx ⟨rfl, HB⟩
  have g0 := blk_cell (o := 0) HB.at_
  have g1 := blk_cell (o := 1) HB.at_
  have g2 := blk_cell (o := 2) HB.at_
  simp only [List.getElem?_toArray, List.getElem?_cons_zero, List.getElem?_cons_succ] at g0 g1 g2
  go_wp2_with fail
  go_ret
  exact ⟨rfl, HB.low⟩
end
end Go.Proofs.Ytlfbenlojiiknaa
