/- Layer 4 (head): whether a head may be; its fields alone; its sizes and numbers. -/
import Derived.Test.YtjjbalgonkphjaaPack
namespace Go.Proofs.Ytjjbalgonkphjaa
open Go.ChangeShapes Go.WideShapes Go.ChangeAt Go.RowKit

/-- whether it may be. -/
def mayH (h : Hd) : Prop := h.lp ≤ 3 ∧ 1 ≤ h.ve ∧ h.ve ≤ 4 ∧ h.mo ≤ 7
instance (h : Hd) : Decidable (mayH h) := by unfold mayH; exact inferInstance

theorem pmay_any (w : World) (h : Hd) (x : Xt) :
    Calls Try.prog 10 #[pkV h x] w fun e w' => e = .returned (.bool (decide (mayH h))) ∧ Out w w' := by
  obtain ⟨lp, ve, mo, st, po, pr, de, di, ri, rf, og, rc, xm⟩ := h
  obtain ⟨p, n, c, sg, ky, tg⟩ := x
  unfold pkV pkC
  simp only
  go_enter Try.func10, Try.ntmps10
  go_wp2
  all_goals
    go_ret
    refine ⟨ret_bool ?_, (Out.refl w).alloc _ _⟩
    rw [Bool.eq_iff_iff]
    simp only [decide_eq_true_eq, Bool.false_eq_true, false_iff]
    unfold mayH
    simp only
    omega

theorem rmay_any (w : World) (h : Hd) (x : Xt) :
    Calls Try.prog 11 #[pkV h x] w fun e w' => e = .returned (.bool (decide (mayH h))) ∧ Out w w' := by
  obtain ⟨lp, ve, mo, st, po, pr, de, di, ri, rf, og, rc, xm⟩ := h
  obtain ⟨p, n, c, sg, ky, tg⟩ := x
  unfold pkV pkC
  simp only
  go_enter Try.func11, Try.ntmps11
  go_wp2
  all_goals
    go_ret
    refine ⟨ret_bool ?_, (Out.refl w).alloc _ _⟩
    rw [Bool.eq_iff_iff]
    simp only [decide_eq_true_eq, Bool.false_eq_true, false_iff]
    unfold mayH
    simp only
    omega

/-- A head's fields alone, as the program compares them. -/
def flC (h : Hd) : Array Value := #[.int .u8 (h.lp : Nat), .int .u8 (h.ve : Nat), .int .u8 (h.mo : Nat), .int .u8 (h.st : Nat), .int .i8 h.po, .int .i8 h.pr, .int .u32 (h.de : Nat), .int .u32 (h.di : Nat), .int .u32 (h.ri : Nat), .int .u64 (h.rf : Nat), .int .u64 (h.og : Nat), .int .u64 (h.rc : Nat), .int .u64 (h.xm : Nat)]

theorem palone_any (w : World) (h : Hd) (x : Xt) :
    Calls Try.prog 22 #[pkV h x] w fun e w' => e = .returned (.agg (flC h)) ∧ Out w w' := by
  obtain ⟨lp, ve, mo, st, po, pr, de, di, ri, rf, og, rc, xm⟩ := h
  obtain ⟨p, n, c, sg, ky, tg⟩ := x
  unfold pkV pkC flC
  simp only
  go_enter Try.func22, Try.ntmps22
  go_wp2
  (try simp only [Exit.inBlock, Exit.then])
  refine bodyPost_ret (results_cell_row rfl _ _ (w.heap.size + 1) _ _ (0, 0) _ rfl (heap_alloc2_new _ _ _) Try.underlying57 rfl (by kernel_rfl)) rfl ?_
  exact ⟨rfl, ((Out.refl w).alloc _ _).alloc _ _⟩

theorem playout_any (w : World) :
    Calls Try.prog 17 #[] w fun e w' => e = .returned (.agg #[.int .i64 1, .int .i64 1, .int .i64 1, .int .i64 1, .int .i64 4, .int .i64 4, .int .i64 4, .int .i64 8, .int .i64 8, .int .i64 8, .int .i64 8]) ∧ Out w w' := by
  go_enter Try.func17, Try.ntmps17
  go_wp2
  (try simp only [Exit.inBlock, Exit.then])
  refine bodyPost_ret (results_cell_row rfl _ _ w.heap.size _ _ (0, 0) _ rfl (heap_alloc_new _ _) Try.underlying48 rfl (by kernel_rfl)) rfl ?_
  exact ⟨rfl, (Out.refl w).alloc _ _⟩

/-- a small number with a sign as a byte. -/
def b8 (z : Int) : Nat := (z % 256).toNat
theorem b8_lt (z : Int) : b8 z < 256 := by unfold b8; omega
theorem b8_wrap (z : Int) : IntKind.u8.wrap z = (b8 z : Int) := by rw [IntKind.wrap_u8]; unfold b8; omega
def first8 (h : Hd) : Nat := h.lp * 64 + h.ve * 8 + h.mo
/-- a head's numbers, in their order. -/
def numsH (h : Hd) : List Nat := [first8 h, h.st, b8 h.po, b8 h.pr, h.de, h.di, h.ri, h.rf, h.og, h.rc, h.xm]
theorem first_bits : ∀ (l : Fin 4) (v : Fin 5) (m : Fin 8), bits .or .u8 (bits .or .u8 ((l.val : Int) * 64 % 256) ((v.val : Int) * 8 % 256)) (m.val : Int) = ((l.val * 64 + v.val * 8 + m.val : Nat) : Int) := by decide +kernel

theorem pnumbers_any (w : World) (h : Hd) (x : Xt) (hw : h.wf) (hm : mayH h) :
    Calls Try.prog 19 #[pkV h x] w fun e w' => ∃ p c, e = .returned (.slice p 11 c) ∧ Holds w' p 11 c (valsN .u64 (numsH h)) ∧ Out w w' := by
  have f8 := first_bits ⟨h.lp, by have := hm.1; omega⟩ ⟨h.ve, by have := hm.2.2.1; omega⟩ ⟨h.mo, by have := hm.2.2.2; omega⟩
  obtain ⟨f, hf⟩ : ∃ f, f = first8 h := ⟨_, rfl⟩
  have f8b : f < 256 := by rw [hf]; unfold first8; obtain ⟨_, _, _, _⟩ := hm; omega
  obtain ⟨lp, ve, mo, st, po, pr, de, di, ri, rf, og, rc, xm⟩ := h
  obtain ⟨p, n, c, sg, ky, tg⟩ := x
  obtain ⟨h1, h2, h3, h4, h5, h6, h7, h8, h9, ha, hb, hc, hd⟩ := hw
  unfold first8 at hf
  simp only at f8 hf h1 h2 h3 h4 h5 h6 h7 h8 h9 ha hb hc hd
  rw [← hf] at f8
  have e1 := b8_wrap po
  have e2 := b8_wrap pr
  have e1b := b8_lt po
  have e2b := b8_lt pr
  unfold pkV pkC
  simp only
  unfold numsH first8
  simp only
  rw [← hf]
  generalize b8 po = bo at *
  generalize b8 pr = bp at *
  have FB := Lib.hid f8b
  clear hf
  go_enter Try.func19, Try.ntmps19
  go_wp2
  go_ret
  refine ⟨_, _, rfl, ?_, ((Out.refl w).alloc _ _).alloc _ _⟩
  exact blk_holds (cs := #[.int .u64 (f : Int), .int .u64 (st : Int), .int .u64 (bo : Int), .int .u64 (bp : Int), .int .u64 (de : Int), .int .u64 (di : Int), .int .u64 (ri : Int), .int .u64 (rf : Int), .int .u64 (og : Int), .int .u64 (rc : Int), .int .u64 (xm : Int)]) (heap_alloc2_new _ _ _) rfl (by unfold maxLen; omega)
end Go.Proofs.Ytjjbalgonkphjaa
