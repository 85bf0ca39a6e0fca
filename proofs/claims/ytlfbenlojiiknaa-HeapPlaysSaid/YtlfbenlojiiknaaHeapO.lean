/- Layer 13 (heap): the law's own helper: are two rows the same. -/
import Derived.Test.YtlfbenlojiiknaaHeapL
set_option maxRecDepth 100000
namespace Go.Proofs.Ytlfbenlojiiknaa
open Go.ChangeShapes Go.WideShapes Go.ChangeAt Go.RowKit HeapM

section
attribute [local go_sem ↓] neqI_eq
set_option maxHeartbeats 2000000 in
theorem lsame13_any (w : World) (p : Option Addr) (n c : Nat) (l : List It) (p2 : Option Addr) (n2 c2 : Nat) (m : List It) (h : HoldsI w p n c l) (h2 : HoldsI w p2 n2 c2 m) :
    Calls Try.prog 25 #[.slice p n c, .slice p2 n2 c2] w fun e w' => e = .returned (.bool (decide (l = m))) ∧ Below w.heap.size w w' := by
  have F : Hid (∀ z w', decide (l = m) = z → Below w.heap.size w w' → (Ending.returned (.bool z) = .returned (.bool (decide (l = m))) ∧ Below w.heap.size w w')) := fun z w' e b => ⟨by rw [e], b⟩
  have LN := Lib.hid h.len
  have LM := Lib.hid h2.len
  have n1b : (n : Int) ≤ 9223372036854775807 := by have := h.cap; have := h.max; unfold maxLen at this; omega
  have n2b : (n2 : Int) ≤ 9223372036854775807 := by have := h2.cap; have := h2.max; unfold maxLen at this; omega
  have H1 := Lib.hid h
  have H2 := Lib.hid h2
  clear h h2
  by_cases e : n = n2
  · subst e
    have e1 : ((n : Int) == (n : Int)) = true := by simp
    have e2 : ((n : Int) != (n : Int)) = false := by simp
    have I0 : Hid (Below w.heap.size w w) := Below.refl _ _
    go_enter Try.func25, Try.ntmps25
    go_wp2
    go_loopw [13] (fun i wr => ∃ q : Nat, i = .int .i64 (q : Nat) ∧ Hid (q ≤ n ∧ ∀ j, j < q → gt l j = gt m j) ∧ Hid (Below w.heap.size w wr)) (fun i _ => 9223372036854775807 - (intOf i).toNat)
    case atStart => exact ⟨0, rfl, ⟨Nat.zero_le _, fun j hj => absurd hj (Nat.not_lt_zero _)⟩, I0.out⟩
    case round =>
      obtain ⟨q, rfl, B, L⟩ := hrel
      have q0 : (0 : Int) ≤ (q : Int) := by omega
      have qn : (q : Int) ≤ (n : Int) := by have := B.out.1; omega
      by_cases stop : n ≤ q
      · have d1 : decide ((q : Int) < (n : Int)) = false := decide_eq_false (by omega)
        have d2 : (n : Int) ≤ (q : Int) := by omega
        have FF := Lib.hid (F.out true wr (decide_eq_true (its_eq LN.out LM.out (fun j hj => B.out.2 j (by omega)))) L.out)
        clear F stop B H1 H2 L I0
        go_wp2
        go_ret
        exact FF.out
      · have h' : (q : Int) < (n : Int) := by omega
        have ql : q < n := by omega
        obtain ⟨a1, rfl, k1, k2, k3⟩ := (H1.out.below L.out).at ql
        obtain ⟨a2, rfl, j1, j2, j3⟩ := (H2.out.below L.out).at ql
        obtain ⟨x, hx⟩ : ∃ x, gt l q = x := ⟨_, rfl⟩
        obtain ⟨y, hy⟩ : ∃ y, gt m q = y := ⟨_, rfl⟩
        have XY : Hid (gt l q = x ∧ gt m q = y) := ⟨hx, hy⟩
        rw [hx] at k1 k2 k3
        rw [hy] at j1 j2 j3
        have L2 : Hid (Below w.heap.size w wr.drew) := L.out.drew
        by_cases g : x = y
        · have NE := fun W => neq_it W x y true (decide_eq_true g)
          have B2 : Hid (q + 1 ≤ n ∧ ∀ j, j < q + 1 → gt l j = gt m j) := ⟨ql, fun j hj => by
            by_cases c : j = q
            · rw [c, XY.out.1, XY.out.2]; exact g
            · exact B.out.2 j (by omega)⟩
          clear g hx hy
          obtain ⟨xi, xs, xt⟩ := x
          obtain ⟨yi, ys, yt⟩ := y
          dsimp only at k1 k2 k3 j1 j2 j3 NE
          clear stop B H1 H2 F ql XY L I0
          go_wp2_with fail
          go_region
          go_wp2
          go_roundw
          case rel => exact ⟨q + 1, by go_num, B2, L2⟩
          case measure => simp [intOf]; omega
        · have NE := fun W => neq_it W x y false (decide_eq_false g)
          have FF := Lib.hid (F.out false wr.drew (decide_eq_false (fun z => g (by rw [← XY.out.1, ← XY.out.2, z]))) L2.out)
          clear g hx hy
          obtain ⟨xi, xs, xt⟩ := x
          obtain ⟨yi, ys, yt⟩ := y
          dsimp only at k1 k2 k3 j1 j2 j3 NE
          clear stop B H1 H2 F ql XY L I0
          go_wp2_with fail
          go_region
          go_wp2
          go_ret
          exact FF.out
  · have e1 : ((n : Int) == (n2 : Int)) = false := by rw [beq_eq_false_iff_ne]; omega
    have e2 : ((n : Int) != (n2 : Int)) = true := by rw [bne, e1]; rfl
    have FF := Lib.hid (F.out false w (decide_eq_false (fun z => e (by rw [← LN.out, z, LM.out]))) (Below.refl _ _))
    clear F e H1 H2
    go_enter Try.func25, Try.ntmps25
    go_wp2
    go_ret
    exact FF.out
end
end Go.Proofs.Ytlfbenlojiiknaa
