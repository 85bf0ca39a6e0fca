/- Layer 14 (timers), the program's own: made, row, may, next, find. -/
import Derived.Test.YtbfmmeapjfljbaaTmA
set_option maxRecDepth 100000
namespace Go.Proofs.Ytbfmmeapjfljbaa
open Go.ChangeShapes Go.WideShapes Go.ChangeAt Go.RowKit Go.Maps HeapM

theorem map_neq (m : Nat) (w : World) : (binOp .neq 44 (.map (some m)) (.map none)).run Try.prog w = .ok (.bool true) w := by
  first
  | rfl
  | kernel_rfl
  | (simp [binOp, go_sem]; done)
section
variable {w : World} {N b : Nat} {R : Bool → Nat} {G : Bool → Nat → Prop} {L : Bool → List It} {D : DataW Unit} {ad ca : Nat}
theorem pmade14 (h : TmB w N b R G L D ad ca) : Calls Try.prog 13 #[.pointer (some ⟨N, 0, none⟩)] w fun e w' => e = .returned (.bool true) ∧ w' = w := by
  have c2 := h.c2
  have NQ := map_neq b
  clear h
  go_enter Try.func13, Try.ntmps13
  go_wp2
  go_ret
  exact ⟨rfl, rfl⟩
theorem prow14 (h : TmB w N b R G L D ad ca) (k : Bool) : Calls Try.prog 15 #[.pointer (some ⟨N, 0, none⟩), .bool k] w fun e w' => e = .returned (.pointer (some ⟨R k, 0, none⟩)) ∧ w' = w := by
  have c0 := h.c0
  have c1 := h.c1
  clear h
  cases k
  · go_enter Try.func15, Try.ntmps15
    go_wp2
    go_ret
    exact ⟨rfl, rfl⟩
  · go_enter Try.func15, Try.ntmps15
    go_wp2
    go_ret
    exact ⟨rfl, rfl⟩
end

theorem idx_0 (a b : Int) (w : World) : (Instr.index 56 (.agg #[.int .i64 a, .int .i64 b]) (.int .i64 0)).run Try.prog w = .ok (.int .i64 a) w := by rfl
theorem idx_1 (a b : Int) (w : World) : (Instr.index 56 (.agg #[.int .i64 a, .int .i64 b]) (.int .i64 1)).run Try.prog w = .ok (.int .i64 b) w := by rfl
set_option maxHeartbeats 2000000 in
theorem pmay14 (w : World) (k : Bool) (a e : Int) (a0 : 0 ≤ a) (a1 : a ≤ 4611686018427387904) (e0 : 0 ≤ e) (e1 : e ≤ 4611686018427387904) :
    Calls Try.prog 14 #[.agg #[.bool k, .int .i64 a, .int .i64 e]] w fun r w' => r = .returned (.bool true) ∧ Below w.heap.size w w' := by
  have B := Lib.hid ((Below.refl w.heap.size w).alloc (Nat.le_refl _) (.cells #[.bool k, .int .i64 a, .int .i64 e] 25))
  have I0 := idx_0 a e
  have I1 := idx_1 a e
  have s1 : decide (a < 0) = false := decide_eq_false (by omega)
  have s2 : decide (4611686018427387904 < a) = false := decide_eq_false (by omega)
  have s3 : decide (e < 0) = false := decide_eq_false (by omega)
  have s4 : decide (4611686018427387904 < e) = false := decide_eq_false (by omega)
  go_enter Try.func14, Try.ntmps14
  go_wp2_with fail
  go_loop [10] (fun i => (i = .int .i64 0) ∨ (i = .int .i64 1) ∨ (i = .int .i64 2)) (fun i => 10 - (intOf i).toNat)
  case atStart => exact .inl rfl
  case round =>
    rcases hrel with rfl | rfl | rfl
    · go_wp2
      go_round
      case rel => exact .inr (.inl rfl)
      case measure => decide
    · go_wp2
      go_round
      case rel => exact .inr (.inr rfl)
      case measure => decide
    · go_wp2
      go_ret
      exact ⟨rfl, B.out⟩
end Go.Proofs.Ytbfmmeapjfljbaa
