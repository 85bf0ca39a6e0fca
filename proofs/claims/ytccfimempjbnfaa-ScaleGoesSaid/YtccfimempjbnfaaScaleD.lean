/- Layer 10 (scale): of none; what the document's examples say. -/
import Derived.Test.YtccfimempjbnfaaScaleC
set_option maxRecDepth 100000
namespace Go.Proofs.Ytccfimempjbnfaa
open Go.ChangeShapes Go.WideShapes Go.ChangeAt Go.RowKit ScaleM

/-- None: no scale, or one that New did not make. -/
theorem pto10_none (w : World) (p : Option Addr) (x : Nat) (h : p = none ∨ ∃ N, p = some ⟨N, 0, none⟩ ∧ ScZ w N) :
    Calls Try.prog 14 #[.pointer p, .int .u64 (x : Nat)] w fun r w' => r = .returned (.int .i64 0) ∧ w' = w := by
  have M : Hid (Calls Try.prog 21 #[.pointer p] w fun r w' => r = .returned (.bool false) ∧ w' = w) := by
    rcases h with rfl | ⟨N, rfl, c⟩
    · exact pmade10_none w
    · exact pmade10_zero w N c
  clear h
  go_enter Try.func14, Try.ntmps14
  go_wp2_with fail
  refine M.out.mono ?_; rintro e w1 ⟨rfl, rfl⟩
  go_wp2
  go_ret
  exact ⟨rfl, rfl⟩
theorem ptotal10_none (w : World) (p : Option Addr) (h : p = none ∨ ∃ N, p = some ⟨N, 0, none⟩ ∧ ScZ w N) :
    Calls Try.prog 16 #[.pointer p] w fun r w' => r = .returned (.int .i64 0) ∧ w' = w := by
  have M : Hid (Calls Try.prog 21 #[.pointer p] w fun r w' => r = .returned (.bool false) ∧ w' = w) := by
    rcases h with rfl | ⟨N, rfl, c⟩
    · exact pmade10_none w
    · exact pmade10_zero w N c
  clear h
  go_enter Try.func16, Try.ntmps16
  go_wp2_with fail
  refine M.out.mono ?_; rintro e w1 ⟨rfl, rfl⟩
  go_wp2
  go_ret
  exact ⟨rfl, rfl⟩
theorem pstick10_none (w : World) (p : Option Addr) (h : p = none ∨ ∃ N, p = some ⟨N, 0, none⟩ ∧ ScZ w N) :
    Calls Try.prog 19 #[.pointer p] w fun r w' => r = .returned (.int .i64 0) ∧ w' = w := by
  have M : Hid (Calls Try.prog 21 #[.pointer p] w fun r w' => r = .returned (.bool false) ∧ w' = w) := by
    rcases h with rfl | ⟨N, rfl, c⟩
    · exact pmade10_none w
    · exact pmade10_zero w N c
  clear h
  go_enter Try.func19, Try.ntmps19
  go_wp2_with fail
  refine M.out.mono ?_; rintro e w1 ⟨rfl, rfl⟩
  go_wp2
  go_ret
  exact ⟨rfl, rfl⟩
theorem pcopy10_none (w : World) (p : Option Addr) (h : p = none ∨ ∃ N, p = some ⟨N, 0, none⟩ ∧ ScZ w N) :
    Calls Try.prog 13 #[.pointer p] w fun r w' => r = .returned (.pointer none) ∧ w' = w := by
  have M : Hid (Calls Try.prog 21 #[.pointer p] w fun r w' => r = .returned (.bool false) ∧ w' = w) := by
    rcases h with rfl | ⟨N, rfl, c⟩
    · exact pmade10_none w
    · exact pmade10_zero w N c
  clear h
  go_enter Try.func13, Try.ntmps13
  go_wp2_with fail
  refine M.out.mono ?_; rintro e w1 ⟨rfl, rfl⟩
  go_wp2
  go_ret
  exact ⟨rfl, rfl⟩
theorem pfullq10_none (w : World) :
    Calls Try.prog 18 #[.pointer none] w fun r w' => r = .returned (.bool false) ∧ Below w.heap.size w w' := by
  have M := Lib.hid (fun w' => pmade10_none w')
  have L : Hid (∀ n, Below w.heap.size w (w.drewN n)) := fun n => below_drewN (Below.refl _ _) n
  go_enter Try.func18, Try.ntmps18
  go_wp2_with fail
  go_quiet ((go_at_call 21; exact Calls.quiet_of_same (M.out _)))
  go_wp2
  go_ret
  exact ⟨rfl, L.out _⟩

set_option maxHeartbeats 2000000 in
theorem alive10_any (w : World) :
    Calls Try.prog 12 #[] w fun r w' => r = .returned (.bool true) ∧ Below w.heap.size w w' := by
  have NW : Hid (∀ w, Calls Try.prog 8 #[.int .u64 3] w (NewP10 w 3 0)) := fun w => pnew10_ok w 3 (by decide) (by decide)
  have T1 : Hid (∀ w N, Sc w N 3 0 → Calls Try.prog 14 #[.pointer (some ⟨N, 0, none⟩), .int .u64 1] w (ToP10 w N 3 1 333333333)) := fun w N c => pto10_any w N 3 0 1 1 333333333 c (by decide) (by decide) (by decide) rfl (by decide)
  have T2 : Hid (∀ w N, Sc w N 3 1 → Calls Try.prog 14 #[.pointer (some ⟨N, 0, none⟩), .int .u64 1] w (ToP10 w N 3 2 333333333)) := fun w N c => pto10_any w N 3 1 1 2 333333333 c (by decide) (by decide) (by decide) rfl (by decide)
  have T3 : Hid (∀ w N, Sc w N 3 2 → Calls Try.prog 14 #[.pointer (some ⟨N, 0, none⟩), .int .u64 1] w (ToP10 w N 3 3 333333334)) := fun w N c => pto10_any w N 3 2 1 3 333333334 c (by decide) (by decide) (by decide) rfl (by decide)
  have K1 : Hid (∀ w, Calls Try.prog 10 #[.int .u64 3] w fun r w' => r = .returned (.int .i64 333333334) ∧ w' = w) := fun w => by
    have h := ptick10_any w 3
    rw [show ((tickN 3 : Nat) : Int) = 333333334 from by decide] at h
    exact h
  have K2 : Hid (∀ w, Calls Try.prog 10 #[.int .u64 1000000000000] w fun r w' => r = .returned (.int .i64 1) ∧ w' = w) := fun w => by
    have h := ptick10_any w 1000000000000
    rw [show ((tickN 1000000000000 : Nat) : Int) = 1 from by decide] at h
    exact h
  go_enter Try.func12, Try.ntmps12
  go_wp2_with fail
  refine (NW.out w).mono ?_; rintro e w1 ⟨N, rfl, c1, hN, l1⟩
  have C1 := Lib.hid c1
  have HN := Lib.hid hN
  have L1 := Lib.hid l1
  clear c1 hN l1 NW
  go_wp2_with fail
  refine (T1.out w1 N C1.out).mono ?_; rintro e w2 ⟨rfl, c2, t2⟩
  have C2 := Lib.hid c2
  have L2 := Lib.hid (t2.below L1.out HN.out)
  clear c2 t2 T1 C1 L1
  go_wp2_with fail
  refine (T2.out w2 N C2.out).mono ?_; rintro e w3 ⟨rfl, c3, t3⟩
  have C3 := Lib.hid c3
  have L3 := Lib.hid (t3.below L2.out HN.out)
  clear c3 t3 T2 C2 L2
  go_wp2_with fail
  refine (T3.out w3 N C3.out).mono ?_; rintro e w4 ⟨rfl, c4, t4⟩
  have L4 := Lib.hid (t4.below L3.out HN.out)
  clear c4 t4 T3 C3 L3
  go_wp2_with fail
  refine (K1.out w4).mono ?_; rintro e w5 ⟨rfl, rfl⟩
  go_wp2_with fail
  refine (K2.out w5).mono ?_; rintro e w6 ⟨rfl, rfl⟩
  go_wp2
  go_ret
  exact ⟨rfl, L4.out⟩
end Go.Proofs.Ytccfimempjbnfaa
