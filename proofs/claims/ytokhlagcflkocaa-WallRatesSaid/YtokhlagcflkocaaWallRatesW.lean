/- WallRates: the walk. -/
import Derived.Test.YtokhlagcflkocaaWallG
set_option maxRecDepth 100000
namespace Go.Proofs.Ytokhlagcflkocaa
open Go.ChangeShapes Go.WideShapes Go.ChangeAt Go.RowKit WallM BigM

set_option maxHeartbeats 1000000 in
theorem rates12_walk (w : World) (a n r : Int) (ha : I64 a) (hn : I64 n) (hr : I64 r) :
    Calls Try.prog 4 #[.int .i64 a, .int .i64 n, .int .i64 r] w fun e w' => e = .returned (.bool true) ∧ Below w.heap.size w w' := by
  have A := Lib.hid (fun w => prate12_any w a n)
  have B := Lib.hid (fun w => rrate12_any w a n ha hn)
  have C := Lib.hid (fun w => pslewed12_any w r n)
  have D := Lib.hid (fun w => rslewed12_any w r n hr hn)
  have AL := Lib.hid alive12_any
  generalize rateN a n = x at *
  generalize slewN r n = y at *
  have e1 : (x == x) = true := by simp
  have e2 : (y == y) = true := by simp
  clear ha hn hr
  go_enter Try.func4, Try.ntmps4
  go_wp2_with fail
  refine (A.out _).mono ?_; rintro e w1 ⟨rfl, l⟩
  have L1 := Lib.hid l
  clear l
  go_wp2_with fail
  refine (B.out _).mono ?_; rintro e w2 ⟨rfl, l⟩
  have L2 := Lib.hid (L1.out.trans (l.mono L1.out.size))
  clear l
  go_wp2_with fail
  refine (C.out _).mono ?_; rintro e w3 ⟨rfl, l⟩
  have L3 := Lib.hid (L2.out.trans (l.mono L2.out.size))
  clear l
  go_wp2_with fail
  refine (D.out _).mono ?_; rintro e w4 ⟨rfl, l⟩
  have L4 := Lib.hid (L3.out.trans (l.mono L3.out.size))
  clear l
  go_wp2_with fail
  refine (AL.out _).mono ?_; rintro e w5 ⟨rfl, l⟩
  have L5 := Lib.hid (L4.out.trans (l.mono L4.out.size))
  clear l
  go_wp2
  go_ret
  exact ⟨rfl, L5.out⟩
end Go.Proofs.Ytokhlagcflkocaa
