/- Contracts of the document's own answers for layer 1: Add, Sub, AddSat, SubSat, Abs. -/
import Derived.Test.YtogkjgglpokkaaaBigF
namespace Go.Proofs.Ytogkjgglpokkaaa
open Go.ChangeShapes Go.WideShapes Go.ChangeAt Go.RowKit BigM

theorem sg_of (a : Int) : sg (decide (a < 0)) a.natAbs = a := by
  by_cases h : a < 0 <;> simp [sg, h] <;> omega

/-- What a sum of two int64s tells. -/
theorem sum_of (a b : Int) : sg (sumM (decide (a < 0)) a.natAbs (decide (b < 0)) b.natAbs && decide (sumN (decide (a < 0)) a.natAbs (decide (b < 0)) b.natAbs ≠ 0)) (sumN (decide (a < 0)) a.natAbs (decide (b < 0)) b.natAbs) = a + b := by
  rw [sum_sg, sg_of, sg_of]

theorem dif_of (a b : Int) : sg (sumM (decide (a < 0)) a.natAbs (!(decide (b < 0)) && decide (b.natAbs ≠ 0)) b.natAbs && decide (sumN (decide (a < 0)) a.natAbs (!(decide (b < 0)) && decide (b.natAbs ≠ 0)) b.natAbs ≠ 0)) (sumN (decide (a < 0)) a.natAbs (!(decide (b < 0)) && decide (b.natAbs ≠ 0)) b.natAbs) = a - b := by
  rw [sum_sg, sg_of]
  have : sg (!(decide (b < 0)) && decide (b.natAbs ≠ 0)) b.natAbs = -b := by
    by_cases h : b < 0 <;> by_cases g : b = 0 <;> simp [sg, h, g] <;> omega
  rw [this]
  omega

end Go.Proofs.Ytogkjgglpokkaaa

