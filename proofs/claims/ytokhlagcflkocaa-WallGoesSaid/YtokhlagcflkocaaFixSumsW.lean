/- The walk of FixSums: sums, differences, products are the document's. -/
import Derived.Test.YtokhlagcflkocaaBigH
import Derived.Test.YtokhlagcflkocaaFixS
namespace Go.Proofs.Ytokhlagcflkocaa
open Go.ChangeShapes Go.WideShapes Go.ChangeAt Go.RowKit BigM

theorem prod_of (a b : Int) : sg ((!(decide (a < 0) == decide (b < 0))) && decide (a.natAbs * b.natAbs ≠ 0)) (a.natAbs * b.natAbs) = a * b := by
  have e := mul_signs a b _ _ _ rfl rfl rfl
  rw [e]
  generalize (!(decide (a < 0) == decide (b < 0))) = s
  generalize a.natAbs * b.natAbs = t
  by_cases h : t = 0
  · subst h; cases s <;> rfl
  · cases s <;> simp [sg, h]

theorem add_all (a b : Int) (ha : I64 a) (hb : I64 b) (w : World) :
    Calls Try.prog 40 #[.int .i64 a, .int .i64 b] w fun e w' => e = .returned (.tuple #[.int .i64 (outN (a + b)), .int .i64 (outE (a + b))]) ∧ w = w' := by
  by_cases h : I64 (a + b)
  · rw [outN_ok h, outE_ok h]; exact add_ok a b ha hb h w
  · rw [outN_no h, outE_no h]; exact add_no a b ha hb h w
theorem sub_all (a b : Int) (ha : I64 a) (hb : I64 b) (w : World) :
    Calls Try.prog 45 #[.int .i64 a, .int .i64 b] w fun e w' => e = .returned (.tuple #[.int .i64 (outN (a - b)), .int .i64 (outE (a - b))]) ∧ w = w' := by
  by_cases h : I64 (a - b)
  · rw [outN_ok h, outE_ok h]; exact sub_ok a b ha hb h w
  · rw [outN_no h, outE_no h]; exact sub_no a b ha hb h w
theorem addsat_all (a b : Int) (ha : I64 a) (hb : I64 b) (w : World) :
    Calls Try.prog 26 #[.int .i64 a, .int .i64 b] w fun e w' => e = .returned (.int .i64 (nearN (a + b))) ∧ w = w' := by
  unfold nearN
  split
  · exact addsat_lo a b ha hb ‹_› w
  · split
    · exact addsat_hi a b ha hb ‹_› w
    · exact addsat_ok a b ha hb ⟨by omega, by omega⟩ w
theorem subsat_all (a b : Int) (ha : I64 a) (hb : I64 b) (w : World) :
    Calls Try.prog 30 #[.int .i64 a, .int .i64 b] w fun e w' => e = .returned (.int .i64 (nearN (a - b))) ∧ w = w' := by
  unfold nearN
  split
  · exact subsat_lo a b ha hb ‹_› w
  · split
    · exact subsat_hi a b ha hb ‹_› w
    · exact subsat_ok a b ha hb ⟨by omega, by omega⟩ w

theorem outE_range (t : Int) : 0 ≤ outE t ∧ outE t ≤ 20 := by unfold outE; split <;> omega

end Go.Proofs.Ytokhlagcflkocaa

