/- Contracts of the document's own answers for layer 1: Add, Sub, AddSat, SubSat, Abs. -/
import Derived.Test.YtokhlagcflkocaaBigF
namespace Go.Proofs.Ytokhlagcflkocaa
open Go.ChangeShapes Go.WideShapes Go.ChangeAt Go.RowKit BigM

theorem sg_of (a : Int) : sg (decide (a < 0)) a.natAbs = a := by
  by_cases h : a < 0 <;> simp [sg, h] <;> omega

/-- What a sum of two int64s tells. -/
theorem sum_of (a b : Int) : sg (sumM (decide (a < 0)) a.natAbs (decide (b < 0)) b.natAbs && decide (sumN (decide (a < 0)) a.natAbs (decide (b < 0)) b.natAbs ≠ 0)) (sumN (decide (a < 0)) a.natAbs (decide (b < 0)) b.natAbs) = a + b := by
  rw [sum_sg, sg_of, sg_of]

theorem dif_of (a b : Int) : sg (sumM (decide (a < 0)) a.natAbs (!(decide (b < 0)) && decide (b.natAbs ≠ 0)) b.natAbs && decide (sumN (decide (a < 0)) a.natAbs (!(decide (b < 0)) && decide (b.natAbs ≠ 0)) b.natAbs ≠ 0)) (sumN (decide (a < 0)) a.natAbs (!(decide (b < 0)) && decide (b.natAbs ≠ 0)) b.natAbs) = a - b := by
  rw [sum_sg, sg_of]
  have : sg (!(decide (b < 0)) && decide (b.natAbs ≠ 0)) b.natAbs = -b := by
    by_cases h : b < 0 <;> by_cases g : b = 0 <;> simp [sg, h, g] <;> omega
  rw [this]
  omega

theorem radd_any (a b : Int) (ha : I64 a) (hb : I64 b) (w : World) :
    Calls Try.prog 28 #[.int .i64 a, .int .i64 b] w (TwoPost w (outN (a + b)) (outE (a + b))) := by
  rw [← sum_of a b]
  generalize hma : decide (a < 0) = ma
  generalize hmb : decide (b < 0) = mb
  have OA := Lib.hid (fun w => of_any w a ha)
  have OB := Lib.hid (fun w => of_any w b hb)
  rw [hma] at OA
  rw [hmb] at OB
  generalize a.natAbs = na at *
  generalize b.natAbs = nb at *
  obtain ⟨sm, hsm⟩ : ∃ s, s = (sumM ma na mb nb && decide (sumN ma na mb nb ≠ 0)) := ⟨_, rfl⟩
  obtain ⟨sn, hsn⟩ : ∃ s, s = sumN ma na mb nb := ⟨_, rfl⟩
  rw [← hsm, ← hsn]
  have HM := Lib.hid hsm
  have HN := Lib.hid hsn
  clear hma hmb hsm hsn
  go_enter Try.func28, Try.ntmps28
  go_wp2_with fail
  refine (OA.out _).mono ?_; rintro e w1 ⟨x, rfl, hx, b1⟩
  go_wp2_with fail
  refine (OB.out _).mono ?_; rintro e w2 ⟨y, rfl, hy, b2⟩
  go_wp2_with fail
  refine (Plus_any w2 x y ma mb na nb 4 4 (hx.below b2) hy (by omega) (by omega)).mono ?_; rintro e w3 ⟨z, rfl, hz, b3⟩
  rw [← HM.out, ← HN.out] at hz
  go_wp2_with fail
  refine (told_any w3 z sm sn _ hz.raw (by omega)).mono ?_; rintro e w4 ⟨rfl, b4⟩
  have hb' : Below w.heap.size w w4 := ((b1.trans (b2.mono b1.size)).trans (b3.mono (Nat.le_trans b1.size b2.size))).trans (b4.mono (Nat.le_trans (Nat.le_trans b1.size b2.size) b3.size))
  have FIN : Hid (TwoPost w (outN (sg sm sn)) (outE (sg sm sn)) (.returned (.tuple #[.int .i64 (outN (sg sm sn)), .int .i64 (outE (sg sm sn))])) w4) := ⟨rfl, hb'⟩
  clear hb' b1 b2 b3 b4 hx hy hz
  go_wp2
  go_ret2
  exact FIN.out
end Go.Proofs.Ytokhlagcflkocaa

