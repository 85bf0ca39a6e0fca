/- Layer 12 (wall): what is slewed by a rate, in plain numbers. No Go in sight. -/
import Derived.Test.YtokhlagcflkocaaWallR
namespace Go.Proofs.Ytokhlagcflkocaa.WallM

/-- What is slewed by the rate that an amount has in a stretch, beside the amount. -/
theorem slew_alt (a n r d f : Int) (n0 : 0 < n) (n1 : n ≤ 4611686018427387904) (hr : rateN a n = r) (hd : slewN r n = d) (hf : n / 1000000000 + 1 = f) :
    (0 < a ∧ 0 < r ∧ r < 500000 ∧ a ≤ d ∧ d - a ≤ f) ∨ (0 < a ∧ r = 500000) ∨ (a < 0 ∧ -500000 < r ∧ r < 0 ∧ d ≤ a ∧ a - d ≤ f) ∨ (a < 0 ∧ r = -500000) ∨ (a = 0 ∧ r = 0 ∧ d = 0) := by
  have i := inst_of (Int.le_of_lt n0) n1
  unfold rateN at hr
  unfold slewN at hd
  rw [i] at hr hd
  rw [if_neg (by omega)] at hr
  unfold rateQ at hr
  rcases Int.lt_trichotomy a 0 with h | h | h
  · rw [if_neg (by omega)] at hr
    have q1 := Int.ediv_neg_of_neg_of_pos (show a * 1000000000 < 0 by omega) n0
    have q2 := Int.ediv_mul_le (a * 1000000000) (Int.ne_of_gt n0)
    have q3 := Int.lt_ediv_add_one_mul_self (a * 1000000000) n0
    rw [Int.add_mul, Int.one_mul] at q3
    generalize a * 1000000000 / n = q at *
    by_cases g : q ≤ -500000
    · rw [bnd_lo g] at hr
      exact .inr (.inr (.inr (.inl ⟨h, hr.symm⟩)))
    · have e : bnd q = q := cl_mid (by omega) (by omega)
      rw [e] at hr
      subst hr
      rw [e, Int.mul_comm] at hd
      generalize q * n = p at *
      exact .inr (.inr (.inl ⟨h, by omega, by omega, by omega, by omega⟩))
  · subst h
    rw [if_neg (by decide), Int.zero_mul, Int.zero_ediv] at hr
    rw [show bnd 0 = 0 by decide] at hr
    subst hr
    rw [show bnd 0 = 0 by decide, Int.mul_zero] at hd
    exact .inr (.inr (.inr (.inr ⟨rfl, rfl, by rw [← hd]; decide⟩)))
  · rw [if_pos h] at hr
    have q1 := Int.ediv_neg_of_neg_of_pos (show -(a * 1000000000) < 0 by omega) n0
    have q2 := Int.ediv_mul_le (-(a * 1000000000)) (Int.ne_of_gt n0)
    have q3 := Int.lt_ediv_add_one_mul_self (-(a * 1000000000)) n0
    rw [Int.add_mul, Int.one_mul] at q3
    obtain ⟨q, hq⟩ : ∃ q, -((-(a * 1000000000)) / n) = q := ⟨_, rfl⟩
    rw [show (-(a * 1000000000)) / n = -q by omega, Int.neg_mul] at q2 q3
    rw [hq] at hr
    have q4 : 0 < q := by omega
    clear q1 hq
    by_cases g : 500000 ≤ q
    · rw [bnd_hi g] at hr
      exact .inr (.inl ⟨h, hr.symm⟩)
    · have e : bnd q = q := cl_mid (by omega) (by omega)
      rw [e] at hr
      subst hr
      rw [e, Int.mul_comm] at hd
      generalize q * n = p at *
      exact .inl ⟨h, by omega, by omega, by omega, by omega⟩

/-- What is slewed in two stretches, and in both at once. -/
theorem slew_two (r n m : Int) (n0 : 0 ≤ n) (m0 : 0 ≤ m) (h : n + m ≤ 4611686018427387904) : slewN r (n + m) = slewN r n + slewN r m ∨ slewN r (n + m) = slewN r n + slewN r m + 1 := by
  unfold slewN
  rw [inst_of n0 (by omega), inst_of m0 (by omega), inst_of (by omega) h, Int.add_mul]
  generalize n * bnd r = p
  generalize m * bnd r = q
  omega
theorem slew_zero (n : Int) : slewN 0 n = 0 ∧ slewN n 0 = 0 ∧ rateN n 0 = 0 := by
  refine ⟨?_, ?_, ?_⟩
  · unfold slewN
    rw [show bnd 0 = 0 by decide, Int.mul_zero]
    decide
  · unfold slewN
    rw [show inst 0 = 0 by decide, Int.zero_mul]
    decide
  · unfold rateN
    rw [if_pos (by decide)]
end Go.Proofs.Ytokhlagcflkocaa.WallM
