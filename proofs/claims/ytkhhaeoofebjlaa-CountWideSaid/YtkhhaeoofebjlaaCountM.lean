/- Layer 9 (count), of numbers: the way from a reading to another one, round a power of two. -/
import Derived.Test.YtkhhaeoofebjlaaBase
import Derived.Laws.BitsAllLaws
import Derived.Laws.ShiftsVarLaws
set_option maxRecDepth 100000
namespace Go.Proofs.Ytkhhaeoofebjlaa
open Go.ChangeShapes Go.WideShapes Go.ChangeAt Go.RowKit

theorem pow_le64 {k : Nat} (h : k ≤ 64) : 2 ^ k ≤ 18446744073709551616 := by
  rw [show (18446744073709551616 : Nat) = 2 ^ 64 by decide]
  exact Nat.pow_le_pow_right (by omega) h
theorem pow_dvd64 {k : Nat} (h : k ≤ 64) : 2 ^ k ∣ 18446744073709551616 := by
  rw [show (18446744073709551616 : Nat) = 2 ^ 64 by decide]
  exact Nat.pow_dvd_pow 2 h
theorem pow_ge8 {k : Nat} (h : 8 ≤ k) : 256 ≤ 2 ^ k := by
  rw [show (256 : Nat) = 2 ^ 8 by decide]
  exact Nat.pow_le_pow_right (by omega) h

/-- A mask of so many low bits. -/
theorem and_round {x k mk : Nat} (hx : x < 18446744073709551616) (hk : k ≤ 64) (hm : mk + 1 = 2 ^ k) : bits .and .u64 (x : Int) (mk : Int) = ((x % 2 ^ k : Nat) : Int) := by
  have p := pow_le64 hk
  have h := u64_and_nat x mk hx (by omega)
  rw [show mk = 2 ^ k - 1 by omega, Nat.and_two_pow_sub_one_eq_mod x k, ← show mk = 2 ^ k - 1 by omega] at h
  exact h
/-- All bits, moved so far that so many are left. -/
theorem div_round {j k mk : Nat} (hj : j + k = 64) (hm : mk + 1 = 2 ^ k) : (18446744073709551615 : Int) / 2 ^ j = (mk : Int) := by
  have e : (18446744073709551615 : Nat) / 2 ^ j = mk := by
    have p : 2 ^ j * 2 ^ k = 18446744073709551616 := by rw [← Nat.pow_add, hj]
    have q := Nat.two_pow_pos j
    rw [Nat.div_eq_of_lt_le]
    · rw [← hm, Nat.mul_add, Nat.mul_one, Nat.mul_comm] at p
      omega
    · rw [Nat.mul_comm, hm, p]
      omega
  rw [← e]
  simp
theorem shr_round {j k mk : Nat} (hj : j + k = 64) (hm : mk + 1 = 2 ^ k) : Op.shift .shr .u64 18446744073709551615 .i64 (j : Int) = pure (.int .u64 (mk : Int)) := by
  rw [shift_shr_any _ _ _ _ (by omega)]
  congr 2
  rw [show min ((j : Int)).toNat IntKind.u64.bits = j by simp [IntKind.bits]; omega]
  exact div_round hj hm
/-- Whether anything is left of a number. -/
theorem shr_left {x k : Nat} (hk : k ≤ 64) : Op.shift .shr .u64 (x : Int) .i64 (k : Int) = pure (.int .u64 ((x / 2 ^ k : Nat) : Int)) := by
  rw [shift_shr_any _ _ _ _ (by omega)]
  congr 2
  rw [show min ((k : Int)).toNat IntKind.u64.bits = k by simp [IntKind.bits]; omega]
  simp

/-- What the way is, as the program reckons it. -/
theorem way_round {l x y k : Nat} (hk : k ≤ 64) (hl : l < 2 ^ k) (hy : y < 2 ^ k) (e : x = (l + y) % 2 ^ k) :
    ∃ z : Nat, z < 18446744073709551616 ∧ IntKind.u64.wrap ((x : Int) - (l : Int)) = (z : Int) ∧ z % 2 ^ k = y := by
  have p := pow_le64 hk
  have d := pow_dvd64 hk
  have xl : x < 2 ^ k := by rw [e]; exact Nat.mod_lt _ (Nat.two_pow_pos k)
  refine ⟨(x + 18446744073709551616 - l) % 18446744073709551616, Nat.mod_lt _ (by decide), by rw [IntKind.wrap_u64]; omega, ?_⟩
  rw [Nat.mod_mod_of_dvd _ d]
  generalize 2 ^ k = M at *
  obtain ⟨q, hq⟩ := d
  have e2 : x = l + y ∨ x + M = l + y := by
    by_cases h : l + y < M
    · rw [Nat.mod_eq_of_lt h] at e; exact .inl e
    · rw [Nat.mod_eq_sub_mod (by omega), Nat.mod_eq_of_lt (by omega)] at e
      exact .inr (by omega)
  rcases e2 with e2 | e2
  · rw [show x + 18446744073709551616 - l = y + M * q by rw [hq]; omega, Nat.add_mul_mod_self_left, Nat.mod_eq_of_lt hy]
  · obtain ⟨r, rfl⟩ : ∃ r, q = r + 1 := ⟨q - 1, by cases q with | zero => omega | succ n => simp⟩
    rw [show x + 18446744073709551616 - l = y + M * r by rw [hq, Nat.mul_add, Nat.mul_one]; omega, Nat.add_mul_mod_self_left, Nat.mod_eq_of_lt hy]
end Go.Proofs.Ytkhhaeoofebjlaa
