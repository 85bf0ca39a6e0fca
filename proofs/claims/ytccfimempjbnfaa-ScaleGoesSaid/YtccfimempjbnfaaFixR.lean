/- Contracts of package fix (layer 1): quotients, whatever comes; MulDiv, MulDivUp, Mul. -/
import Derived.Test.YtccfimempjbnfaaFixQ
namespace Go.Proofs.Ytccfimempjbnfaa
open Go.ChangeShapes Go.WideShapes Go.ChangeAt Go.RowKit

/-- t / c, down or up. -/
def quoI (t c : Int) (up : Bool) : Int := if up then -((-t) / c) else t / c
/-- An int64, or 0. -/
def outN (q : Int) : Int := if -9223372036854775808 ≤ q ∧ q ≤ 9223372036854775807 then q else 0
/-- What is said of it: nothing, or ErrRange. -/
def outE (q : Int) : Int := if -9223372036854775808 ≤ q ∧ q ≤ 9223372036854775807 then 0 else 20

theorem outN_ok {q : Int} (h : I64 q) : outN q = q := by unfold outN; exact if_pos h
theorem outE_ok {q : Int} (h : I64 q) : outE q = 0 := by unfold outE; exact if_pos h
theorem outN_no {q : Int} (h : ¬ I64 q) : outN q = 0 := by unfold outN; exact if_neg h
theorem outE_no {q : Int} (h : ¬ I64 q) : outE q = 20 := by unfold outE; exact if_neg h

theorem neg_div (P c q r : Nat) (hc : 0 < c) (hq : P / c = q) (hr : P % c = r) : (-(P : Int)) / (c : Int) = if r = 0 then -(q : Int) else -((q : Int) + 1) := by
  have m := Nat.div_add_mod P c
  have l := Nat.mod_lt P hc
  rw [hq, hr] at m
  rw [hr] at l
  have m' : (c : Int) * (q : Int) + (r : Int) = (P : Int) := by rw [← Int.natCast_mul]; omega
  by_cases h : r = 0
  · rw [if_pos h]
    refine ((Int.ediv_emod_unique (r := 0) (by omega)).2 ⟨?_, by omega, by omega⟩).1
    rw [Int.mul_neg]; omega
  · rw [if_neg h]
    refine ((Int.ediv_emod_unique (r := (c : Int) - r) (by omega)).2 ⟨?_, by omega, by omega⟩).1
    rw [Int.mul_neg, Int.mul_add, Int.mul_one]; omega

/-- A product by its signs and its size. -/
theorem mul_signs (a b : Int) (x y neg : Bool) (hx : decide (a < 0) = x) (hy : decide (b < 0) = y) (hn : (!(x == y)) = neg) : a * b = if neg then -((a.natAbs * b.natAbs : Nat) : Int) else ((a.natAbs * b.natAbs : Nat) : Int) := by
  have e : (a * b).natAbs = a.natAbs * b.natAbs := Int.natAbs_mul a b
  rw [← e]
  subst hx hy hn
  by_cases ca : a < 0 <;> by_cases cb : b < 0
  · have := Int.mul_nonneg_of_nonpos_of_nonpos (show a ≤ 0 by omega) (show b ≤ 0 by omega)
    simp [ca, cb]; omega
  · have := Int.mul_nonpos_of_nonpos_of_nonneg (show a ≤ 0 by omega) (show 0 ≤ b by omega)
    simp [ca, cb]; omega
  · have := Int.mul_nonpos_of_nonneg_of_nonpos (show 0 ≤ a by omega) (show b ≤ 0 by omega)
    simp [ca, cb]; omega
  · have := Int.mul_nonneg (show 0 ≤ a by omega) (show 0 ≤ b by omega)
    simp [ca, cb]; omega

/-- What the closure brings back is the quotient, or nothing. -/
theorem back_quo (P c q r m : Nat) (up neg away : Bool) (hc : 0 < c) (hq : P / c = q) (hr : P % c = r) (hw : (!(up == neg)) = away)
    (cs : (0 < r ∧ away = true ∧ q ≤ 9223372036854775808 ∧ m = q + 1) ∨ (r = 0 ∧ m = q) ∨ (0 < r ∧ away = false ∧ m = q) ∨ (0 < r ∧ away = true ∧ 9223372036854775808 < q ∧ m = q)) :
    backN neg m = outN (quoI (if neg then -(P : Int) else (P : Int)) c up) ∧ backE neg m = outE (quoI (if neg then -(P : Int) else (P : Int)) c up) := by
  have d := neg_div P c q r hc hq hr
  have d' : (P : Int) / (c : Int) = (q : Int) := by rw [← hq]; simp
  cases neg <;> cases up <;> simp [quoI, d, d', backN, backE, outN, outE] <;> simp at hw <;> subst hw <;> simp at cs
  · omega
  all_goals (constructor <;> (repeat' split) <;> omega)

theorem size_div (P h l : Nat) (eh : P / 18446744073709551616 = h) (el : P % 18446744073709551616 = l) : h * 18446744073709551616 + l = P := by
  have := Nat.div_add_mod P 18446744073709551616
  omega

/-- A quotient whose size alone is out of range. -/
theorem big_quo (P c : Nat) (up neg : Bool) (hc : 0 < c) (hb : 18446744073709551616 ≤ P / c) : ¬ I64 (quoI (if neg then -(P : Int) else (P : Int)) c up) := by
  have d := neg_div P c _ _ hc rfl rfl
  have d' : (P : Int) / (c : Int) = ((P / c : Nat) : Int) := by simp
  generalize P / c = q at *
  generalize P % c = r at *
  cases neg <;> cases up <;> simp [quoI, d, d', I64]
  · omega
  all_goals (first | omega | (split <;> omega))

end Go.Proofs.Ytccfimempjbnfaa

