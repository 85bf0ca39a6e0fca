/- Layer 10 (scale): ticks as nanoseconds, in plain numbers: the total of so many ticks, what is left of them. No Go in sight. -/
import Derived.WalkKit
namespace Go.Proofs.Ytccfimempjbnfaa.ScaleM

/-- By letters: M at most; a tick's weight c. -/
def totG (M c h n : Nat) : Nat := min (n * c / h) M
def resG (M c h n : Nat) : Nat := if n * c / h < M then n * c % h else 0

section
variable {M c h n t q r : Nat}
theorem totG_mono {m : Nat} (g : n ≤ m) : totG M c h n ≤ totG M c h m := by
  unfold totG
  have : n * c / h ≤ m * c / h := Nat.div_le_div_right (Nat.mul_le_mul_right _ g)
  omega
theorem resG_lt (h0 : 0 < h) : resG M c h n < h := by
  unfold resG
  split
  · exact Nat.mod_lt _ h0
  · exact h0
theorem resG_full (e : totG M c h n = M) : resG M c h n = 0 := by
  unfold totG at e
  unfold resG
  rw [if_neg (by omega)]
/-- So many ticks more. -/
theorem split_more (h0 : 0 < h) : (n + t) * c / h = n * c / h + (t * c + n * c % h) / h ∧ (n + t) * c % h = (t * c + n * c % h) % h := by
  have e : (n + t) * c = (t * c + n * c % h) + h * (n * c / h) := by
    have := Nat.div_add_mod (n * c) h
    rw [Nat.add_mul]
    omega
  rw [e]
  constructor
  · rw [Nat.add_mul_div_left _ _ h0, Nat.add_comm]
  · rw [Nat.add_mul_mod_self_left]
theorem moreG_full (h0 : 0 < h) (hq : (t * c + resG M c h n) / h = q) (g : M - totG M c h n ≤ q) : totG M c h (n + t) = M := by
  unfold totG at *
  unfold resG at hq
  by_cases f : n * c / h < M
  · rw [if_pos f] at hq
    rw [(split_more h0).1, hq]
    omega
  · have : n * c / h ≤ (n + t) * c / h := Nat.div_le_div_right (Nat.mul_le_mul_right _ (Nat.le_add_right _ _))
    omega
theorem moreG_not (h0 : 0 < h) (hq : (t * c + resG M c h n) / h = q) (hr : (t * c + resG M c h n) % h = r) (g : q < M - totG M c h n) : totG M c h (n + t) = totG M c h n + q ∧ resG M c h (n + t) = r := by
  have nf : n * c / h < M := by unfold totG at g; omega
  unfold resG at hq hr
  rw [if_pos nf] at hq hr
  have s := split_more (n := n) (t := t) (c := c) h0
  rw [hq, hr] at s
  have e : totG M c h n = n * c / h := by unfold totG; omega
  unfold totG resG
  rw [s.1, s.2]
  rw [e] at g
  constructor
  · omega
  · rw [if_pos (by omega)]
/-- A tick, up. -/
theorem tickG (h0 : 0 < h) (c0 : 0 < c) : (c + h - 1) / h = if c % h = 0 then c / h else c / h + 1 := by
  have d := Nat.div_add_mod c h
  have l := Nat.mod_lt c h0
  generalize c / h = q at *
  generalize c % h = r at *
  split
  · have e : c + h - 1 = (h - 1) + h * q := by omega
    rw [e, Nat.add_mul_div_left _ _ h0, Nat.div_eq_of_lt (by omega)]
    omega
  · have e : c + h - 1 = (r - 1) + h * (q + 1) := by rw [Nat.mul_add]; omega
    rw [e, Nat.add_mul_div_left _ _ h0, Nat.div_eq_of_lt (by omega)]
    omega
end

/-- The total of so many ticks. -/
def totT (h n : Nat) : Nat := totG 4611686018427387904 1000000000 h n
/-- What is left of them: ticks by 10^9 that are no whole nanosecond; none, if the scale is full. -/
def resT (h n : Nat) : Nat := resG 4611686018427387904 1000000000 h n
/-- A tick, up. -/
def tickT (h : Nat) : Nat := (1000000000 + h - 1) / h

theorem tot_le (h n : Nat) : totT h n ≤ 4611686018427387904 := Nat.min_le_right _ _
theorem res_lt {h : Nat} (n : Nat) (h0 : 0 < h) : resT h n < h := resG_lt h0
theorem res_full {h n : Nat} (e : totT h n = 4611686018427387904) : resT h n = 0 := resG_full e
theorem tot_zero (h : Nat) : totT h 0 = 0 := by simp [totT, totG]
theorem res_zero (h : Nat) : resT h 0 = 0 := by simp [resT, resG]
theorem tot_mono {h n m : Nat} (g : n ≤ m) : totT h n ≤ totT h m := totG_mono g
/-- If it is full then: what grows is at least what was lacking. -/
theorem more_full {h n t q : Nat} (h0 : 0 < h) (hq : (t * 1000000000 + resT h n) / h = q) (g : 4611686018427387904 - totT h n ≤ q) : totT h (n + t) = 4611686018427387904 := moreG_full h0 hq g
/-- If it is not. -/
theorem more_not {h n t q r : Nat} (h0 : 0 < h) (hq : (t * 1000000000 + resT h n) / h = q) (hr : (t * 1000000000 + resT h n) % h = r) (g : q < 4611686018427387904 - totT h n) : totT h (n + t) = totT h n + q ∧ resT h (n + t) = r := moreG_not h0 hq hr g
theorem tick_div {h : Nat} (h0 : 0 < h) : tickT h = if 1000000000 % h = 0 then 1000000000 / h else 1000000000 / h + 1 := tickG h0 (by decide)
theorem tick_le {h : Nat} (h0 : 0 < h) : tickT h ≤ 1000000000 := by
  rw [tick_div h0]
  have : 1000000000 / h ≤ 1000000000 := Nat.div_le_self _ _
  split
  · exact this
  · rename_i z
    rcases Nat.lt_or_ge 1 h with g | g
    · have : 1000000000 / h < 1000000000 := Nat.div_lt_self (by decide) g
      exact this
    · exfalso
      apply z
      obtain rfl : h = 1 := by omega
      rfl
end Go.Proofs.Ytccfimempjbnfaa.ScaleM
