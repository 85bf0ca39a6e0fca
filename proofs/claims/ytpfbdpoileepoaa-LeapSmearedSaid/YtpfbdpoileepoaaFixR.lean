/- Contracts of package fix (layer 1): quotients, whatever comes; MulDiv, MulDivUp, Mul. -/
import Derived.Test.YtpfbdpoileepoaaFixQ
namespace Go.Proofs.Ytpfbdpoileepoaa
open Go.ChangeShapes Go.WideShapes Go.ChangeAt Go.RowKit

/-- t / c, down or up. -/
def quoI (t c : Int) (up : Bool) : Int := if up then -((-t) / c) else t / c
/-- An int64, or 0. -/
def outN (q : Int) : Int := if -9223372036854775808 ≤ q ∧ q ≤ 9223372036854775807 then q else 0
/-- What is said of it: nothing, or ErrRange. -/
def outE (q : Int) : Int := if -9223372036854775808 ≤ q ∧ q ≤ 9223372036854775807 then 0 else 20

theorem outN_ok {q : Int} (h : I64 q) : outN q = q := by unfold outN; exact if_pos h
theorem outE_ok {q : Int} (h : I64 q) : outE q = 0 := by unfold outE; exact if_pos h
theorem outN_no {q : Int} (h : ¬ I64 q) : outN q = 0 := by unfold outN; exact if_neg h
theorem outE_no {q : Int} (h : ¬ I64 q) : outE q = 20 := by unfold outE; exact if_neg h

theorem neg_div (P c q r : Nat) (hc : 0 < c) (hq : P / c = q) (hr : P % c = r) : (-(P : Int)) / (c : Int) = if r = 0 then -(q : Int) else -((q : Int) + 1) := by
  have m := Nat.div_add_mod P c
  have l := Nat.mod_lt P hc
  rw [hq, hr] at m
  rw [hr] at l
  have m' : (c : Int) * (q : Int) + (r : Int) = (P : Int) := by rw [← Int.natCast_mul]; omega
  by_cases h : r = 0
  · rw [if_pos h]
    refine ((Int.ediv_emod_unique (r := 0) (by omega)).2 ⟨?_, by omega, by omega⟩).1
    rw [Int.mul_neg]; omega
  · rw [if_neg h]
    refine ((Int.ediv_emod_unique (r := (c : Int) - r) (by omega)).2 ⟨?_, by omega, by omega⟩).1
    rw [Int.mul_neg, Int.mul_add, Int.mul_one]; omega

/-- A product by its signs and its size. -/
theorem mul_signs (a b : Int) (x y neg : Bool) (hx : decide (a < 0) = x) (hy : decide (b < 0) = y) (hn : (!(x == y)) = neg) : a * b = if neg then -((a.natAbs * b.natAbs : Nat) : Int) else ((a.natAbs * b.natAbs : Nat) : Int) := by
  have e : (a * b).natAbs = a.natAbs * b.natAbs := Int.natAbs_mul a b
  rw [← e]
  subst hx hy hn
  by_cases ca : a < 0 <;> by_cases cb : b < 0
  · have := Int.mul_nonneg_of_nonpos_of_nonpos (show a ≤ 0 by omega) (show b ≤ 0 by omega)
    simp [ca, cb]; omega
  · have := Int.mul_nonpos_of_nonpos_of_nonneg (show a ≤ 0 by omega) (show 0 ≤ b by omega)
    simp [ca, cb]; omega
  · have := Int.mul_nonpos_of_nonneg_of_nonpos (show 0 ≤ a by omega) (show b ≤ 0 by omega)
    simp [ca, cb]; omega
  · have := Int.mul_nonneg (show 0 ≤ a by omega) (show 0 ≤ b by omega)
    simp [ca, cb]; omega

/-- What the closure brings back is the quotient, or nothing. -/
theorem back_quo (P c q r m : Nat) (up neg away : Bool) (hc : 0 < c) (hq : P / c = q) (hr : P % c = r) (hw : (!(up == neg)) = away)
    (cs : (0 < r ∧ away = true ∧ q ≤ 9223372036854775808 ∧ m = q + 1) ∨ (r = 0 ∧ m = q) ∨ (0 < r ∧ away = false ∧ m = q) ∨ (0 < r ∧ away = true ∧ 9223372036854775808 < q ∧ m = q)) :
    backN neg m = outN (quoI (if neg then -(P : Int) else (P : Int)) c up) ∧ backE neg m = outE (quoI (if neg then -(P : Int) else (P : Int)) c up) := by
  have d := neg_div P c q r hc hq hr
  have d' : (P : Int) / (c : Int) = (q : Int) := by rw [← hq]; simp
  cases neg <;> cases up <;> simp [quoI, d, d', backN, backE, outN, outE] <;> simp at hw <;> subst hw <;> simp at cs
  · omega
  all_goals (constructor <;> (repeat' split) <;> omega)

theorem size_div (P h l : Nat) (eh : P / 18446744073709551616 = h) (el : P % 18446744073709551616 = l) : h * 18446744073709551616 + l = P := by
  have := Nat.div_add_mod P 18446744073709551616
  omega

set_option maxHeartbeats 800000 in
theorem quotient_big (a b : Int) (c h l : Nat) (up x y neg : Bool) (ha : I64 a) (hb : I64 b) (h0 : 0 < c) (h1 : c < 9223372036854775808)
    (eh : a.natAbs * b.natAbs / 18446744073709551616 = h) (el : a.natAbs * b.natAbs % 18446744073709551616 = l)
    (hx : decide (a < 0) = x) (hy : decide (b < 0) = y) (hn : (!(x == y)) = neg) (hh : c ≤ h) (w : World) :
    Calls Try.prog 58 #[.int .i64 a, .int .i64 b, .int .i64 c, .bool up] w fun e w' => e = .returned (.tuple #[.int .i64 0, .int .i64 20]) ∧ Out w w' := by
  have EH := Lib.hid eh
  have EL := Lib.hid el
  have h0' : 0 < (c : Int) := by omega
  have cw : IntKind.u64.wrap (c : Int) = (c : Int) := by rw [IntKind.wrap_u64]; omega
  have n1 : ¬ c = 0 := by omega
  clear eh el h1
  go_enter Try.func58, Try.ntmps58
  go_wp2_with fail
  refine (product_any a b ha hb h l EH.out EL.out _).mono ?_; rintro e w' ⟨rfl, rfl⟩
  go_wp2
  go_ret2
  exact ⟨rfl, (((Out.refl w).alloc _ _).alloc _ _).alloc _ _⟩

/-- A quotient whose size alone is out of range. -/
theorem big_quo (P c : Nat) (up neg : Bool) (hc : 0 < c) (hb : 18446744073709551616 ≤ P / c) : ¬ I64 (quoI (if neg then -(P : Int) else (P : Int)) c up) := by
  have d := neg_div P c _ _ hc rfl rfl
  have d' : (P : Int) / (c : Int) = ((P / c : Nat) : Int) := by simp
  generalize P / c = q at *
  generalize P % c = r at *
  cases neg <;> cases up <;> simp [quoI, d, d', I64]
  · omega
  all_goals (first | omega | (split <;> omega))

theorem quotient_any (a b c : Int) (up : Bool) (ha : I64 a) (hb : I64 b) (hc : I64 c) (h0 : 0 < c) (w : World) :
    Calls Try.prog 58 #[.int .i64 a, .int .i64 b, .int .i64 c, .bool up] w fun e w' => e = .returned (.tuple #[.int .i64 (outN (quoI (a * b) c up)), .int .i64 (outE (quoI (a * b) c up))]) ∧ Out w w' := by
  obtain ⟨k, rfl⟩ : ∃ k : Nat, c = (k : Int) := ⟨c.toNat, by omega⟩
  have k0 : 0 < k := by omega
  have k1 : k < 9223372036854775808 := by unfold I64 at hc; omega
  rw [mul_signs a b _ _ _ rfl rfl rfl]
  have e := size_div (a.natAbs * b.natAbs) _ _ rfl rfl
  obtain ⟨neg, hneg⟩ : ∃ neg, (!(decide (a < 0) == decide (b < 0))) = neg := ⟨_, rfl⟩
  rw [hneg]
  by_cases hh : a.natAbs * b.natAbs / 18446744073709551616 < k
  · obtain ⟨q, hq⟩ : ∃ q, a.natAbs * b.natAbs / k = q := ⟨_, rfl⟩
    obtain ⟨r, hr⟩ : ∃ r, a.natAbs * b.natAbs % k = r := ⟨_, rfl⟩
    obtain ⟨away, haw⟩ : ∃ away, (!(up == neg)) = away := ⟨_, rfl⟩
    obtain ⟨m, cs⟩ : ∃ m, (0 < r ∧ away = true ∧ q ≤ 9223372036854775808 ∧ m = q + 1) ∨ (r = 0 ∧ m = q) ∨ (0 < r ∧ away = false ∧ m = q) ∨ (0 < r ∧ away = true ∧ 9223372036854775808 < q ∧ m = q) := by
      rcases Nat.eq_zero_or_pos r with h | h
      · exact ⟨q, .inr (.inl ⟨h, rfl⟩)⟩
      · cases away
        · exact ⟨q, .inr (.inr (.inl ⟨h, rfl, rfl⟩))⟩
        · rcases Nat.lt_or_ge 9223372036854775808 q with g | g
          · exact ⟨q, .inr (.inr (.inr ⟨h, rfl, g, rfl⟩))⟩
          · exact ⟨q + 1, .inl ⟨h, rfl, g, rfl⟩⟩
    obtain ⟨b1, b2⟩ := back_quo _ k q r m up neg away k0 hq hr haw cs
    rw [← b1, ← b2]
    exact quotient_core a b k _ _ q r m up _ _ neg away ha hb k0 k1 rfl rfl rfl rfl hneg haw hh (by rw [e]; exact hq) (by rw [e]; exact hr) cs w
  · have n := big_quo (a.natAbs * b.natAbs) k up neg k0 (by
      rw [Nat.le_div_iff_mul_le k0, Nat.mul_comm]
      have : k * 18446744073709551616 ≤ a.natAbs * b.natAbs / 18446744073709551616 * 18446744073709551616 := Nat.mul_le_mul_right _ (by omega)
      exact Nat.le_trans this (Nat.div_mul_le_self _ _))
    rw [outN_no n, outE_no n]
    exact quotient_big a b k _ _ up _ _ neg ha hb k0 k1 rfl rfl rfl rfl hneg (by omega) w

theorem muldiv_any (a b c : Int) (ha : I64 a) (hb : I64 b) (hc : I64 c) (h0 : 0 < c) (w : World) :
    Calls Try.prog 57 #[.int .i64 a, .int .i64 b, .int .i64 c] w fun e w' => e = .returned (.tuple #[.int .i64 (outN (quoI (a * b) c false)), .int .i64 (outE (quoI (a * b) c false))]) ∧ Out w w' := by
  go_enter Try.func57, Try.ntmps57
  go_wp2_with (go_at_call 58; refine (quotient_any a b c false ha hb hc h0 _).mono ?_; rintro e w' ⟨rfl, ho⟩)
  go_ret2
  exact ⟨rfl, ho⟩
theorem muldiv_arg (a b c : Int) (h0 : c ≤ 0) (w : World) :
    Calls Try.prog 57 #[.int .i64 a, .int .i64 b, .int .i64 c] w fun e w' => e = .returned (.tuple #[.int .i64 0, .int .i64 1]) ∧ w = w' := by
  go_enter Try.func57, Try.ntmps57
  go_wp2_with (go_at_call 58; refine (quotient_arg a b c false h0 _).mono ?_; rintro e w' ⟨rfl, rfl⟩)
  go_ret2
  exact ⟨rfl, rfl⟩
end Go.Proofs.Ytpfbdpoileepoaa

