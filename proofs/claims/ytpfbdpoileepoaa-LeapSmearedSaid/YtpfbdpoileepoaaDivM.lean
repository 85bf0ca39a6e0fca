/- Plain arithmetic for division of two words by one (digits to the base 2^32): one digit's estimate and its corrections. No Go in sight. -/
import Derived.WalkKit
namespace Go.Proofs.Ytpfbdpoileepoaa.DivM

/-- What holds of an estimate q with its rest r at every round's head. -/
structure Inv (U V v1 d q r : Nat) : Prop where
  sum : q * v1 + r = U
  lo : (U * 4294967296 + d) / V ≤ q
  hi : q ≤ 4294967297

structure Norm (V v1 v0 : Nat) : Prop where
  eq : V = v1 * 4294967296 + v0
  l0 : v0 < 4294967296
  l1 : v1 < 4294967296
  g1 : 2147483648 ≤ v1

theorem start {U V v1 v0 d : Nat} (n : Norm V v1 v0) (hU : U < V) (hd : d < 4294967296) : Inv U V v1 d (U / v1) (U % v1) ∧ U % v1 < 4294967296 := by
  have g := n.g1
  refine ⟨⟨?_, ?_, ?_⟩, ?_⟩
  · rw [Nat.mul_comm]; exact Nat.div_add_mod U v1
  · rw [Nat.le_div_iff_mul_le (by omega)]
    have a : (U * 4294967296 + d) / V * V ≤ U * 4294967296 + d := Nat.div_mul_le_self _ _
    generalize (U * 4294967296 + d) / V = t at *
    rw [n.eq] at a
    have e : t * (v1 * 4294967296 + v0) = t * v1 * 4294967296 + t * v0 := by rw [Nat.mul_add, Nat.mul_assoc]
    rw [e] at a
    generalize t * v1 = x at *
    generalize t * v0 = y at *
    omega
  · have : U / v1 < 4294967298 := by
      rw [Nat.div_lt_iff_lt_mul (by omega)]
      have := n.eq; have := n.l0
      omega
    omega
  · have := Nat.mod_lt U (y := v1) (by omega); have := n.l1; omega

theorem lt_base {U V v1 v0 d : Nat} (n : Norm V v1 v0) (hU : U < V) (hd : d < 4294967296) : (U * 4294967296 + d) / V < 4294967296 := by
  have g := n.g1
  have e := n.eq
  rw [Nat.div_lt_iff_lt_mul (by omega)]
  omega

theorem step {U V v1 v0 d q r : Nat} (n : Norm V v1 v0) (hU : U < V) (hd : d < 4294967296) (h : Inv U V v1 d q r) (c : 4294967296 ≤ q ∨ 4294967296 * r + d < q * v0) :
    1 ≤ q ∧ Inv U V v1 d (q - 1) (r + v1) ∧ q - 1 ≤ 4294967296 := by
  have b := lt_base n hU hd
  have g := n.g1
  have e := n.eq
  have lt : (U * 4294967296 + d) / V < q := by
    rcases c with c | c
    · omega
    · rw [Nat.div_lt_iff_lt_mul (by omega), e, Nat.mul_add, ← Nat.mul_assoc]
      have s := h.sum
      generalize q * v1 = x at *
      generalize q * v0 = y at *
      omega
  have p : 1 ≤ q := Nat.lt_of_le_of_lt (Nat.zero_le _) lt
  have hh := h.hi
  refine ⟨p, ⟨?_, by omega, by omega⟩, by omega⟩
  have s := h.sum
  obtain ⟨k, rfl⟩ : ∃ k, q = k + 1 := ⟨q - 1, by omega⟩
  rw [Nat.add_mul] at s
  simp only [Nat.add_sub_cancel]
  omega

theorem done {U V v1 v0 d q r : Nat} (n : Norm V v1 v0) (h : Inv U V v1 d q r) (c : q * v0 ≤ 4294967296 * r + d) : q = (U * 4294967296 + d) / V := by
  have g := n.g1
  have e := n.eq
  have l := h.lo
  have ge : q ≤ (U * 4294967296 + d) / V := by
    rw [Nat.le_div_iff_mul_le (by omega), e, Nat.mul_add, ← Nat.mul_assoc]
    have s := h.sum
    generalize q * v1 = x at *
    generalize q * v0 = y at *
    omega
  omega

theorem done_big {U V v1 v0 d q r : Nat} (n : Norm V v1 v0) (h : Inv U V v1 d q r) (hq : q ≤ 4294967296) (c : 4294967296 ≤ r) : q = (U * 4294967296 + d) / V := by
  refine done n h ?_
  have l := n.l0
  have : q * v0 ≤ 4294967296 * 4294967295 := Nat.mul_le_mul hq (by omega)
  omega

/-- The words of the test do not go round. -/
theorem test_words {V v1 v0 d q r : Nat} (n : Norm V v1 v0) (hr : r < 4294967296) (hd : d < 4294967296) (hq : q < 4294967296) :
    IntKind.u64.wrap ((q : Int) * (v0 : Int)) = ((q * v0 : Nat) : Int) ∧ IntKind.u64.wrap (4294967296 * (r : Int)) = ((4294967296 * r : Nat) : Int) ∧ IntKind.u64.wrap (((4294967296 * r : Nat) : Int) + (d : Int)) = ((4294967296 * r + d : Nat) : Int) := by
  have l := n.l0
  have b : q * v0 ≤ 4294967295 * 4294967295 := Nat.mul_le_mul (by omega) (by omega)
  simp only [IntKind.wrap_u64]
  rw [← Int.natCast_mul]
  omega

/-- A rest, in arithmetic that goes round 2^64. -/
theorem rest {U V d : Nat} (hV : 0 < V) (hV2 : V < 18446744073709551616) :
    ((((U : Int) * 4294967296 % 18446744073709551616 + d) % 18446744073709551616) - ((((U * 4294967296 + d) / V : Nat) : Int) * (V : Int)) % 18446744073709551616) % 18446744073709551616 = (((U * 4294967296 + d) % V : Nat) : Int) := by
  have m := Nat.div_add_mod (U * 4294967296 + d) V
  have l := Nat.mod_lt (U * 4294967296 + d) hV
  have e : ((((U * 4294967296 + d) / V : Nat) : Int) * (V : Int)) = ((V * ((U * 4294967296 + d) / V) : Nat) : Int) := by rw [Nat.mul_comm V, Int.natCast_mul]
  rw [e]
  generalize V * ((U * 4294967296 + d) / V) = x at *
  generalize (U * 4294967296 + d) % V = y at *
  omega

/-- Two digits make the quotient; what is left, moved back, is the rest. -/
theorem both (hi lo y s U V L : Nat) (hV : V = y * 2 ^ s) (hU : U * 18446744073709551616 + L = (hi * 18446744073709551616 + lo) * 2 ^ s) :
    (U * 18446744073709551616 + L) / V = (hi * 18446744073709551616 + lo) / y ∧ (U * 18446744073709551616 + L) % V / 2 ^ s = (hi * 18446744073709551616 + lo) % y := by
  rw [hU, hV]
  have p : 0 < 2 ^ s := Nat.two_pow_pos s
  constructor
  · rw [Nat.mul_div_mul_right _ _ p]
  · rw [Nat.mul_mod_mul_right, Nat.mul_div_cancel _ p]

/-- Schoolbook: the digits d1, d0 of L, one behind the other. -/
theorem school_of (U V d1 d0 q r : Nat) (hV : 0 < V) (m : V * q + r = U * 4294967296 + d1) :
    q * 4294967296 + (r * 4294967296 + d0) / V = (U * 18446744073709551616 + (d1 * 4294967296 + d0)) / V ∧
    (r * 4294967296 + d0) % V = (U * 18446744073709551616 + (d1 * 4294967296 + d0)) % V := by
  have e : U * 18446744073709551616 + (d1 * 4294967296 + d0) = (r * 4294967296 + d0) + V * (q * 4294967296) := by
    have : V * (q * 4294967296) = V * q * 4294967296 := (Nat.mul_assoc V q 4294967296).symm
    rw [this]
    omega
  rw [e]
  constructor
  · rw [Nat.add_mul_div_left _ _ hV]; exact Nat.add_comm _ _
  · rw [Nat.add_mul_mod_self_left]

theorem school (U V d1 d0 : Nat) (hV : 0 < V) :
    (U * 4294967296 + d1) / V * 4294967296 + ((U * 4294967296 + d1) % V * 4294967296 + d0) / V = (U * 18446744073709551616 + (d1 * 4294967296 + d0)) / V ∧
    ((U * 4294967296 + d1) % V * 4294967296 + d0) % V = (U * 18446744073709551616 + (d1 * 4294967296 + d0)) % V :=
  school_of U V d1 d0 _ _ hV (Nat.div_add_mod (U * 4294967296 + d1) V)

/-- The words that are moved by s places. -/
theorem moved (hi lo y s : Nat) (hs : s < 64) (h1 : hi < y) (h2 : lo < 18446744073709551616) (h3 : y * 2 ^ s < 18446744073709551616) :
    hi * 2 ^ s < 18446744073709551616 ∧ lo / 2 ^ (64 - s) < 2 ^ s ∧
    (hi * 2 ^ s + lo / 2 ^ (64 - s)) * 18446744073709551616 + lo * 2 ^ s % 18446744073709551616 = (hi * 18446744073709551616 + lo) * 2 ^ s ∧
    hi * 2 ^ s + lo / 2 ^ (64 - s) < y * 2 ^ s := by
  have p : 0 < 2 ^ s := Nat.two_pow_pos s
  have w : 2 ^ s * 2 ^ (64 - s) = 18446744073709551616 := by
    rw [← Nat.pow_add, show s + (64 - s) = 64 from by omega]
  have l1 : hi * 2 ^ s + 2 ^ s ≤ y * 2 ^ s := by
    have := Nat.mul_le_mul_right (2 ^ s) (show hi + 1 ≤ y by omega)
    rw [Nat.add_mul] at this
    omega
  have l2 : lo / 2 ^ (64 - s) < 2 ^ s := by
    rw [Nat.div_lt_iff_lt_mul (Nat.two_pow_pos _), w]; exact h2
  refine ⟨by omega, l2, ?_, by omega⟩
  have dv : lo * 2 ^ s / 18446744073709551616 = lo / 2 ^ (64 - s) := by
    rw [← w, Nat.mul_comm lo, Nat.mul_div_mul_left _ _ p]
  have m := Nat.div_add_mod (lo * 2 ^ s) 18446744073709551616
  rw [dv] at m
  have g : (hi * 18446744073709551616 + lo) * 2 ^ s = hi * 2 ^ s * 18446744073709551616 + lo * 2 ^ s := by
    rw [Nat.add_mul, Nat.mul_right_comm]
  rw [g]
  generalize hi * 2 ^ s = x at *
  generalize lo * 2 ^ s = z at *
  generalize lo / 2 ^ (64 - s) = t at *
  omega

/-- or of what has no place in common is a sum. -/
theorem or_add (a b s : Nat) (hb : b < 2 ^ s) : (a * 2 ^ s) ||| b = a * 2 ^ s + b := by
  rw [Nat.mul_comm, Nat.two_pow_add_eq_or_of_lt hb]

end Go.Proofs.Ytpfbdpoileepoaa.DivM

