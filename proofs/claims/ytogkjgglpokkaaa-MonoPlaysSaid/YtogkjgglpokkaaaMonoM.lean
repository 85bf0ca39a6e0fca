/- Layer 11 (mono): time that goes on at a rate, in plain numbers. No Go in sight. -/
import Derived.WalkKit
namespace Go.Proofs.Ytogkjgglpokkaaa.MonoM

/-- A clock's numbers. -/
structure Mo where
  raw : Int
  mono : Int
  rate : Int
  rest : Int
  full : Bool

structure Mo.Ok (x : Mo) : Prop where
  r0 : 0 ≤ x.raw
  r1 : x.raw ≤ 4611686018427387904
  m0 : 0 ≤ x.mono
  m1 : x.mono ≤ 4611686018427387904
  s0 : -500000 ≤ x.rate
  s1 : x.rate ≤ 500000
  e0 : 0 ≤ x.rest
  e1 : x.rest < 1000000000

/-- What the rate makes of a raw delta, with the rest that was there. -/
def Mo.q (x : Mo) (d : Int) : Int := (d * x.rate + x.rest) / 1000000000
/-- Where Mono would be. -/
def Mo.to (x : Mo) (d : Int) : Int := x.mono + (d + x.q d)
def Mo.after (x : Mo) (d : Int) : Mo :=
  if x.full then x else ⟨min (x.raw + d) 4611686018427387904, min (x.to d) 4611686018427387904, x.rate, (d * x.rate + x.rest) % 1000000000, decide (4611686018427387904 < x.to d) || decide (4611686018427387904 < x.raw + d)⟩

/-- A product with a rate. -/
theorem mul_rate {d rate : Int} (h0 : 0 ≤ d) (a : -500000 ≤ rate) (b : rate ≤ 500000) : -(500000 * d) ≤ d * rate ∧ d * rate ≤ 500000 * d := by
  constructor
  · have := Int.mul_le_mul_of_nonneg_left a h0
    omega
  · have := Int.mul_le_mul_of_nonneg_left b h0
    omega

section
variable {x : Mo} {d : Int}
theorem Mo.q_lo (ok : x.Ok) (h0 : 0 ≤ d) : -(d / 2000) - 1 ≤ x.q d := by
  have m := mul_rate h0 ok.s0 ok.s1
  have e0 := ok.e0
  unfold Mo.q
  generalize d * x.rate = p at *
  omega
theorem Mo.q_hi (ok : x.Ok) (h0 : 0 ≤ d) : x.q d ≤ d / 2000 + 1 := by
  have m := mul_rate h0 ok.s0 ok.s1
  have e1 := ok.e1
  unfold Mo.q
  generalize d * x.rate = p at *
  omega
theorem Mo.q_back (ok : x.Ok) (h0 : 0 ≤ d) : 0 ≤ d + x.q d := by
  have m := mul_rate h0 ok.s0 ok.s1
  have e0 := ok.e0
  unfold Mo.q
  generalize d * x.rate = p at *
  omega
/-- The least raw delta more makes Mono go on, or stay. -/
theorem Mo.to_mono (ok : x.Ok) {c : Int} (h : d ≤ c) : x.to d ≤ x.to c := by
  have m := mul_rate (show 0 ≤ c - d by omega) ok.s0 ok.s1
  have e : (c - d) * x.rate = c * x.rate - d * x.rate := Int.sub_mul _ _ _
  rw [e] at m
  unfold Mo.to Mo.q
  generalize c * x.rate = p at *
  generalize d * x.rate = q at *
  omega
theorem Mo.to_lo (ok : x.Ok) (h0 : 0 ≤ d) : x.mono ≤ x.to d := by
  have := Mo.q_back ok h0
  unfold Mo.to
  omega
theorem Mo.after_rate : (x.after d).rate = x.rate := by
  unfold Mo.after
  split <;> rfl
theorem Mo.after_full (f : x.full = true) : x.after d = x := by unfold Mo.after; rw [if_pos f]
theorem Mo.after_not (f : x.full = false) : x.after d = ⟨min (x.raw + d) 4611686018427387904, min (x.to d) 4611686018427387904, x.rate, (d * x.rate + x.rest) % 1000000000, decide (4611686018427387904 < x.to d) || decide (4611686018427387904 < x.raw + d)⟩ := by
  unfold Mo.after
  rw [f]
  rfl
/-- Far from the end. -/
theorem Mo.after_far (f : x.full = false) (a : x.to d ≤ 4611686018427387904) (b : x.raw + d ≤ 4611686018427387904) : x.after d = ⟨x.raw + d, x.to d, x.rate, (d * x.rate + x.rest) % 1000000000, false⟩ := by
  rw [Mo.after_not f, Int.min_eq_left b, Int.min_eq_left a, decide_eq_false (by omega), decide_eq_false (by omega)]
  rfl
theorem Mo.after_ok (ok : x.Ok) (h0 : 0 ≤ d) : (x.after d).Ok := by
  cases f : x.full
  · have l := Mo.to_lo ok h0
    have a := ok.r0
    have b := ok.m0
    rw [Mo.after_not f]
    exact ⟨by show 0 ≤ min _ _; omega, by show min _ _ ≤ _; omega, by show 0 ≤ min _ _; omega, by show min _ _ ≤ _; omega, ok.s0, ok.s1, Int.emod_nonneg _ (by decide), Int.emod_lt_of_pos _ (by decide)⟩
  · rw [Mo.after_full f]
    exact ok
end
end Go.Proofs.Ytogkjgglpokkaaa.MonoM
