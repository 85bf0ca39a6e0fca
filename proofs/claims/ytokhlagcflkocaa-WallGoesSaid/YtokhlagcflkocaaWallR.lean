/- Layer 12 (wall): rates, in plain numbers: the farthest of the quotients down and up is the one away from 0. No Go in sight. -/
import Derived.Test.YtokhlagcflkocaaWallM
namespace Go.Proofs.Ytokhlagcflkocaa.WallM

/-- The one of two rates that is farthest from 0. -/
def farN (a b : Int) : Int := if a.natAbs < b.natAbs then b else a

theorem down_up {p s : Int} (h : 0 < s) : p / s ≤ -((-p) / s) := by
  have a := Int.ediv_mul_le p (Int.ne_of_gt h)
  have b := Int.ediv_mul_le (-p) (Int.ne_of_gt h)
  have c : (p / s + (-p) / s) * s ≤ 0 * s := by rw [Int.add_mul, Int.zero_mul]; omega
  have d := Int.le_of_mul_le_mul_right c h
  omega
theorem far_up {p s : Int} (h : 0 < s) (h0 : 0 ≤ p) : farN (p / s) (-((-p) / s)) = -((-p) / s) := by
  have a := down_up (p := p) h
  have b := Int.ediv_nonneg h0 (Int.le_of_lt h)
  unfold farN
  split <;> omega
theorem far_down {p s : Int} (h : 0 < s) (h0 : p ≤ 0) : farN (p / s) (-((-p) / s)) = p / s := by
  have a := down_up (p := p) h
  have b := Int.ediv_nonneg (show 0 ≤ -p by omega) (Int.le_of_lt h)
  unfold farN
  split <;> omega
theorem quo_le {p s G : Int} (h : 0 < s) (h1 : p ≤ G * s) : p / s ≤ G := by
  have := Int.ediv_le_ediv h h1
  rw [Int.mul_ediv_cancel _ (Int.ne_of_gt h)] at this
  exact this
theorem quo_ge {p s G : Int} (h : 0 < s) (h1 : G * s ≤ p) : G ≤ p / s := (Int.le_ediv_iff_mul_le h).2 h1

/-- Both quotients of an amount within the stretch. -/
structure Quo (a s d u : Int) : Prop where
  ed : (a * 1000000000) / s = d
  eu : -((-(a * 1000000000)) / s) = u
  d0 : -1000000000 ≤ d
  d1 : d ≤ 1000000000
  u0 : -1000000000 ≤ u
  u1 : u ≤ 1000000000
theorem quo_of {a s : Int} (h : 0 < s) (h0 : -s ≤ a) (h1 : a ≤ s) : Quo a s ((a * 1000000000) / s) (-((-(a * 1000000000)) / s)) := by
  have e1 : a * 1000000000 ≤ 1000000000 * s := by omega
  have e2 : (-1000000000) * s ≤ a * 1000000000 := by omega
  have e3 : -(a * 1000000000) ≤ 1000000000 * s := by omega
  have e4 : (-1000000000) * s ≤ -(a * 1000000000) := by omega
  have f1 := quo_le h e1
  have f2 := quo_ge h e2
  have f3 := quo_le h e3
  have f4 := quo_ge h e4
  exact ⟨rfl, rfl, f2, f1, by omega, by omega⟩

theorem bnd_hi {n : Int} (h : 500000 ≤ n) : bnd n = 500000 := by unfold bnd cl; split <;> (try split) <;> omega
theorem bnd_lo {n : Int} (h : n ≤ -500000) : bnd n = -500000 := by unfold bnd cl; split <;> (try split) <;> omega

theorem rate_far (a s : Int) (h : 0 < s) : bnd (farN ((cl a (-s) s * 1000000000) / s) (-((-(cl a (-s) s * 1000000000)) / s))) = bnd (rateQ a s) := by
  unfold rateQ
  by_cases c1 : a < -s
  · rw [cl_lo c1, if_neg (by omega)]
    have q := quo_of (a := -s) h (by omega) (by omega)
    have e2 : (-1000000000) * s ≤ (-s) * 1000000000 := by omega
    have e3 : (-s) * 1000000000 ≤ (-1000000000) * s := by omega
    have g1 := quo_le h e3
    rw [far_down h (by omega), bnd_lo (by omega)]
    have e4 : a * 1000000000 ≤ (-1000000000) * s := by omega
    have g2 := quo_le h e4
    rw [bnd_lo (by omega)]
  · by_cases c2 : s < a
    · rw [cl_hi (by omega) c2, if_pos (by omega)]
      have e3 : 1000000000 * s ≤ s * 1000000000 := by omega
      have g1 := quo_ge h e3
      have k1 := down_up (p := s * 1000000000) h
      rw [far_up h (by omega), bnd_hi (by omega)]
      have e4 : 1000000000 * s ≤ a * 1000000000 := by omega
      have g2 := quo_ge h e4
      have k2 := down_up (p := a * 1000000000) h
      rw [bnd_hi (by omega)]
    · rw [cl_mid (by omega) (by omega)]
      by_cases c3 : 0 < a
      · rw [if_pos c3, far_up h (by omega)]
      · rw [if_neg c3, far_down h (by omega)]
end Go.Proofs.Ytokhlagcflkocaa.WallM
