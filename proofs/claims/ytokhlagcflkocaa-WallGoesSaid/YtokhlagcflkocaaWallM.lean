/- Layer 12 (wall): what is between two numbers, what a wall tells, when, and rates, in plain numbers. No Go in sight. -/
import Derived.Test.YtokhlagcflkocaaFixR
namespace Go.Proofs.Ytokhlagcflkocaa.WallM

/-- A number between two others, or the one next to it. -/
def cl (n lo hi : Int) : Int := if n < lo then lo else if hi < n then hi else n
theorem cl_lo {n lo hi : Int} (h : n < lo) : cl n lo hi = lo := by unfold cl; rw [if_pos h]
theorem cl_hi {n lo hi : Int} (h : lo ≤ n) (h' : hi < n) : cl n lo hi = hi := by unfold cl; rw [if_neg (by omega), if_pos h']
theorem cl_mid {n lo hi : Int} (h : lo ≤ n) (h' : n ≤ hi) : cl n lo hi = n := by unfold cl; rw [if_neg (by omega), if_neg (by omega)]
theorem cl_in (n : Int) {lo hi : Int} (h : lo ≤ hi) : lo ≤ cl n lo hi ∧ cl n lo hi ≤ hi := by
  unfold cl
  split
  · omega
  · split <;> omega
theorem cl_i64 {n lo hi : Int} (h : lo ≤ hi) (hl : I64 lo) (hh : I64 hi) : I64 (cl n lo hi) := by
  have := cl_in n h
  unfold I64 at *
  omega
theorem cl_eq (n lo hi : Int) : cl n lo hi = n ↔ lo ≤ n ∧ n ≤ hi := by
  unfold cl
  split
  · omega
  · split <;> omega

/-- The time that a number counts as. -/
def inst (n : Int) : Int := cl n 0 4611686018427387904
/-- The rate that a number counts as. -/
def bnd (n : Int) : Int := cl n (-500000) 500000
theorem inst_in (n : Int) : 0 ≤ inst n ∧ inst n ≤ 4611686018427387904 := cl_in n (by decide)
theorem bnd_in (n : Int) : -500000 ≤ bnd n ∧ bnd n ≤ 500000 := cl_in n (by decide)
theorem inst_of {n : Int} (h : 0 ≤ n) (h' : n ≤ 4611686018427387904) : inst n = n := cl_mid h h'
theorem inst_lo {n : Int} (h : n ≤ 0) : inst n = 0 := by unfold inst cl; split <;> omega
theorem inst_hi {n : Int} (h : 4611686018427387904 ≤ n) : inst n = 4611686018427387904 := by unfold inst cl; split <;> omega

/-- What a wall tells at a mono. -/
def atW (b m : Int) : Int := inst (inst m + b)
theorem atW_in (b m : Int) : 0 ≤ atW b m ∧ atW b m ≤ 4611686018427387904 := inst_in _
theorem atW_mono {b m n : Int} (h : m ≤ n) : atW b m ≤ atW b n ∧ atW b n - atW b m ≤ n - m := by
  unfold atW inst cl
  repeat' split
  all_goals omega
theorem atW_of {b m : Int} (h : 0 ≤ m) (h' : m ≤ 4611686018427387904) : atW b m = inst (m + b) := by unfold atW; rw [inst_of h h']

/-- When a wall tells at least that. -/
def whenB (b t : Int) : Bool := decide (t ≤ atW b 0) || (decide (t ≤ 4611686018427387904) && decide (t - b ≤ 4611686018427387904))
def whenN (b t : Int) : Int := if t ≤ atW b 0 then 0 else if t ≤ 4611686018427387904 ∧ t - b ≤ 4611686018427387904 then t - b else 0
theorem when_now {b t : Int} (h : t ≤ atW b 0) : whenB b t = true ∧ whenN b t = 0 := by
  unfold whenB whenN
  rw [if_pos h, decide_eq_true h]
  exact ⟨rfl, rfl⟩
theorem when_yes {b t : Int} (h : ¬ t ≤ atW b 0) (h1 : t ≤ 4611686018427387904) (h2 : t - b ≤ 4611686018427387904) : whenB b t = true ∧ whenN b t = t - b := by
  unfold whenB whenN
  rw [if_neg h, decide_eq_false h, if_pos ⟨h1, h2⟩, decide_eq_true h1, decide_eq_true h2]
  exact ⟨rfl, rfl⟩
theorem when_no {b t : Int} (h : ¬ t ≤ atW b 0) (h1 : ¬ (t ≤ 4611686018427387904 ∧ t - b ≤ 4611686018427387904)) : whenB b t = false ∧ whenN b t = 0 := by
  unfold whenB whenN
  rw [if_neg h, decide_eq_false h, if_neg h1]
  refine ⟨?_, rfl⟩
  by_cases h2 : t ≤ 4611686018427387904
  · rw [decide_eq_false (show ¬ t - b ≤ 4611686018427387904 from fun h3 => h1 ⟨h2, h3⟩), Bool.and_false]; rfl
  · rw [decide_eq_false h2]; rfl
/-- A time that is not told at once is told at a mono behind which it is told by counting. -/
theorem at_ge {b t m : Int} (h : ¬ t ≤ atW b 0) (h1 : t ≤ 4611686018427387904) (m0 : 0 ≤ m) (m1 : m ≤ 4611686018427387904) : t ≤ atW b m ↔ t - b ≤ m := by
  rw [atW_of m0 m1]
  rw [atW_of (by decide) (by decide)] at h
  unfold inst cl at *
  repeat' split at h
  all_goals repeat' split
  all_goals omega

theorem when_in (b t : Int) : 0 ≤ whenN b t ∧ whenN b t ≤ 4611686018427387904 := by
  by_cases h : t ≤ atW b 0
  · rw [(when_now h).2]; decide
  · by_cases h1 : t ≤ 4611686018427387904 ∧ t - b ≤ 4611686018427387904
    · rw [(when_yes h h1.1 h1.2).2]
      have := (at_ge (m := 0) h h1.1 (by decide) (by decide))
      omega
    · rw [(when_no h h1).2]; decide

/-- A rate that slews an amount in a stretch, away from 0, or the one next to it. -/
def rateQ (a s : Int) : Int := if 0 < a then -((-(a * 1000000000)) / s) else (a * 1000000000) / s
def rateN (a n : Int) : Int := if inst n = 0 then 0 else bnd (rateQ a (inst n))
def slewN (r n : Int) : Int := inst n * bnd r / 1000000000
theorem rateN_in (a n : Int) : -500000 ≤ rateN a n ∧ rateN a n ≤ 500000 := by
  unfold rateN
  split
  · omega
  · exact bnd_in _
theorem slew_in (r n : Int) : -2305843009213694 ≤ slewN r n ∧ slewN r n ≤ 2305843009213694 := by
  have h := inst_in n
  have g := bnd_in r
  unfold slewN
  obtain ⟨x, hx⟩ : ∃ x, inst n = x := ⟨_, rfl⟩
  obtain ⟨y, hy⟩ : ∃ y, bnd r = y := ⟨_, rfl⟩
  rw [hx] at h ⊢
  rw [hy] at g ⊢
  have a : x * y ≤ x * 500000 := Int.mul_le_mul_of_nonneg_left g.2 h.1
  have c : x * (-500000) ≤ x * y := Int.mul_le_mul_of_nonneg_left g.1 h.1
  generalize x * y = p at *
  omega
end Go.Proofs.Ytokhlagcflkocaa.WallM
