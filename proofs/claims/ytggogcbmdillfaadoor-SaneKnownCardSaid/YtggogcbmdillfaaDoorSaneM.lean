/- Layer 8 (sane): root distances, codes, what is refused, of numbers alone. No program. -/
import Derived.Test.YtggogcbmdillfaaDoorStampM
import Derived.Lib.TrimByte
namespace Go.Proofs.SaneM
open StampM

/-- the root distance: half of one, rounded up, and the other. -/
def rhoN (de di : Nat) : Nat := (shortN de + 1) / 2 + shortN di
theorem rho_lt {de di : Nat} (h1 : de < 4294967296) (h2 : di < 4294967296) : rhoN de di ≤ 98303999977114 := by
  have := short_lt de h1
  have := short_lt di h2
  unfold rhoN; omega

def deaf (lp st rc xm R : Nat) : Prop := lp = 3 ∨ 15 < st ∨ rc = 0 ∨ xm = 0 ∨ 16000000000 < R
instance (lp st rc xm R : Nat) : Decidable (deaf lp st rc xm R) := by unfold deaf; exact inferInstance
/-- the first error. -/
def testN (lp mo st rc xm R : Nat) : Nat := if mo ≠ 4 then 22 else if st = 0 then 23 else if deaf lp st rc xm R then 24 else 0

/-- a number's bytes without those that are 0 at its end. -/
def codeL (r : Nat) : List Nat :=
  if r % 256 ≠ 0 then [r / 16777216, r / 65536 % 256, r / 256 % 256, r % 256]
  else if r / 256 % 256 ≠ 0 then [r / 16777216, r / 65536 % 256, r / 256 % 256]
  else if r / 65536 % 256 ≠ 0 then [r / 16777216, r / 65536 % 256]
  else if r / 16777216 ≠ 0 then [r / 16777216] else []
theorem code_byt {r : Nat} (h : r < 4294967296) : ∀ x ∈ codeL r, x < 256 := by
  intro x hx
  unfold codeL at hx
  split at hx
  · simp at hx; omega
  · split at hx
    · simp at hx; omega
    · split at hx
      · simp at hx; omega
      · split at hx
        · simp at hx; omega
        · cases hx
theorem code_len (r : Nat) : (codeL r).length ≤ 4 := by
  unfold codeL
  repeat' split
  all_goals simp
/-- a code's last byte is not 0. -/
theorem code_last {r : Nat} : ∀ x, (codeL r)[(codeL r).length - 1]? = some x → x ≠ 0 := by
  intro x
  unfold codeL
  split
  · rename_i h; intro e; simp at e; omega
  · split
    · rename_i h; intro e; simp at e; omega
    · split
      · rename_i h; intro e; simp at e; omega
      · split
        · rename_i h; intro e; simp at e; omega
        · intro e; simp at e

def fourL (r : Nat) : List Nat := [r / 16777216, r / 65536 % 256, r / 256 % 256, r % 256]

/-- a number's bytes, the highest one first, none ahead that is 0. -/
def bigL (m : Nat) : List Nat :=
  if m = 0 then [] else if m < 256 then [m] else if m < 65536 then [m / 256, m % 256] else if m < 16777216 then [m / 65536, m / 256 % 256, m % 256] else [m / 16777216, m / 65536 % 256, m / 256 % 256, m % 256]
/-- the 00s ahead of a number that is not 0. -/
def frontL (r : Nat) : List Nat := if r = 0 then [] else if r < 256 then [0, 0, 0] else if r < 65536 then [0, 0] else if r < 16777216 then [0] else []

theorem big_step {m : Nat} (h : m < 4294967296) (h0 : 0 < m) : bigL m = bigL (m / 256) ++ [m % 256] := by
  unfold bigL
  by_cases c1 : m < 256
  · rw [if_neg (by omega), if_pos c1, if_pos (by omega)]; simp; omega
  · by_cases c2 : m < 65536
    · rw [if_neg (by omega), if_neg c1, if_pos c2, if_neg (by omega), if_pos (by omega)]; simp
    · by_cases c3 : m < 16777216
      · rw [if_neg (by omega), if_neg c1, if_neg c2, if_pos c3, if_neg (by omega), if_neg (by omega), if_pos (by omega)]; simp; omega
      · rw [if_neg (by omega), if_neg c1, if_neg c2, if_neg c3, if_neg (by omega), if_neg (by omega), if_neg (by omega), if_pos (by omega)]; simp; omega
theorem front_step {m : Nat} (h : m < 16777216) (h0 : 0 < m) : frontL m = 0 :: frontL (m * 256) := by
  unfold frontL
  by_cases c1 : m < 256
  · rw [if_neg (by omega), if_pos c1, if_neg (by omega), if_neg (by omega), if_pos (by omega)]
  · by_cases c2 : m < 65536
    · rw [if_neg (by omega), if_neg c1, if_pos c2, if_neg (by omega), if_neg (by omega), if_neg (by omega), if_pos (by omega)]
    · rw [if_neg (by omega), if_neg c1, if_neg c2, if_pos h, if_neg (by omega), if_neg (by omega), if_neg (by omega), if_neg (by omega)]
theorem front_end {m : Nat} (h : 16777216 ≤ m) : frontL m = [] := by
  unfold frontL
  rw [if_neg (by omega), if_neg (by omega), if_neg (by omega), if_neg (by omega)]
theorem front_len (r : Nat) : (frontL r).length ≤ 3 := by
  unfold frontL
  repeat' split
  all_goals simp
theorem big_len (r : Nat) : (bigL r).length ≤ 4 := by
  unfold bigL
  repeat' split
  all_goals simp
theorem big_zero : bigL 0 = [] := rfl

/-- what is left of a number without the 00s at its end. -/
def bare (r s : Nat) : Prop := (r = s ∨ r = s * 256 ∨ r = s * 65536 ∨ r = s * 16777216) ∧ (s = 0 ∨ s % 256 ≠ 0)
theorem code_parts {r s : Nat} (hr : r < 4294967296) (h : bare r s) : frontL r ++ bigL s = codeL r := by
  obtain ⟨h, k⟩ := h
  rcases k with rfl | k
  · have : r = 0 := by omega
    subst this; rfl
  rcases h with rfl | rfl | rfl | rfl
  · unfold codeL frontL bigL
    have h0 : ¬ r = 0 := by omega
    simp only [if_pos k, if_neg h0]
    by_cases c1 : r < 256
    · simp only [if_pos c1]; simp; omega
    · simp only [if_neg c1]
      by_cases c2 : r < 65536
      · simp only [if_pos c2]; simp; omega
      · simp only [if_neg c2]
        by_cases c3 : r < 16777216
        · simp only [if_pos c3]; simp; omega
        · simp only [if_neg c3]; rfl
  · unfold codeL frontL bigL
    rw [if_neg (by omega : ¬ (s * 256 % 256 ≠ 0)), if_pos (by omega : s * 256 / 256 % 256 ≠ 0), if_neg (by omega : ¬ s * 256 = 0), if_neg (by omega : ¬ s = 0)]
    by_cases c1 : s < 256
    · rw [if_neg (by omega), if_pos (by omega), if_pos c1]; simp; omega
    · by_cases c2 : s < 65536
      · rw [if_neg (by omega), if_neg (by omega), if_pos (by omega), if_neg c1, if_pos c2]; simp; omega
      · rw [if_neg (by omega), if_neg (by omega), if_neg (by omega), if_neg c1, if_neg c2, if_pos (by omega)]; simp; omega
  · unfold codeL frontL bigL
    rw [if_neg (by omega : ¬ (s * 65536 % 256 ≠ 0)), if_neg (by omega : ¬ (s * 65536 / 256 % 256 ≠ 0)), if_pos (by omega : s * 65536 / 65536 % 256 ≠ 0), if_neg (by omega : ¬ s * 65536 = 0), if_neg (by omega : ¬ s = 0)]
    by_cases c1 : s < 256
    · rw [if_neg (by omega), if_neg (by omega), if_pos (by omega), if_pos c1]; simp; omega
    · rw [if_neg (by omega), if_neg (by omega), if_neg (by omega), if_neg c1, if_pos (by omega)]; simp; omega
  · unfold codeL frontL bigL
    rw [if_neg (by omega : ¬ (s * 16777216 % 256 ≠ 0)), if_neg (by omega : ¬ (s * 16777216 / 256 % 256 ≠ 0)), if_neg (by omega : ¬ (s * 16777216 / 65536 % 256 ≠ 0)), if_pos (by omega : s * 16777216 / 16777216 ≠ 0), if_neg (by omega : ¬ s * 16777216 = 0), if_neg (by omega : ¬ s = 0), if_neg (by omega), if_neg (by omega), if_neg (by omega), if_pos (by omega)]
    simp

/-- a list's last zeros are cut. -/
theorem trim_four {r : Nat} (hr : r < 4294967296) : Lib.trimRightB ((fourL r).map UInt8.ofNat) 0 = (codeL r).map UInt8.ofNat := by
  have z : ∀ x, x < 256 → x ≠ 0 → (UInt8.ofNat x == 0) = false := fun x hx h0 => beq_eq_false_iff_ne.2 fun e => h0 (by
    have := congrArg UInt8.toNat e
    rw [UInt8.toNat_ofNat'] at this
    simp at this
    omega)
  unfold Lib.trimRightB fourL codeL
  by_cases c1 : r % 256 ≠ 0
  · rw [if_pos c1]
    have := z (r % 256) (by omega) c1
    simp [this]
  · have e1 : r % 256 = 0 := by omega
    rw [if_neg c1, e1]
    by_cases c2 : r / 256 % 256 ≠ 0
    · rw [if_pos c2]
      have := z (r / 256 % 256) (by omega) c2
      simp [this]
    · have e2 : r / 256 % 256 = 0 := by omega
      rw [if_neg c2, e2]
      by_cases c3 : r / 65536 % 256 ≠ 0
      · rw [if_pos c3]
        have := z (r / 65536 % 256) (by omega) c3
        simp [this]
      · have e3 : r / 65536 % 256 = 0 := by omega
        rw [if_neg c3, e3]
        by_cases c4 : r / 16777216 ≠ 0
        · rw [if_pos c4]
          have := z (r / 16777216) (by omega) c4
          simp [this]
        · have e4 : r / 16777216 = 0 := by omega
          rw [if_neg c4, e4]
          rfl

/-- a second of one is two halves of a second. -/
theorem short_add (u : Nat) (k : Nat) : shortN (u + 65536 * k) = shortN u + 1000000000 * k := by unfold shortN; omega
theorem rho_disp (de di : Nat) : rhoN de (di + 65536) = rhoN de di + 1000000000 := by
  unfold rhoN
  rw [show di + 65536 = di + 65536 * 1 by omega, short_add]
  omega
theorem rho_delay (de di : Nat) : rhoN (de + 131072) di = rhoN de di + 1000000000 := by
  unfold rhoN
  rw [show de + 131072 = de + 65536 * 2 by omega, short_add]
  omega
theorem short_mono {a b : Nat} (h : a ≤ b) : shortN a ≤ shortN b := by unfold shortN; omega
theorem rho_mono {a b c d : Nat} (h : a ≤ b) (k : c ≤ d) : rhoN a c ≤ rhoN b d := by
  have := short_mono h
  have := short_mono k
  unfold rhoN; omega
end Go.Proofs.SaneM
