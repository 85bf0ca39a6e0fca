/- Contracts of package fix (layer 1): roots, Clamp; what the examples of the chapter come to. -/
import Derived.Test.YtpfbdpoileepoaaFixR
import Derived.LoopTactic
namespace Go.Proofs.Ytpfbdpoileepoaa
open Go.ChangeShapes Go.WideShapes Go.ChangeAt Go.RowKit

theorem clamp_lo (a lo hi : Int) (h : a < lo) (w : World) :
    Calls Try.prog 55 #[.int .i64 a, .int .i64 lo, .int .i64 hi] w fun e w' => e = .returned (.int .i64 lo) ∧ w = w' := by
  go_enter Try.func55, Try.ntmps55
  go_wp2
  go_ret
  exact ⟨rfl, rfl⟩
theorem clamp_hi (a lo hi : Int) (h : lo ≤ a) (h' : hi < a) (w : World) :
    Calls Try.prog 55 #[.int .i64 a, .int .i64 lo, .int .i64 hi] w fun e w' => e = .returned (.int .i64 hi) ∧ w = w' := by
  go_enter Try.func55, Try.ntmps55
  go_wp2
  go_ret
  exact ⟨rfl, rfl⟩
theorem clamp_mid (a lo hi : Int) (h : lo ≤ a) (h' : a ≤ hi) (w : World) :
    Calls Try.prog 55 #[.int .i64 a, .int .i64 lo, .int .i64 hi] w fun e w' => e = .returned (.int .i64 a) ∧ w = w' := by
  go_enter Try.func55, Try.ntmps55
  go_wp2
  go_ret
  exact ⟨rfl, rfl⟩

/-- The root, bit by bit. -/
def rootFrom : Nat → Nat → Nat → Nat
  | 0, _, r => r
  | k + 1, n, r => rootFrom k n (if (r + 2 ^ k) * (r + 2 ^ k) ≤ n then r + 2 ^ k else r)
def rootN (n : Nat) : Nat := rootFrom 32 n 0

theorem rootFrom_spec (n : Nat) : ∀ k r, r * r ≤ n → n < (r + 2 ^ k) * (r + 2 ^ k) → rootFrom k n r * rootFrom k n r ≤ n ∧ n < (rootFrom k n r + 1) * (rootFrom k n r + 1)
  | 0, r, h, h' => by simpa [rootFrom] using ⟨h, h'⟩
  | k + 1, r, h, h' => by
    have e : (2 : Nat) ^ (k + 1) = 2 ^ k + 2 ^ k := by rw [Nat.pow_succ]; omega
    unfold rootFrom
    split
    · rename_i c
      exact rootFrom_spec n k _ c (by rw [e, ← Nat.add_assoc] at h'; exact h')
    · rename_i c
      exact rootFrom_spec n k _ h (by omega)

theorem rootN_spec (n : Nat) (hn : n < 18446744073709551616) : rootN n * rootN n ≤ n ∧ n < (rootN n + 1) * (rootN n + 1) :=
  rootFrom_spec n 32 0 (by omega) (by omega)

theorem root_or (r k : Nat) (hk : k < 32) (hr : r % 2 ^ (k + 1) = 0) (hb : r < 4294967296) : bits .or .u64 (r : Int) ((2 ^ k : Nat) : Int) = ((r + 2 ^ k : Nat) : Int) := by
  have p : 2 ^ k < 2 ^ 32 := Nat.pow_lt_pow_right (by omega) hk
  rw [bits_or_u64_nat _ _ (by omega) (by omega)]
  obtain ⟨m, rfl⟩ : ∃ m, r = 2 ^ (k + 1) * m := ⟨r / 2 ^ (k + 1), by have := Nat.div_add_mod r (2 ^ (k + 1)); omega⟩
  rw [Nat.two_pow_add_eq_or_of_lt (by rw [Nat.pow_succ]; have := Nat.two_pow_pos k; omega)]

theorem root_next (r k : Nat) (hr : r % 2 ^ (k + 1) = 0) : r % 2 ^ k = 0 ∧ (r + 2 ^ k) % 2 ^ k = 0 := by
  have d : 2 ^ k ∣ r := Nat.dvd_trans (Nat.pow_dvd_pow 2 (Nat.le_succ k)) (Nat.dvd_of_mod_eq_zero hr)
  exact ⟨Nat.mod_eq_zero_of_dvd d, Nat.mod_eq_zero_of_dvd (Nat.dvd_add d (Nat.dvd_refl _))⟩

def bitOf (k : Nat) : Nat := if k = 0 then 0 else 2 ^ (k - 1)
theorem bitOf_succ (k : Nat) : bitOf (k + 1) = 2 ^ k := by unfold bitOf; rw [if_neg (by omega)]; rfl
theorem bitOf_half (k : Nat) : 2 ^ k / 2 = bitOf k := by
  unfold bitOf
  rcases k with _ | k
  · rfl
  · rw [if_neg (by omega), Nat.pow_succ, Nat.add_sub_cancel]; omega
structure SqRel (n x k : Nat) : Prop where
  b : k ≤ 32
  r : rootFrom k n x = rootN n
  m : x % 2 ^ k = 0
  t : x + 2 ^ k ≤ 4294967296

theorem md1 (w : World) : Calls Try.prog 57 #[.int .i64 (-7), .int .i64 1, .int .i64 2] w fun e w' => e = .returned (.tuple #[.int .i64 (-4), .int .i64 0]) ∧ Out w w' := muldiv_any (-7) 1 2 (by unfold I64; omega) (by unfold I64; omega) (by unfold I64; omega) (by omega) w
theorem md3 (w : World) : Calls Try.prog 57 #[.int .i64 4611686018427387904, .int .i64 4, .int .i64 8] w fun e w' => e = .returned (.tuple #[.int .i64 2305843009213693952, .int .i64 0]) ∧ Out w w' := by
  have h := muldiv_any 4611686018427387904 4 8 (by unfold I64; omega) (by unfold I64; omega) (by unfold I64; omega) (by omega) w
  have e : quoI (4611686018427387904 * 4) 8 false = 2305843009213693952 := by decide +kernel
  rw [e, outN_ok (by unfold I64; omega), outE_ok (by unfold I64; omega)] at h
  exact h
theorem md4 (w : World) : Calls Try.prog 57 #[.int .i64 4611686018427387904, .int .i64 4, .int .i64 2] w fun e w' => e = .returned (.tuple #[.int .i64 0, .int .i64 20]) ∧ Out w w' := by
  have h := muldiv_any 4611686018427387904 4 2 (by unfold I64; omega) (by unfold I64; omega) (by unfold I64; omega) (by omega) w
  have e : quoI (4611686018427387904 * 4) 2 false = 9223372036854775808 := by decide +kernel
  rw [e, outN_no (by unfold I64; omega), outE_no (by unfold I64; omega)] at h
  exact h
end Go.Proofs.Ytpfbdpoileepoaa

