/- Contracts of package fix (layer 1): roots, Clamp; what the examples of the chapter come to. -/
import Derived.Test.YtocfbkkgcbconaaFixR
import Derived.LoopTactic
namespace Go.Proofs.Ytocfbkkgcbconaa
open Go.ChangeShapes Go.WideShapes Go.ChangeAt Go.RowKit

theorem clamp_lo (a lo hi : Int) (h : a < lo) (w : World) :
    Calls Try.prog 31 #[.int .i64 a, .int .i64 lo, .int .i64 hi] w fun e w' => e = .returned (.int .i64 lo) ∧ w = w' := by
  go_enter Try.func31, Try.ntmps31
  go_wp2
  go_ret
  exact ⟨rfl, rfl⟩
theorem clamp_hi (a lo hi : Int) (h : lo ≤ a) (h' : hi < a) (w : World) :
    Calls Try.prog 31 #[.int .i64 a, .int .i64 lo, .int .i64 hi] w fun e w' => e = .returned (.int .i64 hi) ∧ w = w' := by
  go_enter Try.func31, Try.ntmps31
  go_wp2
  go_ret
  exact ⟨rfl, rfl⟩
theorem clamp_mid (a lo hi : Int) (h : lo ≤ a) (h' : a ≤ hi) (w : World) :
    Calls Try.prog 31 #[.int .i64 a, .int .i64 lo, .int .i64 hi] w fun e w' => e = .returned (.int .i64 a) ∧ w = w' := by
  go_enter Try.func31, Try.ntmps31
  go_wp2
  go_ret
  exact ⟨rfl, rfl⟩

/-- The root, bit by bit. -/
def rootFrom : Nat → Nat → Nat → Nat
  | 0, _, r => r
  | k + 1, n, r => rootFrom k n (if (r + 2 ^ k) * (r + 2 ^ k) ≤ n then r + 2 ^ k else r)
def rootN (n : Nat) : Nat := rootFrom 32 n 0

theorem rootFrom_spec (n : Nat) : ∀ k r, r * r ≤ n → n < (r + 2 ^ k) * (r + 2 ^ k) → rootFrom k n r * rootFrom k n r ≤ n ∧ n < (rootFrom k n r + 1) * (rootFrom k n r + 1)
  | 0, r, h, h' => by simpa [rootFrom] using ⟨h, h'⟩
  | k + 1, r, h, h' => by
    have e : (2 : Nat) ^ (k + 1) = 2 ^ k + 2 ^ k := by rw [Nat.pow_succ]; omega
    unfold rootFrom
    split
    · rename_i c
      exact rootFrom_spec n k _ c (by rw [e, ← Nat.add_assoc] at h'; exact h')
    · rename_i c
      exact rootFrom_spec n k _ h (by omega)

theorem rootN_spec (n : Nat) (hn : n < 18446744073709551616) : rootN n * rootN n ≤ n ∧ n < (rootN n + 1) * (rootN n + 1) :=
  rootFrom_spec n 32 0 (by omega) (by omega)

theorem root_or (r k : Nat) (hk : k < 32) (hr : r % 2 ^ (k + 1) = 0) (hb : r < 4294967296) : bits .or .u64 (r : Int) ((2 ^ k : Nat) : Int) = ((r + 2 ^ k : Nat) : Int) := by
  have p : 2 ^ k < 2 ^ 32 := Nat.pow_lt_pow_right (by omega) hk
  rw [bits_or_u64_nat _ _ (by omega) (by omega)]
  obtain ⟨m, rfl⟩ : ∃ m, r = 2 ^ (k + 1) * m := ⟨r / 2 ^ (k + 1), by have := Nat.div_add_mod r (2 ^ (k + 1)); omega⟩
  rw [Nat.two_pow_add_eq_or_of_lt (by rw [Nat.pow_succ]; have := Nat.two_pow_pos k; omega)]

theorem root_next (r k : Nat) (hr : r % 2 ^ (k + 1) = 0) : r % 2 ^ k = 0 ∧ (r + 2 ^ k) % 2 ^ k = 0 := by
  have d : 2 ^ k ∣ r := Nat.dvd_trans (Nat.pow_dvd_pow 2 (Nat.le_succ k)) (Nat.dvd_of_mod_eq_zero hr)
  exact ⟨Nat.mod_eq_zero_of_dvd d, Nat.mod_eq_zero_of_dvd (Nat.dvd_add d (Nat.dvd_refl _))⟩

def bitOf (k : Nat) : Nat := if k = 0 then 0 else 2 ^ (k - 1)
theorem bitOf_succ (k : Nat) : bitOf (k + 1) = 2 ^ k := by unfold bitOf; rw [if_neg (by omega)]; rfl
theorem bitOf_half (k : Nat) : 2 ^ k / 2 = bitOf k := by
  unfold bitOf
  rcases k with _ | k
  · rfl
  · rw [if_neg (by omega), Nat.pow_succ, Nat.add_sub_cancel]; omega
structure SqRel (n x k : Nat) : Prop where
  b : k ≤ 32
  r : rootFrom k n x = rootN n
  m : x % 2 ^ k = 0
  t : x + 2 ^ k ≤ 4294967296

set_option maxHeartbeats 800000 in
theorem sqrt_any (n : Nat) (hn : n < 18446744073709551616) (w : World) :
    Calls Try.prog 26 #[.int .u64 n] w fun e w' => e = .returned (.int .u64 (rootN n : Nat)) ∧ w = w' := by
  have HN := Lib.hid hn
  clear hn
  go_enter Try.func26, Try.ntmps26
  go_wp2
  go_loop [3, 4] (fun r b => ∃ x k : Nat, r = .int .u64 x ∧ b = .int .u64 (bitOf k : Nat) ∧ SqRel n x k) (fun _ b => (intOf b).toNat)
  case atStart => exact ⟨0, 32, rfl, rfl, ⟨by omega, rfl, rfl, by omega⟩⟩
  case round =>
    obtain ⟨x, k, rfl, rfl, h⟩ := hrel
    have HR := Lib.hid h
    clear h
    rcases k with _ | k
    · have e0 : bitOf 0 = 0 := rfl
      go_wp2
      go_ret
      exact ⟨ret_int (congrArg Int.ofNat HR.out.r), rfl⟩
    · have p : 0 < 2 ^ k := Nat.two_pow_pos k
      have t1 := HR.out.t
      have pe : (2 : Nat) ^ (k + 1) = 2 ^ k + 2 ^ k := by rw [Nat.pow_succ]; omega
      have o1 := root_or x k (by have := HR.out.b; omega) HR.out.m (by omega)
      have hs := bitOf_succ k
      have hh := bitOf_half k
      have rn := root_next x k HR.out.m
      have ru := HR.out.r
      rw [rootFrom] at ru
      obtain ⟨B, hB⟩ : ∃ B, B = 2 ^ k := ⟨_, rfl⟩
      obtain ⟨b', hb'⟩ : ∃ b', b' = bitOf k := ⟨_, rfl⟩
      obtain ⟨C, hC⟩ : ∃ C, C = bitOf (k + 1) := ⟨_, rfl⟩
      obtain ⟨t, ht⟩ : ∃ t, t = x + B := ⟨_, rfl⟩
      obtain ⟨s, hs'⟩ : ∃ s, s = t * t := ⟨_, rfl⟩
      rw [← hB] at p o1 hs hh rn ru pe
      rw [pe] at t1
      rw [← hb'] at hh
      rw [← hC] at hs ⊢
      rw [← ht] at o1 rn ru
      rw [← hs'] at ru
      subst hs
      have tl : t < 4294967296 := by omega
      have sl : s < 18446744073709551616 := by
        have : t * t ≤ 4294967295 * 4294967295 := Nat.mul_le_mul (by omega) (by omega)
        omega
      have w1 : IntKind.u64.wrap ((t : Int) * (t : Int)) = (s : Int) := by rw [← Int.natCast_mul, ← hs', IntKind.wrap_u64]; omega
      have w2 : (C : Int) / 2 = (b' : Int) := by omega
      have p' : 0 < (C : Int) := by omega
      have LT : Hid (b' < C) := by unfold Hid; omega
      have BB : Hid (b' = bitOf k) := hb'
      have hk := HR.out.b
      by_cases c : s ≤ n
      · have R : Hid (SqRel n t k) := ⟨by omega, by rw [if_pos c] at ru; exact ru, by rw [← hB]; exact rn.2, by rw [← hB]; omega⟩
        have c' : (s : Int) ≤ (n : Int) := by omega
        clear c p t1 pe ht hs' hb' hC hh rn ru tl sl hk hB HR
        go_wp2
        go_round
        case rel => exact ⟨t, k, rfl, by rw [BB.out], R.out⟩
        case measure => have := LT.out; simp [intOf]; omega
      · have R : Hid (SqRel n x k) := ⟨by omega, by rw [if_neg c] at ru; exact ru, by rw [← hB]; exact rn.1, by rw [← hB]; omega⟩
        have c' : ¬ ((s : Int) ≤ (n : Int)) := by omega
        clear c p t1 pe ht hs' hb' hC hh rn ru tl sl hk hB HR
        go_wp2
        go_round
        case rel => exact ⟨x, k, rfl, by rw [BB.out], R.out⟩
        case measure => have := LT.out; simp [intOf]; omega

theorem sqrt15 (w : World) : Calls Try.prog 26 #[.int .u64 15] w fun e w' => e = .returned (.int .u64 3) ∧ w = w' := by
  have e : rootN 15 = 3 := by decide +kernel
  have h := sqrt_any 15 (by omega) w
  rw [e] at h
  exact h
theorem sqrt16 (w : World) : Calls Try.prog 26 #[.int .u64 16] w fun e w' => e = .returned (.int .u64 4) ∧ w = w' := by
  have e : rootN 16 = 4 := by decide +kernel
  have h := sqrt_any 16 (by omega) w
  rw [e] at h
  exact h

theorem md1 (w : World) : Calls Try.prog 23 #[.int .i64 (-7), .int .i64 1, .int .i64 2] w fun e w' => e = .returned (.tuple #[.int .i64 (-4), .int .i64 0]) ∧ Out w w' := muldiv_any (-7) 1 2 (by unfold I64; omega) (by unfold I64; omega) (by unfold I64; omega) (by omega) w
theorem md2 (w : World) : Calls Try.prog 25 #[.int .i64 (-7), .int .i64 1, .int .i64 2] w fun e w' => e = .returned (.tuple #[.int .i64 (-3), .int .i64 0]) ∧ Out w w' := muldivup_any (-7) 1 2 (by unfold I64; omega) (by unfold I64; omega) (by unfold I64; omega) (by omega) w
theorem md3 (w : World) : Calls Try.prog 23 #[.int .i64 4611686018427387904, .int .i64 4, .int .i64 8] w fun e w' => e = .returned (.tuple #[.int .i64 2305843009213693952, .int .i64 0]) ∧ Out w w' := by
  have h := muldiv_any 4611686018427387904 4 8 (by unfold I64; omega) (by unfold I64; omega) (by unfold I64; omega) (by omega) w
  have e : quoI (4611686018427387904 * 4) 8 false = 2305843009213693952 := by decide +kernel
  rw [e, outN_ok (by unfold I64; omega), outE_ok (by unfold I64; omega)] at h
  exact h
theorem md4 (w : World) : Calls Try.prog 23 #[.int .i64 4611686018427387904, .int .i64 4, .int .i64 2] w fun e w' => e = .returned (.tuple #[.int .i64 0, .int .i64 20]) ∧ Out w w' := by
  have h := muldiv_any 4611686018427387904 4 2 (by unfold I64; omega) (by unfold I64; omega) (by unfold I64; omega) (by omega) w
  have e : quoI (4611686018427387904 * 4) 2 false = 9223372036854775808 := by decide +kernel
  rw [e, outN_no (by unfold I64; omega), outE_no (by unfold I64; omega)] at h
  exact h
theorem as1 (w : World) : Calls Try.prog 17 #[.int .i64 9223372036854775807, .int .i64 1] w fun e w' => e = .returned (.int .i64 9223372036854775807) ∧ w = w' :=
  addsat_hi 9223372036854775807 1 (by unfold I64; omega) (by unfold I64; omega) (by omega) w

/-- What the chapter's examples say. -/
theorem awake_any (w : World) : Calls Try.prog 16 #[] w fun e w' => e = .returned (.bool true) ∧ Out w w' := by
  go_enter Try.func16, Try.ntmps16
  go_wp2_with fail
  refine (md1 _).mono ?_; rintro e w1 ⟨rfl, o1⟩
  go_wp2_with fail
  refine (md2 _).mono ?_; rintro e w2 ⟨rfl, o2⟩
  go_wp2_with fail
  refine (md3 _).mono ?_; rintro e w3 ⟨rfl, o3⟩
  go_wp2_with fail
  refine (md4 _).mono ?_; rintro e w4 ⟨rfl, o4⟩
  go_wp2_with fail
  refine (sqrt15 _).mono ?_; rintro e w' ⟨rfl, rfl⟩
  go_wp2_with fail
  refine (sqrt16 _).mono ?_; rintro e w' ⟨rfl, rfl⟩
  go_wp2_with fail
  refine (as1 _).mono ?_; rintro e w' ⟨rfl, rfl⟩
  go_wp2
  go_ret
  exact ⟨rfl, ((o1.trans o2).trans o3).trans o4⟩
end Go.Proofs.Ytocfbkkgcbconaa
