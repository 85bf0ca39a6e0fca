/- The walk of FixRoots: roots. -/
import Derived.Test.YtocfbkkgcbconaaFixS
namespace Go.Proofs.Ytocfbkkgcbconaa
open Go.ChangeShapes Go.WideShapes Go.ChangeAt Go.RowKit

theorem word_of_wf {x : Int} (h : (Lit.int .u64 x).wf = true) : 0 ≤ x ∧ x < 18446744073709551616 := by
  simp [Lit.wf, IntKind.min, IntKind.max, IntKind.signed, IntKind.bits] at h
  exact ⟨by omega, by omega⟩

theorem sqrt_of (n r : Nat) (hn : n < 18446744073709551616) (h : rootN n = r) (w : World) :
    Calls Try.prog 26 #[.int .u64 n] w fun e w' => e = .returned (.int .u64 r) ∧ w = w' := by
  have c := sqrt_any n hn w
  rw [h] at c
  exact c

theorem sq_le {a b : Nat} (h : a * a < (b + 1) * (b + 1)) : a ≤ b := by
  rcases Nat.lt_or_ge b a with g | g
  · have := Nat.mul_le_mul (show b + 1 ≤ a by omega) (show b + 1 ≤ a by omega)
    omega
  · exact g

theorem root_of_square (k : Nat) (hk : k < 4294967296) : rootN (k * k) = k := by
  have hb : k * k < 18446744073709551616 := by
    have : k * k ≤ 4294967295 * 4294967295 := Nat.mul_le_mul (by omega) (by omega)
    omega
  obtain ⟨h1, h2⟩ := rootN_spec (k * k) hb
  have a : k ≤ rootN (k * k) := sq_le h2
  have b : rootN (k * k) ≤ k := by
    refine sq_le (Nat.lt_of_le_of_lt h1 ?_)
    have := Nat.mul_lt_mul'' (Nat.lt_succ_self k) (Nat.lt_succ_self k)
    exact this
  omega

theorem root_mono (n m : Nat) (hn : n < 18446744073709551616) (hm : m < 18446744073709551616) (h : n ≤ m) : rootN n ≤ rootN m := by
  obtain ⟨h1, _⟩ := rootN_spec n hn
  obtain ⟨_, h2⟩ := rootN_spec m hm
  exact sq_le (by omega)

theorem root_lt (n : Nat) (hn : n < 18446744073709551616) : rootN n < 4294967296 := by
  obtain ⟨h1, _⟩ := rootN_spec n hn
  have : rootN n * rootN n < (4294967295 + 1) * (4294967295 + 1) := by omega
  have := sq_le this
  omega

set_option maxHeartbeats 2000000 in
theorem roots_walk (n m : Nat) (hn : n < 18446744073709551616) (hm : m < 18446744073709551616) (w : World) :
    Calls Try.prog 7 #[.int .u64 n, .int .u64 m] w fun e w' => e = .returned (.bool true) ∧ Grown w w' := by
  obtain ⟨s1, s2⟩ := rootN_spec n hn
  have rl := root_lt n hn
  have rm := root_mono n m hn hm
  obtain ⟨r, hr⟩ : ∃ r, rootN n = r := ⟨_, rfl⟩
  obtain ⟨q, hq⟩ : ∃ q, rootN m = q := ⟨_, rfl⟩
  obtain ⟨k, hk⟩ : ∃ k, m % 4294967296 = k := ⟨_, rfl⟩
  have kl : k < 4294967296 := by rw [← hk]; exact Nat.mod_lt _ (by omega)
  have rk := root_of_square k kl
  obtain ⟨kk, hkk⟩ : ∃ kk, k * k = kk := ⟨_, rfl⟩
  have kkl : kk < 18446744073709551616 := by
    have : k * k ≤ 4294967295 * 4294967295 := Nat.mul_le_mul (by omega) (by omega)
    omega
  obtain ⟨r2, hr2⟩ : ∃ r2, r * r = r2 := ⟨_, rfl⟩
  obtain ⟨t, ht⟩ : ∃ t, t = r + 1 := ⟨_, rfl⟩
  obtain ⟨ph, hph⟩ : ∃ ph, t * t / 18446744073709551616 = ph := ⟨_, rfl⟩
  obtain ⟨pl, hpl⟩ : ∃ pl, t * t % 18446744073709551616 = pl := ⟨_, rfl⟩
  rw [hr] at s1 s2 rl rm
  rw [hq] at rm
  rw [hkk] at rk
  rw [hr2] at s1
  rw [← ht] at s2
  have tw : IntKind.u64.wrap ((r : Int) + 1) = (t : Int) := by rw [IntKind.wrap_u64]; omega
  have kw : (m : Int) % 4294967296 = (k : Int) := by omega
  have kkw : IntKind.u64.wrap ((k : Int) * (k : Int)) = (kk : Int) := by rw [← Int.natCast_mul, hkk, IntKind.wrap_u64]; omega
  have rrw : IntKind.u64.wrap ((r : Int) * (r : Int)) = (r2 : Int) := by rw [← Int.natCast_mul, hr2, IntKind.wrap_u64]; omega
  have n1 : ¬ ((4294967295 : Int) < (r : Int)) := by omega
  have n2 : ¬ ((n : Int) < (r2 : Int)) := by omega
  have HP : Hid (t * t / 18446744073709551616 = ph) := hph
  have HL : Hid (t * t % 18446744073709551616 = pl) := hpl
  have TL : Hid (t < 18446744073709551616) := by unfold Hid; omega
  have alt : (((ph : Int) == 0) = true ∧ ¬ ((pl : Int) ≤ n)) ∨ (((ph : Int) == 0) = false) := by
    rcases Nat.eq_zero_or_pos ph with h | h
    · left
      refine ⟨by simp [h], ?_⟩
      have := Nat.div_add_mod (t * t) 18446744073709551616
      rw [hph, hpl, h] at this
      omega
    · right
      rw [beq_eq_false_iff_ne]; omega
  have HR := Lib.hid hr
  have HQ := Lib.hid hq
  have RK := Lib.hid rk
  have HKK := Lib.hid kkl
  have HM := Lib.hid hm
  have HN := Lib.hid hn
  clear hr hq hk hkk hr2 ht hph hpl s1 s2 rl kl rk kkl hm hn
  rcases alt with ⟨a1, a2⟩ | a1
  · by_cases c : n ≤ m
    · have c1 : (r : Int) ≤ (q : Int) := by have := rm c; omega
      have c2 : (n : Int) ≤ (m : Int) := by omega
      have c3 : r ≤ q := rm c
      clear rm
      go_enter Try.func7, Try.ntmps7
      go_wp2_with fail
      refine (sqrt_of n r HN.out HR.out _).mono ?_; rintro e w' ⟨rfl, rfl⟩
      go_wp2_with fail
      refine (mul64_of t t ph pl TL.out TL.out HP.out HL.out _).mono ?_; rintro e w' ⟨rfl, rfl⟩
      go_wp2_with fail
      refine (awake_any _).mono ?_; rintro e w3 ⟨rfl, o3⟩
      go_wp2_with fail
      refine (sqrt_of kk k HKK.out RK.out _).mono ?_; rintro e w' ⟨rfl, rfl⟩
      go_wp2_with fail
      refine (sqrt_of n r HN.out HR.out _).mono ?_; rintro e w' ⟨rfl, rfl⟩
      go_wp2_with fail
      refine (sqrt_of m q HM.out HQ.out _).mono ?_; rintro e w' ⟨rfl, rfl⟩
      go_wp2
      go_ret
      exact ⟨rfl, o3.g⟩
    · have c2 : ¬ ((n : Int) ≤ (m : Int)) := by omega
      clear rm
      by_cases c3 : r ≤ q
      · have c1 : (r : Int) ≤ (q : Int) := by omega
        go_enter Try.func7, Try.ntmps7
        go_wp2_with fail
        refine (sqrt_of n r HN.out HR.out _).mono ?_; rintro e w' ⟨rfl, rfl⟩
        go_wp2_with fail
        refine (mul64_of t t ph pl TL.out TL.out HP.out HL.out _).mono ?_; rintro e w' ⟨rfl, rfl⟩
        go_wp2_with fail
        refine (awake_any _).mono ?_; rintro e w3 ⟨rfl, o3⟩
        go_wp2_with fail
        refine (sqrt_of kk k HKK.out RK.out _).mono ?_; rintro e w' ⟨rfl, rfl⟩
        go_wp2_with fail
        refine (sqrt_of n r HN.out HR.out _).mono ?_; rintro e w' ⟨rfl, rfl⟩
        go_wp2_with fail
        refine (sqrt_of m q HM.out HQ.out _).mono ?_; rintro e w' ⟨rfl, rfl⟩
        go_wp2
        go_ret
        exact ⟨rfl, o3.g⟩
      · have c1 : ¬ ((r : Int) ≤ (q : Int)) := by omega
        go_enter Try.func7, Try.ntmps7
        go_wp2_with fail
        refine (sqrt_of n r HN.out HR.out _).mono ?_; rintro e w' ⟨rfl, rfl⟩
        go_wp2_with fail
        refine (mul64_of t t ph pl TL.out TL.out HP.out HL.out _).mono ?_; rintro e w' ⟨rfl, rfl⟩
        go_wp2_with fail
        refine (awake_any _).mono ?_; rintro e w3 ⟨rfl, o3⟩
        go_wp2_with fail
        refine (sqrt_of kk k HKK.out RK.out _).mono ?_; rintro e w' ⟨rfl, rfl⟩
        go_wp2_with fail
        refine (sqrt_of n r HN.out HR.out _).mono ?_; rintro e w' ⟨rfl, rfl⟩
        go_wp2_with fail
        refine (sqrt_of m q HM.out HQ.out _).mono ?_; rintro e w' ⟨rfl, rfl⟩
        go_wp2
        go_ret
        exact ⟨rfl, o3.g⟩
  · by_cases c : n ≤ m
    · have c1 : (r : Int) ≤ (q : Int) := by have := rm c; omega
      have c2 : (n : Int) ≤ (m : Int) := by omega
      have c3 : r ≤ q := rm c
      clear rm
      go_enter Try.func7, Try.ntmps7
      go_wp2_with fail
      refine (sqrt_of n r HN.out HR.out _).mono ?_; rintro e w' ⟨rfl, rfl⟩
      go_wp2_with fail
      refine (mul64_of t t ph pl TL.out TL.out HP.out HL.out _).mono ?_; rintro e w' ⟨rfl, rfl⟩
      go_wp2_with fail
      refine (awake_any _).mono ?_; rintro e w3 ⟨rfl, o3⟩
      go_wp2_with fail
      refine (sqrt_of kk k HKK.out RK.out _).mono ?_; rintro e w' ⟨rfl, rfl⟩
      go_wp2_with fail
      refine (sqrt_of n r HN.out HR.out _).mono ?_; rintro e w' ⟨rfl, rfl⟩
      go_wp2_with fail
      refine (sqrt_of m q HM.out HQ.out _).mono ?_; rintro e w' ⟨rfl, rfl⟩
      go_wp2
      go_ret
      exact ⟨rfl, o3.g⟩
    · have c2 : ¬ ((n : Int) ≤ (m : Int)) := by omega
      clear rm
      by_cases c3 : r ≤ q
      · have c1 : (r : Int) ≤ (q : Int) := by omega
        go_enter Try.func7, Try.ntmps7
        go_wp2_with fail
        refine (sqrt_of n r HN.out HR.out _).mono ?_; rintro e w' ⟨rfl, rfl⟩
        go_wp2_with fail
        refine (mul64_of t t ph pl TL.out TL.out HP.out HL.out _).mono ?_; rintro e w' ⟨rfl, rfl⟩
        go_wp2_with fail
        refine (awake_any _).mono ?_; rintro e w3 ⟨rfl, o3⟩
        go_wp2_with fail
        refine (sqrt_of kk k HKK.out RK.out _).mono ?_; rintro e w' ⟨rfl, rfl⟩
        go_wp2_with fail
        refine (sqrt_of n r HN.out HR.out _).mono ?_; rintro e w' ⟨rfl, rfl⟩
        go_wp2_with fail
        refine (sqrt_of m q HM.out HQ.out _).mono ?_; rintro e w' ⟨rfl, rfl⟩
        go_wp2
        go_ret
        exact ⟨rfl, o3.g⟩
      · have c1 : ¬ ((r : Int) ≤ (q : Int)) := by omega
        go_enter Try.func7, Try.ntmps7
        go_wp2_with fail
        refine (sqrt_of n r HN.out HR.out _).mono ?_; rintro e w' ⟨rfl, rfl⟩
        go_wp2_with fail
        refine (mul64_of t t ph pl TL.out TL.out HP.out HL.out _).mono ?_; rintro e w' ⟨rfl, rfl⟩
        go_wp2_with fail
        refine (awake_any _).mono ?_; rintro e w3 ⟨rfl, o3⟩
        go_wp2_with fail
        refine (sqrt_of kk k HKK.out RK.out _).mono ?_; rintro e w' ⟨rfl, rfl⟩
        go_wp2_with fail
        refine (sqrt_of n r HN.out HR.out _).mono ?_; rintro e w' ⟨rfl, rfl⟩
        go_wp2_with fail
        refine (sqrt_of m q HM.out HQ.out _).mono ?_; rintro e w' ⟨rfl, rfl⟩
        go_wp2
        go_ret
        exact ⟨rfl, o3.g⟩
end Go.Proofs.Ytocfbkkgcbconaa
