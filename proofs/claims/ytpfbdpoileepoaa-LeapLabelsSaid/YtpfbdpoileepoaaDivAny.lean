/- Division of two words by one: math/bits.Div64, at every input at which it does not panic; and what fix's product is made of. -/
import Derived.Test.YtpfbdpoileepoaaDiv
import Derived.Test.YtpfbdpoileepoaaShelf
import Derived.RegionTactic
import Derived.Deep.QuietTactic
import Derived.BigQuiet
import Derived.Lib.ItoaNum
namespace Go.Proofs.Ytpfbdpoileepoaa
open Go.ChangeShapes Go.WideShapes Go.ChangeAt Go.RowKit DivM

theorem lz (y : Nat) (hy : 0 < y) (hy2 : y < 18446744073709551616) : ∃ s : Nat, s < 64 ∧ y * 2 ^ s < 18446744073709551616 ∧ 9223372036854775808 ≤ y * 2 ^ s ∧ (64 - (Lib.bitLen y : Int)) = (s : Int) := by
  obtain ⟨a, b, c⟩ := Lib.bitLenAux_bounds 64 y hy2 (by omega)
  change 1 ≤ Lib.bitLen y at a
  change 2 ^ (Lib.bitLen y - 1) ≤ y at b
  change y < 2 ^ Lib.bitLen y at c
  generalize Lib.bitLen y = L at *
  have hL : L ≤ 64 := by
    rcases Nat.lt_or_ge 64 L with h | h
    · have := Nat.pow_le_pow_right (n := 2) (by omega) (show 64 ≤ L - 1 by omega)
      omega
    · exact h
  refine ⟨64 - L, by omega, ?_, ?_, by omega⟩
  · have e : 2 ^ L * 2 ^ (64 - L) = 18446744073709551616 := by rw [← Nat.pow_add, show L + (64 - L) = 64 from by omega]
    have := Nat.mul_lt_mul_of_pos_right c (Nat.two_pow_pos (64 - L))
    omega
  · have e : 2 ^ (L - 1) * 2 ^ (64 - L) = 9223372036854775808 := by rw [← Nat.pow_add, show L - 1 + (64 - L) = 63 from by omega]
    have := Nat.mul_le_mul_right (2 ^ (64 - L)) b
    omega

theorem div64_low (lo y : Nat) (h0 : 0 < y) (h2 : lo < 18446744073709551616) (h3 : y < 18446744073709551616) (w : World) :
    Calls Try.prog 61 #[.int .u64 0, .int .u64 lo, .int .u64 y] w fun e w' => e = .returned (.tuple #[.int .u64 (lo / y : Nat), .int .u64 (lo % y : Nat)]) ∧ ∃ n, w' = w.drewN n := by
  have n1 : ((y : Int) == 0) = false := by rw [beq_eq_false_iff_ne]; omega
  have n2 : ¬ y = 0 := by omega
  have n3 : ¬ ((y : Int) = 0) := by omega
  have e1 : (lo : Int) / (y : Int) = ((lo / y : Nat) : Int) := by simp
  have e2 : (lo : Int) % (y : Int) = ((lo % y : Nat) : Int) := by simp
  obtain ⟨q, hq⟩ : ∃ k, k = lo / y := ⟨_, rfl⟩
  obtain ⟨r, hr⟩ : ∃ k, k = lo % y := ⟨_, rfl⟩
  rw [← hq] at e1 ⊢
  rw [← hr] at e2 ⊢
  have q1 : IntKind.u64.wrap (q : Int) = (q : Int) := by
    rw [IntKind.wrap_u64]
    have : q ≤ lo := by rw [hq]; exact Nat.div_le_self _ _
    omega
  have r1 : IntKind.u64.wrap (r : Int) = (r : Int) := by
    rw [IntKind.wrap_u64]
    have : r ≤ lo := by rw [hr]; exact Nat.mod_le _ _
    omega
  clear hq hr
  go_enter Try.func61, Try.ntmps61
  go_wp2
  go_quiet (fail)
  go_wp2
  go_ret2
  exact ⟨ret_pair rfl e2, _, rfl⟩

theorem lz_call (y s : Nat) (hy2 : y < 18446744073709551616) (h : (64 - (Lib.bitLen y : Int)) = (s : Int)) (w : World) :
    Calls Try.prog 64 #[.int .u64 y] w fun e w' => e = .returned (.int .i64 s) ∧ w = w' := by
  refine (Try.bits_LeadingZeros64 (y : Int) w (by omega) (by omega)).mono ?_
  rintro e w' ⟨rfl, rfl⟩
  rw [Int.toNat_natCast, h]
  exact ⟨rfl, rfl⟩

theorem div64_high (hi lo y : Nat) (h0 : 0 < hi) (h1 : hi < y) (h2 : lo < 18446744073709551616) (h3 : y < 18446744073709551616) (w : World) :
    Calls Try.prog 61 #[.int .u64 hi, .int .u64 lo, .int .u64 y] w fun e w' => e = .returned (.tuple #[.int .u64 ((hi * 18446744073709551616 + lo) / y : Nat), .int .u64 ((hi * 18446744073709551616 + lo) % y : Nat)]) ∧ w = w' := by
  obtain ⟨s, hs, hV, hG, hz⟩ := lz y (by omega) h3
  obtain ⟨m1, m2, m3, m4⟩ := moved hi lo y s hs h1 h2 hV
  obtain ⟨b1, b2⟩ := both hi lo y s _ (y * 2 ^ s) _ rfl m3
  rw [← b1, ← b2]
  have p : 0 < 2 ^ s := Nat.two_pow_pos s
  have ho := or_add hi (lo / 2 ^ (64 - s)) s m2
  have cp : ((2 : Int) ^ s) = ((2 ^ s : Nat) : Int) := by simp
  have cq : ((2 : Int) ^ (64 - s)) = ((2 ^ (64 - s) : Nat) : Int) := by simp
  generalize hV' : y * 2 ^ s = V at *
  generalize hA : hi * 2 ^ s = A at *
  generalize hB : lo / 2 ^ (64 - s) = Bv at *
  generalize hL : lo * 2 ^ s % 18446744073709551616 = L at *
  have hl : L < 18446744073709551616 := by rw [← hL]; exact Nat.mod_lt _ (by omega)
  obtain ⟨v1, hv1⟩ : ∃ k, k = V / 4294967296 := ⟨_, rfl⟩
  obtain ⟨v0, hv0⟩ : ∃ k, k = V % 4294967296 := ⟨_, rfl⟩
  obtain ⟨d1, hd1⟩ : ∃ k, k = L / 4294967296 := ⟨_, rfl⟩
  obtain ⟨d0, hd0⟩ : ∃ k, k = L % 4294967296 := ⟨_, rfl⟩
  obtain ⟨U, hU⟩ : ∃ k, k = A + Bv := ⟨_, rfl⟩
  rw [← hU] at ho m4 ⊢
  have n : Norm V v1 v0 := ⟨by omega, by omega, by omega, by omega⟩
  obtain ⟨st, st2⟩ := DivM.start (d := d1) n m4 (by omega)
  obtain ⟨qa, hqa⟩ : ∃ k, k = U / v1 := ⟨_, rfl⟩
  obtain ⟨ra, hra⟩ : ∃ k, k = U % v1 := ⟨_, rfl⟩
  rw [← hqa, ← hra] at st
  rw [← hra] at st2
  have s1 := st.sum
  have s2 := st.hi
  have E1 : IntKind.u64.wrap ((y : Int) * 2 ^ s) = (V : Int) := by rw [cp, ← Int.natCast_mul, hV', IntKind.wrap_u64]; omega
  have E3 : bits .and .u64 (V : Int) 4294967295 = (v0 : Int) := by rw [hv0]; exact Go.Proofs.Mul64.maskN V hV
  have E4 : IntKind.u64.wrap ((hi : Int) * 2 ^ s) = (A : Int) := by rw [cp, ← Int.natCast_mul, hA, IntKind.wrap_u64]; omega
  have E5 : (lo : Int) / 2 ^ (64 - s) = (Bv : Int) := by rw [cq, ← hB]; simp
  have E6 : bits .or .u64 (A : Int) (Bv : Int) = (U : Int) := by rw [bits_or_u64_nat _ _ m1 (by omega), ho]
  have E7 : IntKind.u64.wrap ((lo : Int) * 2 ^ s) = (L : Int) := by rw [cp, ← Int.natCast_mul, IntKind.wrap_u64, ← hL]; omega
  have E9 : bits .and .u64 (L : Int) 4294967295 = (d0 : Int) := by rw [hd0]; exact Go.Proofs.Mul64.maskN L hl
  have E10 : (U : Int) / (v1 : Int) = (qa : Int) := by rw [hqa]; simp
  have E10b : IntKind.u64.wrap (qa : Int) = (qa : Int) := by rw [IntKind.wrap_u64]; omega
  have E11 : IntKind.u64.wrap ((U : Int) - IntKind.u64.wrap ((qa : Int) * v1)) = (ra : Int) := by
    simp only [IntKind.wrap_u64]
    rw [← Int.natCast_mul]
    omega
  have E2 : (V : Int) / 4294967296 = (v1 : Int) := by omega
  have E8 : (L : Int) / 4294967296 = (d1 : Int) := by omega
  have D1 : d1 < 4294967296 := by omega
  have D0 : d0 < 4294967296 := by omega
  have EL : d1 * 4294967296 + d0 = L := by rw [hd1, hd0, Nat.mul_comm]; exact Nat.div_add_mod L 4294967296
  have EL0 : Hid (d1 * 4294967296 + d0 = L) := EL
  clear s1 s2 hU hd1 hd0 hv1 hv0 hqa hra ho b1 b2 m1 m2 m3 hB hL hA hV' EL cp cq
  exact div64_core hi lo y s V v1 v0 A Bv U L d1 d0 qa ra h1 h0 hs w (fun w => lz_call y s h3 hz w) n m4 D1 D0 hV E1 E2 E3 E4 E5 E6 E7 E8 E9 E10 EL0 E10b E11 st st2

theorem div64_any (hi lo y : Nat) (h1 : hi < y) (h2 : lo < 18446744073709551616) (h3 : y < 18446744073709551616) (w : World) :
    Calls Try.prog 61 #[.int .u64 hi, .int .u64 lo, .int .u64 y] w fun e w' => e = .returned (.tuple #[.int .u64 ((hi * 18446744073709551616 + lo) / y : Nat), .int .u64 ((hi * 18446744073709551616 + lo) % y : Nat)]) ∧ ∃ n, w' = w.drewN n := by
  rcases Nat.eq_zero_or_pos hi with rfl | h
  · rw [Nat.zero_mul, Nat.zero_add]
    exact div64_low lo y h1 h2 h3 w
  · refine (div64_high hi lo y h h1 h2 h3 w).mono ?_
    rintro e w' ⟨rfl, rfl⟩
    exact ⟨rfl, 0, rfl⟩
end Go.Proofs.Ytpfbdpoileepoaa

