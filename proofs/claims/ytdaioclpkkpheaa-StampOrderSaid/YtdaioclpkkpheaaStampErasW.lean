/- The walk of StampEras: a stamp, by a pivot an era later. -/
import Derived.Test.YtdaioclpkkpheaaStampW
import Derived.Test.YtdaioclpkkpheaaStampN
namespace Go.Proofs.Ytdaioclpkkpheaa
open Go.ChangeShapes Go.WideShapes Go.ChangeAt Go.RowKit StampM

/-- A mask of low bits, of a number of whatever sign. -/
theorem low_bits (x : Int) (k : Nat) (hk : k < 63) (mask m : Int) (hm : mask = 2 ^ k - 1) (hx : x % 2 ^ k = m) : bits .and .i64 x mask = m := by
  have e : (BitVec.ofInt 64 mask).toNat = 2 ^ k - 1 := by
    have p : 2 ^ k < 2 ^ 64 := Nat.pow_lt_pow_right (by omega) (by omega)
    have q : 0 < 2 ^ k := Nat.two_pow_pos k
    rw [hm, BitVec.toNat_ofInt]
    rw [show ((2 : Int) ^ k - 1) = ((2 ^ k - 1 : Nat) : Int) by rw [Int.ofNat_sub q]; simp]
    rw [← Int.natCast_emod, Int.toNat_natCast]
    exact Nat.mod_eq_of_lt (by omega)
  have f : (BitVec.ofInt 64 x &&& BitVec.ofInt 64 mask).toNat = (x % ((2 ^ 64 : Nat) : Int)).toNat % 2 ^ k := by
    rw [BitVec.toNat_and, e, BitVec.toNat_ofInt, Nat.and_two_pow_sub_one_eq_mod]
  show IntKind.i64.wrap ((BitVec.ofInt 64 x &&& BitVec.ofInt 64 mask).toNat : Nat) = m
  have b : (x % ((2 ^ 64 : Nat) : Int)).toNat % 2 ^ k < 2 ^ 63 := Nat.lt_trans (Nat.mod_lt _ (Nat.two_pow_pos k)) (Nat.pow_lt_pow_right (by omega) hk)
  have d : (2 ^ k : Nat) ∣ 2 ^ 64 := Nat.pow_dvd_pow 2 (by omega)
  have g : (((x % ((2 ^ 64 : Nat) : Int)).toNat % 2 ^ k : Nat) : Int) = m := by
    rw [Int.natCast_emod, Int.toNat_of_nonneg (Int.emod_nonneg _ (by decide)), ← hx]
    rw [Int.emod_emod_of_dvd _ (Int.natCast_dvd_natCast.2 d)]
    simp
  rw [f, ← g]
  generalize (x % ((2 ^ 64 : Nat) : Int)).toNat % 2 ^ k = z at *
  rw [IntKind.wrap_i64]
  omega

set_option maxHeartbeats 1600000 in
theorem eras_core (u : Nat) (p P X Y e : Int) (o f A B : Nat) (hu : Hid (u < 18446744073709551616)) (ob : Hid (o < 4294967296)) (fb : Hid (f < 18446744073709551616))
    (m : bits .and .i64 p 288230376151711743 = P) (p0 : 0 ≤ P) (p1 : P < 288230376151711744) (hX : Hid (stampNsN u P = X)) (hY : Hid (stampNsN u (P + 4294967296000000000) = Y))
    (e1 : X + 4294967296000000000 = Y) (x1 : X - P ≤ 2147483648000000000) (x2 : P - X ≤ 2147483648000000000) (x3 : -4294967296000000000 ≤ X) (x4 : X ≤ 4294967296000000000) (y1 : I64 Y)
    (hd : Hid (eraN Y = e ∧ offN Y = o ∧ fracN Y = f)) (hA : Hid (cutN o f = A)) (hB : Hid (stampN Y = B)) (ab : (A : Int) ≤ B) (ab' : (B : Int) ≤ (A : Int) + 1) (w : World) :
    Calls Try.prog 6 #[.int .u64 u, .int .i64 p] w fun e w' => e = .returned (.bool true) ∧ Grown w w' := by
  have P1 : Hid (I64 P) := i64_mk _ (by omega) (by omega)
  have P2 : Hid (I64 (P + 4294967296000000000)) := i64_mk _ (by omega) (by omega)
  have Y1 := Lib.hid y1
  have n1 : (Y != Y) = false := by simp
  have n2 : decide (2147483648000000000 < X - P) = false := by simp; omega
  have n3 : decide (2147483648000000000 < P - X) = false := by simp; omega
  have n4 : decide ((B : Int) - (A : Int) < 2) = true := by simp; omega
  clear y1
  go_enter Try.func6, Try.ntmps6
  go_wp2_with fail
  refine (stampns_at u P X hu.out P1.out hX.out _).mono ?_; rintro e w1 ⟨rfl, o1⟩
  go_wp2_with fail
  refine (stampns_at u (P + 4294967296000000000) Y hu.out P2.out hY.out _).mono ?_; rintro e w2 ⟨rfl, o2⟩
  go_wp2_with fail
  refine (nsdate_at Y _ o f Y1.out hd.out _).mono ?_; rintro e w3 ⟨rfl, o3⟩
  go_wp2_with fail
  refine (stamp_any _ o f ob.out fb.out _).mono ?_; rintro e w4 ⟨rfl, o4⟩
  go_wp2_with fail
  refine (stamp_at Y B Y1.out hB.out _).mono ?_; rintro e w5 ⟨rfl, rfl⟩
  have hA' := hA.out
  go_wp2_with fail
  refine (wakes_any _).mono ?_; rintro e w6 ⟨rfl, o6⟩
  go_wp2
  go_ret
  exact ⟨rfl, ((((o1.trans o2).trans o3).trans o4).trans o6).g⟩

theorem eras_walk (u : Nat) (p : Int) (hu : u < 18446744073709551616) (w : World) :
    Calls Try.prog 6 #[.int .u64 u, .int .i64 p] w fun e w' => e = .returned (.bool true) ∧ Grown w w' := by
  obtain ⟨P, hP⟩ : ∃ P, P = p % 288230376151711744 := ⟨_, rfl⟩
  have p0 : 0 ≤ P := by omega
  have p1 : P < 288230376151711744 := by omega
  obtain ⟨s1, s2, s3, s4, s5⟩ := eras_shift u P hu p0 p1
  obtain ⟨X, hX⟩ : ∃ X, stampNsN u P = X := ⟨_, rfl⟩
  rw [hX] at s1 s2 s3 s4 s5
  have sd := stamp_date (X + 4294967296000000000)
  exact eras_core u p P X _ _ _ _ _ _ hu (off_lt _) (frac_lt _) (low_bits p 58 (by omega) _ _ (by decide) (by rw [hP]; rfl)) p0 p1 hX s1 rfl s2 s3 s4 s5 (i64_mk _ (by omega) (by omega)) ⟨rfl, rfl, rfl⟩ rfl rfl (by omega) (by omega) w
end Go.Proofs.Ytdaioclpkkpheaa
