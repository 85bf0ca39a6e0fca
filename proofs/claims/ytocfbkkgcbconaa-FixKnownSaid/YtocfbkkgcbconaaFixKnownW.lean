/- The walk of FixKnown: the chapter's examples, and the ends. -/
import Derived.Test.YtocfbkkgcbconaaFixS
namespace Go.Proofs.Ytocfbkkgcbconaa
open Go.ChangeShapes Go.WideShapes Go.ChangeAt Go.RowKit

theorem sqrt_at (n r : Nat) (hn : n < 18446744073709551616) (h : rootN n = r) (w : World) :
    Calls Try.prog 26 #[.int .u64 n] w fun e w' => e = .returned (.int .u64 r) ∧ w = w' := by
  have c := sqrt_any n hn w
  rw [h] at c
  exact c
theorem md_at (a b c q e : Int) (ha : I64 a) (hb : I64 b) (hc : I64 c) (h0 : 0 < c) (hq : outN (quoI (a * b) c false) = q) (he : outE (quoI (a * b) c false) = e) (w : World) :
    Calls Try.prog 23 #[.int .i64 a, .int .i64 b, .int .i64 c] w fun x w' => x = .returned (.tuple #[.int .i64 q, .int .i64 e]) ∧ Out w w' := by
  have h := muldiv_any a b c ha hb hc h0 w
  rw [hq, he] at h
  exact h
theorem mu_at (a b c q e : Int) (ha : I64 a) (hb : I64 b) (hc : I64 c) (h0 : 0 < c) (hq : outN (quoI (a * b) c true) = q) (he : outE (quoI (a * b) c true) = e) (w : World) :
    Calls Try.prog 25 #[.int .i64 a, .int .i64 b, .int .i64 c] w fun x w' => x = .returned (.tuple #[.int .i64 q, .int .i64 e]) ∧ Out w w' := by
  have h := muldivup_any a b c ha hb hc h0 w
  rw [hq, he] at h
  exact h
theorem ml_at (a b q e : Int) (ha : I64 a) (hb : I64 b) (hq : outN (a * b) = q) (he : outE (a * b) = e) (w : World) :
    Calls Try.prog 14 #[.int .i64 a, .int .i64 b] w fun x w' => x = .returned (.tuple #[.int .i64 q, .int .i64 e]) ∧ Out w w' := by
  have h := mul_any a b ha hb w
  rw [hq, he] at h
  exact h

set_option maxHeartbeats 2000000 in
set_option maxRecDepth 100000 in
theorem known_walk (w : World) :
    Calls Try.prog 9 #[] w fun e w' => e = .returned (.bool true) ∧ Grown w w' := by
  have k : ∀ x : Int, -9223372036854775808 ≤ x → x ≤ 9223372036854775807 → I64 x := fun x h g => ⟨h, g⟩
  have c1 := add_no 9223372036854775807 1 (k _ (by omega) (by omega)) (k _ (by omega) (by omega)) (by unfold I64; omega)
  have c2 := sub_no (-9223372036854775808) 1 (k _ (by omega) (by omega)) (k _ (by omega) (by omega)) (by unfold I64; omega)
  have c3 := sub_no 0 (-9223372036854775808) (k _ (by omega) (by omega)) (k _ (by omega) (by omega)) (by unfold I64; omega)
  have c4 : ∀ w, Calls Try.prog 12 #[.int .i64 (-1), .int .i64 (-9223372036854775808)] w fun e w' => e = .returned (.tuple #[.int .i64 9223372036854775807, .int .i64 0]) ∧ w = w' := sub_ok (-1) (-9223372036854775808) (k _ (by omega) (by omega)) (k _ (by omega) (by omega)) (by unfold I64; omega)
  have c5 := ml_at (-9223372036854775808) (-1) 0 20 (k _ (by omega) (by omega)) (k _ (by omega) (by omega)) (by decide +kernel) (by decide +kernel)
  have c6 := ml_at (-4611686018427387904) 2 (-9223372036854775808) 0 (k _ (by omega) (by omega)) (k _ (by omega) (by omega)) (by decide +kernel) (by decide +kernel)
  have c7 := muldiv_arg 1 1 0 (by omega)
  have c8 := muldiv_arg 1 1 (-5) (by omega)
  have c9 := md_at (-9223372036854775808) (-9223372036854775808) 9223372036854775807 0 20 (k _ (by omega) (by omega)) (k _ (by omega) (by omega)) (k _ (by omega) (by omega)) (by omega) (by decide +kernel) (by decide +kernel)
  have c10 := md_at (-9223372036854775808) 1 1 (-9223372036854775808) 0 (k _ (by omega) (by omega)) (k _ (by omega) (by omega)) (k _ (by omega) (by omega)) (by omega) (by decide +kernel) (by decide +kernel)
  have c11 := mu_at 9223372036854775807 9223372036854775807 9223372036854775806 0 20 (k _ (by omega) (by omega)) (k _ (by omega) (by omega)) (k _ (by omega) (by omega)) (by omega) (by decide +kernel) (by decide +kernel)
  have c12 := subsat_lo (-5) 9223372036854775807 (k _ (by omega) (by omega)) (k _ (by omega) (by omega)) (by omega)
  have c13 := subsat_hi 5 (-9223372036854775808) (k _ (by omega) (by omega)) (k _ (by omega) (by omega)) (by omega)
  have c14 : ∀ w, Calls Try.prog 26 #[.int .u64 18446744073709551615] w fun e w' => e = .returned (.int .u64 4294967295) ∧ w = w' := sqrt_at 18446744073709551615 4294967295 (by omega) (by decide +kernel)
  have c15 : ∀ w, Calls Try.prog 26 #[.int .u64 0] w fun e w' => e = .returned (.int .u64 0) ∧ w = w' := sqrt_at 0 0 (by omega) (by decide +kernel)
  have c16 : ∀ w, Calls Try.prog 21 #[.int .i64 (-9223372036854775808)] w fun e w' => e = .returned (.int .i64 9223372036854775807) ∧ w = w' := abs_any (-9223372036854775808) (k _ (by omega) (by omega))
  have c17 := clamp_lo 5 9 3 (by omega)
  have C1 := Lib.hid c1; have C2 := Lib.hid c2; have C3 := Lib.hid c3; have C4 := Lib.hid c4; have C5 := Lib.hid c5; have C6 := Lib.hid c6
  have C7 := Lib.hid c7; have C8 := Lib.hid c8; have C9 := Lib.hid c9; have C10 := Lib.hid c10; have C11 := Lib.hid c11; have C12 := Lib.hid c12
  have C13 := Lib.hid c13; have C14 := Lib.hid c14; have C15 := Lib.hid c15; have C16 := Lib.hid c16; have C17 := Lib.hid c17
  clear c1 c2 c3 c4 c5 c6 c7 c8 c9 c10 c11 c12 c13 c14 c15 c16 c17 k
  go_enter Try.func9, Try.ntmps9
  go_wp2_with fail
  refine (C1.out _).mono ?_; rintro e w' ⟨rfl, rfl⟩
  go_wp2_with fail
  refine (C2.out _).mono ?_; rintro e w' ⟨rfl, rfl⟩
  go_wp2_with fail
  refine (C3.out _).mono ?_; rintro e w' ⟨rfl, rfl⟩
  go_wp2_with fail
  refine (C4.out _).mono ?_; rintro e w' ⟨rfl, rfl⟩
  go_wp2_with fail
  refine (C5.out _).mono ?_; rintro e w1 ⟨rfl, o1⟩
  go_wp2_with fail
  refine (C6.out _).mono ?_; rintro e w2 ⟨rfl, o2⟩
  go_wp2_with fail
  refine (C7.out _).mono ?_; rintro e w' ⟨rfl, rfl⟩
  go_wp2_with fail
  refine (C8.out _).mono ?_; rintro e w' ⟨rfl, rfl⟩
  go_wp2_with fail
  refine (C9.out _).mono ?_; rintro e w3 ⟨rfl, o3⟩
  go_wp2_with fail
  refine (C10.out _).mono ?_; rintro e w4 ⟨rfl, o4⟩
  go_wp2_with fail
  refine (C11.out _).mono ?_; rintro e w5 ⟨rfl, o5⟩
  go_wp2_with fail
  refine (awake_any _).mono ?_; rintro e w6 ⟨rfl, o6⟩
  go_wp2_with fail
  refine (C12.out _).mono ?_; rintro e w' ⟨rfl, rfl⟩
  go_wp2_with fail
  refine (C13.out _).mono ?_; rintro e w' ⟨rfl, rfl⟩
  go_wp2_with fail
  refine (C14.out _).mono ?_; rintro e w' ⟨rfl, rfl⟩
  go_wp2_with fail
  refine (C15.out _).mono ?_; rintro e w' ⟨rfl, rfl⟩
  go_wp2_with fail
  refine (C16.out _).mono ?_; rintro e w' ⟨rfl, rfl⟩
  go_wp2_with fail
  refine (C17.out _).mono ?_; rintro e w' ⟨rfl, rfl⟩
  go_wp2
  go_ret
  exact ⟨rfl, (((((o1.trans o2).trans o3).trans o4).trans o5).trans o6).g⟩
end Go.Proofs.Ytocfbkkgcbconaa
