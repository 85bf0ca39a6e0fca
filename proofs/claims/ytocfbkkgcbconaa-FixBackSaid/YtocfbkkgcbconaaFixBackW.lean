/- The walk of FixBack: what is added and taken away again. -/
import Derived.Test.YtocfbkkgcbconaaFixS
namespace Go.Proofs.Ytocfbkkgcbconaa
open Go.ChangeShapes Go.WideShapes Go.ChangeAt Go.RowKit

theorem quo_same (a b : Int) (up : Bool) (hb : 0 < b) : quoI (a * b) b up = a := by
  cases up
  · simp only [quoI]
    exact Int.mul_ediv_cancel a (by omega)
  · simp only [quoI, if_true]
    rw [← Int.neg_mul, Int.mul_ediv_cancel _ (by omega)]
    omega

theorem md_same (a b : Int) (ha : I64 a) (hb : I64 b) (h : 0 < b) (w : World) :
    Calls Try.prog 23 #[.int .i64 a, .int .i64 b, .int .i64 b] w fun e w' => e = .returned (.tuple #[.int .i64 a, .int .i64 0]) ∧ Out w w' := by
  have c := muldiv_any a b b ha hb hb h w
  rw [quo_same a b _ h, outN_ok ha, outE_ok ha] at c
  exact c
theorem mu_same (a b : Int) (ha : I64 a) (hb : I64 b) (h : 0 < b) (w : World) :
    Calls Try.prog 25 #[.int .i64 a, .int .i64 b, .int .i64 b] w fun e w' => e = .returned (.tuple #[.int .i64 a, .int .i64 0]) ∧ Out w w' := by
  have c := muldivup_any a b b ha hb hb h w
  rw [quo_same a b _ h, outN_ok ha, outE_ok ha] at c
  exact c
theorem abs_of (a : Int) (ha : I64 a) (w : World) :
    Calls Try.prog 21 #[.int .i64 a] w fun e w' => ∃ k : Int, 0 ≤ k ∧ e = .returned (.int .i64 k) ∧ w = w' := by
  refine (abs_any a ha w).mono ?_
  rintro e w' ⟨rfl, rfl⟩
  refine ⟨absN a, ?_, rfl, rfl⟩
  unfold absN
  repeat' split
  all_goals omega

/-- The last lines: what the examples say, and the size of a number. -/
theorem back_walk (a b : Int) (ha : I64 a) (hb : I64 b) (w : World) :
    Calls Try.prog 6 #[.int .i64 a, .int .i64 b] w fun e w' => e = .returned (.bool true) ∧ Grown w w' := by
  by_cases hs : I64 (a + b)
  · have HS := Lib.hid hs
    have hs1 := hs.1
    have hs2 := hs.2
    have ab := add_ok b a hb ha (by rw [Int.add_comm]; exact hs)
    have sb := sub_ok (a + b) b hs hb (by rw [Int.add_sub_cancel]; exact ha)
    rw [Int.add_sub_cancel] at sb
    rw [Int.add_comm b a] at ab
    have AB := Lib.hid ab
    have SB := Lib.hid sb
    clear ab sb hs
    by_cases hp : 0 < b
    · go_enter Try.func6, Try.ntmps6
      go_wp2_with fail
      refine (add_ok a b ha hb HS.out _).mono ?_; rintro e w' ⟨rfl, rfl⟩
      go_wp2_with fail
      refine (SB.out _).mono ?_; rintro e w' ⟨rfl, rfl⟩
      go_wp2_with fail
      refine (AB.out _).mono ?_; rintro e w' ⟨rfl, rfl⟩
      go_wp2_with fail
      refine (addsat_ok a b ha hb HS.out _).mono ?_; rintro e w' ⟨rfl, rfl⟩
      go_wp2_with fail
      refine (md_same a b ha hb hp _).mono ?_; rintro e w1 ⟨rfl, o1⟩
      go_wp2_with fail
      refine (mu_same a b ha hb hp _).mono ?_; rintro e w2 ⟨rfl, o2⟩
      go_wp2_with fail
      refine (awake_any _).mono ?_; rintro e w3 ⟨rfl, o3⟩
      go_wp2_with fail
      refine (abs_of a ha _).mono ?_; rintro e w' ⟨k, hk, rfl, rfl⟩
      go_wp2
      go_ret
      exact ⟨rfl, ((o1.trans o2).trans o3).g⟩
    · have hp' : b ≤ 0 := by omega
      clear hp
      go_enter Try.func6, Try.ntmps6
      go_wp2_with fail
      refine (add_ok a b ha hb HS.out _).mono ?_; rintro e w' ⟨rfl, rfl⟩
      go_wp2_with fail
      refine (SB.out _).mono ?_; rintro e w' ⟨rfl, rfl⟩
      go_wp2_with fail
      refine (AB.out _).mono ?_; rintro e w' ⟨rfl, rfl⟩
      go_wp2_with fail
      refine (addsat_ok a b ha hb HS.out _).mono ?_; rintro e w' ⟨rfl, rfl⟩
      go_wp2_with fail
      refine (awake_any _).mono ?_; rintro e w3 ⟨rfl, o3⟩
      go_wp2_with fail
      refine (abs_of a ha _).mono ?_; rintro e w' ⟨k, hk, rfl, rfl⟩
      go_wp2
      go_ret
      exact ⟨rfl, o3.g⟩
  · have HS := Lib.hid hs
    by_cases hi : 9223372036854775807 < a + b
    · have a0 : 0 ≤ a := by unfold I64 at ha hb; omega
      have b0 : 0 < b := by unfold I64 at ha hb; omega
      have HI := Lib.hid hi
      clear hi hs
      go_enter Try.func6, Try.ntmps6
      go_wp2_with fail
      refine (add_no a b ha hb HS.out _).mono ?_; rintro e w' ⟨rfl, rfl⟩
      go_wp2_with fail
      refine (addsat_hi a b ha hb HI.out _).mono ?_; rintro e w' ⟨rfl, rfl⟩
      go_wp2_with fail
      refine (md_same a b ha hb b0 _).mono ?_; rintro e w1 ⟨rfl, o1⟩
      go_wp2_with fail
      refine (mu_same a b ha hb b0 _).mono ?_; rintro e w2 ⟨rfl, o2⟩
      go_wp2_with fail
      refine (awake_any _).mono ?_; rintro e w3 ⟨rfl, o3⟩
      go_wp2_with fail
      refine (abs_of a ha _).mono ?_; rintro e w' ⟨k, hk, rfl, rfl⟩
      go_wp2
      go_ret
      exact ⟨rfl, ((o1.trans o2).trans o3).g⟩
    · have lo : a + b < -9223372036854775808 := by unfold I64 at hs; omega
      have a0 : a < 0 := by unfold I64 at ha hb; omega
      have b0 : b < 0 := by unfold I64 at ha hb; omega
      have LO := Lib.hid lo
      clear hi hs lo
      go_enter Try.func6, Try.ntmps6
      go_wp2_with fail
      refine (add_no a b ha hb HS.out _).mono ?_; rintro e w' ⟨rfl, rfl⟩
      go_wp2_with fail
      refine (addsat_lo a b ha hb LO.out _).mono ?_; rintro e w' ⟨rfl, rfl⟩
      go_wp2_with fail
      refine (awake_any _).mono ?_; rintro e w3 ⟨rfl, o3⟩
      go_wp2_with fail
      refine (abs_of a ha _).mono ?_; rintro e w' ⟨k, hk, rfl, rfl⟩
      go_wp2
      go_ret
      exact ⟨rfl, o3.g⟩
end Go.Proofs.Ytocfbkkgcbconaa
