/- Contracts of package fix (layer 1), the small calls: sums, differences, their ends, Abs, Clamp, size. Kept as a template: numbers of functions are filled in by name. -/
import Derived.Test.YtokhlagcflkocaaBase
namespace Go.Proofs.Ytokhlagcflkocaa
open Go.ChangeShapes Go.WideShapes Go.ChangeAt Go.RowKit

theorem add_ok (a b : Int) (ha : I64 a) (hb : I64 b) (hs : I64 (a + b)) (w : World) :
    Calls Try.prog 40 #[.int .i64 a, .int .i64 b] w fun e w' => e = .returned (.tuple #[.int .i64 (a + b), .int .i64 0]) ∧ w = w' := by
  obtain ⟨ha1, ha2⟩ := ha
  obtain ⟨hb1, hb2⟩ := hb
  obtain ⟨hs1, hs2⟩ := hs
  by_cases c : b < 0
  · have d : a + b < a := by omega
    go_enter Try.func40, Try.ntmps40
    go_wp2
    go_ret2
    exact ⟨rfl, rfl⟩
  · have d : ¬ a + b < a := by omega
    go_enter Try.func40, Try.ntmps40
    go_wp2
    go_ret2
    exact ⟨rfl, rfl⟩

/-- A sum that leaves the range, as it wraps. -/
theorem wrap_add_hi (a b : Int) (ha : I64 a) (hb : I64 b) (h : 9223372036854775807 < a + b) : wrap64 (a + b) = a + b - 18446744073709551616 := by
  obtain ⟨ha1, ha2⟩ := ha
  obtain ⟨hb1, hb2⟩ := hb
  unfold wrap64
  omega
theorem wrap_add_lo (a b : Int) (ha : I64 a) (hb : I64 b) (h : a + b < -9223372036854775808) : wrap64 (a + b) = a + b + 18446744073709551616 := by
  obtain ⟨ha1, ha2⟩ := ha
  obtain ⟨hb1, hb2⟩ := hb
  unfold wrap64
  omega

theorem add_no (a b : Int) (ha : I64 a) (hb : I64 b) (hs : ¬ I64 (a + b)) (w : World) :
    Calls Try.prog 40 #[.int .i64 a, .int .i64 b] w fun e w' => e = .returned (.tuple #[.int .i64 0, .int .i64 20]) ∧ w = w' := by
  have ha' := ha
  have hb' := hb
  obtain ⟨ha1, ha2⟩ := ha
  obtain ⟨hb1, hb2⟩ := hb
  by_cases c : b < 0
  · have lo : a + b < -9223372036854775808 := by unfold I64 at hs; omega
    have d : ¬ wrap64 (a + b) < a := by rw [wrap_add_lo a b ha' hb' lo]; omega
    clear hs ha' hb' lo
    go_enter Try.func40, Try.ntmps40
    go_wp2
    go_ret2
    exact ⟨rfl, rfl⟩
  · have hi : 9223372036854775807 < a + b := by unfold I64 at hs; omega
    have d : wrap64 (a + b) < a := by rw [wrap_add_hi a b ha' hb' hi]; omega
    clear hs ha' hb' hi
    go_enter Try.func40, Try.ntmps40
    go_wp2
    go_ret2
    exact ⟨rfl, rfl⟩

theorem wrap_sub_hi (a b : Int) (ha : I64 a) (hb : I64 b) (h : 9223372036854775807 < a - b) : wrap64 (a - b) = a - b - 18446744073709551616 := by
  obtain ⟨ha1, ha2⟩ := ha
  obtain ⟨hb1, hb2⟩ := hb
  unfold wrap64
  omega
theorem wrap_sub_lo (a b : Int) (ha : I64 a) (hb : I64 b) (h : a - b < -9223372036854775808) : wrap64 (a - b) = a - b + 18446744073709551616 := by
  obtain ⟨ha1, ha2⟩ := ha
  obtain ⟨hb1, hb2⟩ := hb
  unfold wrap64
  omega

theorem sub_ok (a b : Int) (ha : I64 a) (hb : I64 b) (hs : I64 (a - b)) (w : World) :
    Calls Try.prog 45 #[.int .i64 a, .int .i64 b] w fun e w' => e = .returned (.tuple #[.int .i64 (a - b), .int .i64 0]) ∧ w = w' := by
  obtain ⟨ha1, ha2⟩ := ha
  obtain ⟨hb1, hb2⟩ := hb
  obtain ⟨hs1, hs2⟩ := hs
  by_cases c : b < 0
  · have d : a < a - b := by omega
    go_enter Try.func45, Try.ntmps45
    go_wp2
    go_ret2
    exact ⟨rfl, rfl⟩
  · have d : ¬ a < a - b := by omega
    go_enter Try.func45, Try.ntmps45
    go_wp2
    go_ret2
    exact ⟨rfl, rfl⟩

theorem sub_no (a b : Int) (ha : I64 a) (hb : I64 b) (hs : ¬ I64 (a - b)) (w : World) :
    Calls Try.prog 45 #[.int .i64 a, .int .i64 b] w fun e w' => e = .returned (.tuple #[.int .i64 0, .int .i64 20]) ∧ w = w' := by
  have ha' := ha
  have hb' := hb
  obtain ⟨ha1, ha2⟩ := ha
  obtain ⟨hb1, hb2⟩ := hb
  by_cases c : b < 0
  · have hi : 9223372036854775807 < a - b := by unfold I64 at hs; omega
    have d : ¬ a < wrap64 (a - b) := by rw [wrap_sub_hi a b ha' hb' hi]; omega
    clear hs ha' hb' hi
    go_enter Try.func45, Try.ntmps45
    go_wp2
    go_ret2
    exact ⟨rfl, rfl⟩
  · have lo : a - b < -9223372036854775808 := by unfold I64 at hs; omega
    have d : a < wrap64 (a - b) := by rw [wrap_sub_lo a b ha' hb' lo]; omega
    clear hs ha' hb' lo
    go_enter Try.func45, Try.ntmps45
    go_wp2
    go_ret2
    exact ⟨rfl, rfl⟩

theorem end_lo (a : Int) (h : a < 0) (w : World) :
    Calls Try.prog 41 #[.int .i64 a] w fun e w' => e = .returned (.int .i64 (-9223372036854775808)) ∧ w = w' := by
  go_enter Try.func41, Try.ntmps41
  go_wp2
  go_ret
  exact ⟨rfl, rfl⟩
theorem end_hi (a : Int) (h : 0 ≤ a) (w : World) :
    Calls Try.prog 41 #[.int .i64 a] w fun e w' => e = .returned (.int .i64 9223372036854775807) ∧ w = w' := by
  go_enter Try.func41, Try.ntmps41
  go_wp2
  go_ret
  exact ⟨rfl, rfl⟩

theorem addsat_ok (a b : Int) (ha : I64 a) (hb : I64 b) (hs : I64 (a + b)) (w : World) :
    Calls Try.prog 26 #[.int .i64 a, .int .i64 b] w fun e w' => e = .returned (.int .i64 (a + b)) ∧ w = w' := by
  go_enter Try.func26, Try.ntmps26
  go_wp2_with (go_at_call 40; refine (add_ok a b ha hb hs _).mono ?_; rintro e w' ⟨rfl, rfl⟩)
  go_ret
  exact ⟨rfl, rfl⟩
theorem addsat_hi (a b : Int) (ha : I64 a) (hb : I64 b) (h : 9223372036854775807 < a + b) (w : World) :
    Calls Try.prog 26 #[.int .i64 a, .int .i64 b] w fun e w' => e = .returned (.int .i64 9223372036854775807) ∧ w = w' := by
  have hs : ¬ I64 (a + b) := by unfold I64; omega
  have hn : 0 ≤ a := by unfold I64 at ha hb; omega
  go_enter Try.func26, Try.ntmps26
  go_wp2_with (first | (go_at_call 40; refine (add_no a b ha hb hs _).mono ?_; rintro e w' ⟨rfl, rfl⟩) | (go_at_call 41; refine (end_hi a hn _).mono ?_; rintro e w' ⟨rfl, rfl⟩))
  go_ret
  exact ⟨rfl, rfl⟩
theorem addsat_lo (a b : Int) (ha : I64 a) (hb : I64 b) (h : a + b < -9223372036854775808) (w : World) :
    Calls Try.prog 26 #[.int .i64 a, .int .i64 b] w fun e w' => e = .returned (.int .i64 (-9223372036854775808)) ∧ w = w' := by
  have hs : ¬ I64 (a + b) := by unfold I64; omega
  have hn : a < 0 := by unfold I64 at ha hb; omega
  go_enter Try.func26, Try.ntmps26
  go_wp2_with (first | (go_at_call 40; refine (add_no a b ha hb hs _).mono ?_; rintro e w' ⟨rfl, rfl⟩) | (go_at_call 41; refine (end_lo a hn _).mono ?_; rintro e w' ⟨rfl, rfl⟩))
  go_ret
  exact ⟨rfl, rfl⟩

theorem subsat_ok (a b : Int) (ha : I64 a) (hb : I64 b) (hs : I64 (a - b)) (w : World) :
    Calls Try.prog 30 #[.int .i64 a, .int .i64 b] w fun e w' => e = .returned (.int .i64 (a - b)) ∧ w = w' := by
  go_enter Try.func30, Try.ntmps30
  go_wp2_with (go_at_call 45; refine (sub_ok a b ha hb hs _).mono ?_; rintro e w' ⟨rfl, rfl⟩)
  go_ret
  exact ⟨rfl, rfl⟩
theorem subsat_hi (a b : Int) (ha : I64 a) (hb : I64 b) (h : 9223372036854775807 < a - b) (w : World) :
    Calls Try.prog 30 #[.int .i64 a, .int .i64 b] w fun e w' => e = .returned (.int .i64 9223372036854775807) ∧ w = w' := by
  have hs : ¬ I64 (a - b) := by unfold I64; omega
  have hn : 0 ≤ a := by unfold I64 at ha hb; omega
  go_enter Try.func30, Try.ntmps30
  go_wp2_with (first | (go_at_call 45; refine (sub_no a b ha hb hs _).mono ?_; rintro e w' ⟨rfl, rfl⟩) | (go_at_call 41; refine (end_hi a hn _).mono ?_; rintro e w' ⟨rfl, rfl⟩))
  go_ret
  exact ⟨rfl, rfl⟩
theorem subsat_lo (a b : Int) (ha : I64 a) (hb : I64 b) (h : a - b < -9223372036854775808) (w : World) :
    Calls Try.prog 30 #[.int .i64 a, .int .i64 b] w fun e w' => e = .returned (.int .i64 (-9223372036854775808)) ∧ w = w' := by
  have hs : ¬ I64 (a - b) := by unfold I64; omega
  have hn : a < 0 := by unfold I64 at ha hb; omega
  go_enter Try.func30, Try.ntmps30
  go_wp2_with (first | (go_at_call 45; refine (sub_no a b ha hb hs _).mono ?_; rintro e w' ⟨rfl, rfl⟩) | (go_at_call 41; refine (end_lo a hn _).mono ?_; rintro e w' ⟨rfl, rfl⟩))
  go_ret
  exact ⟨rfl, rfl⟩

def absN (a : Int) : Int := if a = -9223372036854775808 then 9223372036854775807 else if a < 0 then -a else a

theorem abs_any (a : Int) (ha : I64 a) (w : World) :
    Calls Try.prog 52 #[.int .i64 a] w fun e w' => e = .returned (.int .i64 (absN a)) ∧ w = w' := by
  by_cases c : 0 ≤ a
  · have H : Hid (absN a = a) := by unfold absN Hid; rw [if_neg (by omega), if_neg (by omega)]
    go_enter Try.func52, Try.ntmps52
    go_wp2
    go_ret
    exact ⟨ret_int (by rw [H.out]), rfl⟩
  · by_cases m : a = -9223372036854775808
    · have H : Hid (absN a = 9223372036854775807) := by unfold absN Hid; rw [if_pos m]
      have k : I64 0 := by unfold I64; omega
      have hi : 9223372036854775807 < 0 - a := by omega
      have M := Lib.hid m
      clear m
      go_enter Try.func52, Try.ntmps52
      go_wp2_with (go_at_call 30; refine (subsat_hi 0 a k ha hi _).mono ?_; rintro e w' ⟨rfl, rfl⟩)
      go_ret
      exact ⟨ret_int (by rw [H.out]), rfl⟩
    · have H : Hid (absN a = 0 - a) := by unfold absN Hid; rw [if_neg m, if_pos (by omega)]; omega
      have k : I64 0 := by unfold I64; omega
      have hs : I64 (0 - a) := by unfold I64 at ha ⊢; omega
      clear m
      go_enter Try.func52, Try.ntmps52
      go_wp2_with (go_at_call 30; refine (subsat_ok 0 a k ha hs _).mono ?_; rintro e w' ⟨rfl, rfl⟩)
      go_ret
      exact ⟨ret_int (by rw [H.out]; simp), rfl⟩
end Go.Proofs.Ytokhlagcflkocaa

