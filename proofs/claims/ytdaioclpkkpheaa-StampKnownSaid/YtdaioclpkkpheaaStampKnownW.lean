/- The walk of StampKnown: the chapter's rows, and the limits. -/
import Derived.Test.YtdaioclpkkpheaaStampW
namespace Go.Proofs.Ytdaioclpkkpheaa
open Go.ChangeShapes Go.WideShapes Go.ChangeAt Go.RowKit StampM

set_option maxHeartbeats 2000000 in
set_option maxRecDepth 100000 in
theorem stampknown_walk (w : World) :
    Calls Try.prog 7 #[] w fun e w' => e = .returned (.bool true) ∧ Grown w w' := by
  have c0 := Lib.hid (datens_at 1048576 0 20 0 0 (by omega) (by omega) (by omega) (by decide +kernel))
  have c1 := Lib.hid (datens_at (-1048576) 0 20 0 0 (by omega) (by omega) (by omega) (by decide +kernel))
  have c2 := Lib.hid (datens_at 1 4294967296000000000 0 0 0 (by omega) (by omega) (by omega) (by decide +kernel))
  have c3 := Lib.hid (nsdate_at 4611686018427387904 1 316718722 7883915285287146770 (i64_mk _ (by omega) (by omega)) (by decide +kernel))
  have c4 := Lib.hid (datens_at 1 4611686018427387904 0 316718722 7883915285287146770 (by omega) (by omega) (by omega) (by decide +kernel))
  have c5 := Lib.hid (nsdate_at 4611686018427387905 1 316718722 7883915303733890844 (i64_mk _ (by omega) (by omega)) (by decide +kernel))
  have c6 := Lib.hid (datens_at 1 0 20 316718722 7883915303733890844 (by omega) (by omega) (by omega) (by decide +kernel))
  have c7 := Lib.hid (nsdate_at (-4611686018427387904) (-2) 3978248573 10562828788422404847 (i64_mk _ (by omega) (by omega)) (by decide +kernel))
  have c8 := Lib.hid (datens_at (-2) (-4611686018427387904) 0 3978248573 10562828788422404847 (by omega) (by omega) (by omega) (by decide +kernel))
  have c9 := Lib.hid (nsdate_at (-4611686018427387905) (-2) 3978248573 10562828769975660773 (i64_mk _ (by omega) (by omega)) (by decide +kernel))
  have c10 := Lib.hid (datens_at (-2) 0 20 3978248573 10562828769975660773 (by omega) (by omega) (by omega) (by decide +kernel))
  have c11 := Lib.hid (nsshort_at (-5) 0 (i64_mk _ (by omega) (by omega)) (by decide +kernel))
  have c12 := Lib.hid (nsshort_at 4611686018427387904 4294967295 (i64_mk _ (by omega) (by omega)) (by decide +kernel))
  have c13 := Lib.hid (nsshort_at 65536000000000 4294967295 (i64_mk _ (by omega) (by omega)) (by decide +kernel))
  have c14 := Lib.hid (short_at 4294967295 65535999984742 (by omega) (by decide +kernel))
  have c15 := Lib.hid (stamp_at (-1) 18446744073709551612 (i64_mk _ (by omega) (by omega)) (by decide +kernel))
  have c16 := Lib.hid (stampns_at 9223372036854775808 0 (-2147483648000000000) (by omega) (i64_mk _ (by omega) (by omega)) (by decide +kernel))
  go_enter Try.func7, Try.ntmps7
  go_wp2_with fail
  refine (c0.out _).mono ?_; rintro e w0 ⟨rfl, o0⟩
  go_wp2_with fail
  refine (c1.out _).mono ?_; rintro e w1 ⟨rfl, o1⟩
  go_wp2_with fail
  refine (c2.out _).mono ?_; rintro e w2 ⟨rfl, o2⟩
  go_wp2_with fail
  refine (c3.out _).mono ?_; rintro e w3 ⟨rfl, o3⟩
  go_wp2_with fail
  refine (c4.out _).mono ?_; rintro e w4 ⟨rfl, o4⟩
  go_wp2_with fail
  refine (c5.out _).mono ?_; rintro e w5 ⟨rfl, o5⟩
  go_wp2_with fail
  refine (c6.out _).mono ?_; rintro e w6 ⟨rfl, o6⟩
  go_wp2_with fail
  refine (c7.out _).mono ?_; rintro e w7 ⟨rfl, o7⟩
  go_wp2_with fail
  refine (c8.out _).mono ?_; rintro e w8 ⟨rfl, o8⟩
  go_wp2_with fail
  refine (c9.out _).mono ?_; rintro e w9 ⟨rfl, o9⟩
  go_wp2_with fail
  refine (c10.out _).mono ?_; rintro e w10 ⟨rfl, o10⟩
  go_wp2_with fail
  refine (c11.out _).mono ?_; rintro e w' ⟨rfl, rfl⟩
  go_wp2_with fail
  refine (c12.out _).mono ?_; rintro e w' ⟨rfl, rfl⟩
  go_wp2_with fail
  refine (c13.out _).mono ?_; rintro e w' ⟨rfl, rfl⟩
  go_wp2_with fail
  refine (c14.out _).mono ?_; rintro e w' ⟨rfl, rfl⟩
  go_wp2_with fail
  refine (c15.out _).mono ?_; rintro e w' ⟨rfl, rfl⟩
  go_wp2_with fail
  refine (c16.out _).mono ?_; rintro e w16 ⟨rfl, o16⟩
  go_wp2_with fail
  refine (wakes_any _).mono ?_; rintro e wz ⟨rfl, oz⟩
  go_wp2
  go_ret
  exact ⟨rfl, ((((((((((((o0.trans o1).trans o2).trans o3).trans o4).trans o5).trans o6).trans o7).trans o8).trans o9).trans o10).trans o16).trans oz).g⟩
end Go.Proofs.Ytdaioclpkkpheaa
