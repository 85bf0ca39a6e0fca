/- The rows of the chapter, as every law of layer 2 asks them. -/
import Derived.Test.YtdaioclpkkpheaaStampC
namespace Go.Proofs.Ytdaioclpkkpheaa
open Go.ChangeShapes Go.WideShapes Go.ChangeAt Go.RowKit StampM

theorem short_at (u v : Nat) (hu : u < 4294967296) (h : shortN u = v) (w : World) :
    Calls Try.prog 10 #[.int .u32 u] w fun e w' => e = .returned (.int .i64 v) ∧ w = w' := by
  rw [← h]; exact shortns_any u hu w
theorem nsshort_at (ns : Int) (v : Nat) (hn : I64 ns) (h : nsShortN ns = v) (w : World) :
    Calls Try.prog 12 #[.int .i64 ns] w fun e w' => e = .returned (.int .u32 v) ∧ w = w' := by
  rw [← h]; exact nsshort_any ns hn w
theorem stamp_at (ns : Int) (v : Nat) (hn : I64 ns) (h : stampN ns = v) (w : World) :
    Calls Try.prog 16 #[.int .i64 ns] w fun e w' => e = .returned (.int .u64 v) ∧ w = w' := by
  rw [← h]; exact nsstamp_any ns hn w
theorem stampns_at (u : Nat) (p v : Int) (hu : u < 18446744073709551616) (hp : I64 p) (h : stampNsN u p = v) (w : World) :
    Calls Try.prog 14 #[.int .u64 u, .int .i64 p] w fun e w' => e = .returned (.int .i64 v) ∧ Out w w' := by
  rw [← h]; exact stampns_any u hu p hp w
theorem nsdate_at (ns e : Int) (o f : Nat) (hn : I64 ns) (h : eraN ns = e ∧ offN ns = o ∧ fracN ns = f) (w : World) :
    Calls Try.prog 18 #[.int .i64 ns] w fun x w' => x = .returned (.agg #[.int .i32 e, .int .u32 o, .int .u64 f]) ∧ Out w w' := by
  obtain ⟨rfl, rfl, rfl⟩ := h; exact nsdate_any ns hn w
theorem datens_at (era x y : Int) (off frac : Nat) (he : -2147483648 ≤ era ∧ era ≤ 2147483647) (h1 : off < 4294967296) (h2 : frac < 18446744073709551616) (hx : dateN era off frac = x ∧ dateE era off frac = y) (w : World) :
    Calls Try.prog 8 #[.agg #[.int .i32 era, .int .u32 off, .int .u64 frac]] w fun e w' => e = .returned (.tuple #[.int .i64 x, .int .i64 y]) ∧ Out w w' := by
  obtain ⟨rfl, rfl⟩ := hx; exact datens_any era off frac he h1 h2 w

theorem i64_mk (x : Int) (h : -9223372036854775808 ≤ x) (g : x ≤ 9223372036854775807) : I64 x := ⟨h, g⟩

set_option maxHeartbeats 1600000 in
theorem wakes_any (w : World) :
    Calls Try.prog 21 #[] w fun e w' => e = .returned (.bool true) ∧ Out w w' := by
  have c1 := Lib.hid (short_at 1 15259 (by omega) (by decide +kernel))
  have c2 := Lib.hid (short_at 65536 1000000000 (by omega) (by decide +kernel))
  have c3 := Lib.hid (nsshort_at 1 1 (i64_mk _ (by omega) (by omega)) (by decide +kernel))
  have c4 := Lib.hid (nsshort_at 1000000000 65536 (i64_mk _ (by omega) (by omega)) (by decide +kernel))
  have c5 := Lib.hid (stamp_at 1 5 (i64_mk _ (by omega) (by omega)) (by decide +kernel))
  have c6 := Lib.hid (stampns_at 5 0 1 (by omega) (i64_mk _ (by omega) (by omega)) (by decide +kernel))
  have c7 := Lib.hid (stampns_at 0 4294967295999999999 4294967296000000000 (by omega) (i64_mk _ (by omega) (by omega)) (by decide +kernel))
  have c8 := Lib.hid (nsdate_at (-1) (-1) 4294967295 18446744055262807543 (i64_mk _ (by omega) (by omega)) (by decide +kernel))
  go_enter Try.func21, Try.ntmps21
  go_wp2_with fail
  refine (c1.out _).mono ?_; rintro e w' ⟨rfl, rfl⟩
  go_wp2_with fail
  refine (c2.out _).mono ?_; rintro e w' ⟨rfl, rfl⟩
  go_wp2_with fail
  refine (c3.out _).mono ?_; rintro e w' ⟨rfl, rfl⟩
  go_wp2_with fail
  refine (c4.out _).mono ?_; rintro e w' ⟨rfl, rfl⟩
  go_wp2_with fail
  refine (c5.out _).mono ?_; rintro e w' ⟨rfl, rfl⟩
  go_wp2_with fail
  refine (c6.out _).mono ?_; rintro e w1 ⟨rfl, o1⟩
  go_wp2_with fail
  refine (c7.out _).mono ?_; rintro e w2 ⟨rfl, o2⟩
  go_wp2_with fail
  refine (c8.out _).mono ?_; rintro e w3 ⟨rfl, o3⟩
  go_wp2
  go_ret
  exact ⟨rfl, (o1.trans o2).trans o3⟩
end Go.Proofs.Ytdaioclpkkpheaa
