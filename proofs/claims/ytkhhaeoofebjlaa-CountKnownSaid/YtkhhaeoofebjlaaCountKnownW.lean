/- CountKnown: the walk. -/
import Derived.Test.YtkhhaeoofebjlaaCountE
set_option maxRecDepth 100000
namespace Go.Proofs.Ytkhhaeoofebjlaa
open Go.ChangeShapes Go.WideShapes Go.ChangeAt Go.RowKit

set_option maxHeartbeats 4000000 in
theorem known9_walk (w : World) :
    Calls Try.prog 5 #[] w fun r w' => r = .returned (.bool true) ∧ Below w.heap.size w w' := by
  have N1 : Hid (∀ w, Calls Try.prog 6 #[.int .i64 7, .int .u64 0] w (NoneP w)) := fun w => pnew9_bits w 7 0 (.inl (by decide))
  have N2 : Hid (∀ w, Calls Try.prog 6 #[.int .i64 65, .int .u64 0] w (NoneP w)) := fun w => pnew9_bits w 65 0 (.inr (by decide))
  have N3 : Hid (∀ w, Calls Try.prog 6 #[.int .i64 8, .int .u64 256] w (NoneP w)) := fun w => pnew9_first w 8 256 (by decide) (by decide) (by decide)
  have N4 : Hid (∀ w, Calls Try.prog 6 #[.int .i64 64, .int .u64 18446744073709551615] w (NewP w 64 18446744073709551615)) := fun w => pnew9_ok w 64 18446744073709551615 (by decide) (by decide) (by decide)
  have R1 : Hid (∀ w N, Ct w N 64 18446744073709551615 0 false → Calls Try.prog 8 #[.pointer (some ⟨N, 0, none⟩), .int .u64 0] w (ReadP w N 64 0 1 1)) := fun w N h => pread9_ok w N 64 18446744073709551615 0 0 1 h (by decide) (by decide) (by decide) (by decide) (by decide) (by decide)
  have R2 : Hid (∀ w N, Ct w N 64 0 1 false → Calls Try.prog 8 #[.pointer (some ⟨N, 0, none⟩), .int .u64 0] w (ReadP w N 64 0 1 0)) := fun w N h => pread9_ok w N 64 0 1 0 0 h (by decide) (by decide) (by decide) (by decide) (by decide) (by decide)
  have R3 : Hid (∀ w, Calls Try.prog 8 #[.pointer none, .int .u64 0] w (ReadE w 2)) := fun w => pread9_none w 0
  have T1 := Lib.hid ptotal9_none
  have T2 := Lib.hid plast9_none
  have T3 := Lib.hid pfull9_none
  have T4 := Lib.hid pcopy9_none
  go_enter Try.func5, Try.ntmps5
  go_wp2_with fail
  refine (N1.out w).mono ?_; rintro e w1 ⟨rfl, l1⟩
  have L1 := Lib.hid l1
  clear l1 N1
  go_wp2_with fail
  refine (N2.out w1).mono ?_; rintro e w2 ⟨rfl, l2⟩
  have L2 := Lib.hid (L1.out.trans (l2.mono L1.out.size))
  clear l2 N2 L1
  go_wp2_with fail
  refine (N3.out w2).mono ?_; rintro e w3 ⟨rfl, l3⟩
  have L3 := Lib.hid (L2.out.trans (l3.mono L2.out.size))
  clear l3 N3 L2
  go_wp2_with fail
  refine (N4.out w3).mono ?_; rintro e w4 ⟨N, rfl, c4, hN, l4⟩
  have C4 := Lib.hid c4
  have HN : Hid (w.heap.size ≤ N) := Nat.le_trans L3.out.size hN
  have L4 := Lib.hid (L3.out.trans (l4.mono L3.out.size))
  clear c4 hN l4 N4 L3
  go_wp2_with fail
  refine (R1.out w4 N C4.out).mono ?_; rintro e w5 ⟨rfl, c5, t5⟩
  have C5 := Lib.hid c5
  have L5 := Lib.hid (t5.below L4.out HN.out)
  clear c5 t5 R1 C4 L4
  go_wp2_with fail
  refine (R2.out w5 N C5.out).mono ?_; rintro e w6 ⟨rfl, c6, t6⟩
  have L6 := Lib.hid (t6.below L5.out HN.out)
  clear c6 t6 R2 C5 L5
  go_wp2_with fail
  refine (R3.out w6).mono ?_; rintro e w7 ⟨rfl, l7⟩
  have L7 := Lib.hid (L6.out.trans (l7.mono L6.out.size))
  clear l7 R3 L6
  go_wp2_with fail
  refine (awake9_any w7).mono ?_; rintro e w8 ⟨rfl, l8⟩
  have L8 := Lib.hid (L7.out.trans (l8.mono L7.out.size))
  clear l8 L7
  go_wp2_with fail
  refine (T1.out w8).mono ?_; rintro e w9 ⟨rfl, rfl⟩
  go_wp2_with fail
  refine (T2.out w9).mono ?_; rintro e w10 ⟨rfl, rfl⟩
  go_wp2_with fail
  refine (T3.out w10).mono ?_; rintro e w11 ⟨rfl, rfl⟩
  go_wp2_with fail
  refine (T4.out w11).mono ?_; rintro e w12 ⟨rfl, rfl⟩
  go_wp2
  go_ret
  exact ⟨rfl, L8.out⟩
end Go.Proofs.Ytkhhaeoofebjlaa
