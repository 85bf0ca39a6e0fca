/- Layer 9 (count): what the document's examples say. -/
import Derived.Test.YtkhhaeoofebjlaaCountD
set_option maxRecDepth 100000
namespace Go.Proofs.Ytkhhaeoofebjlaa
open Go.ChangeShapes Go.WideShapes Go.ChangeAt Go.RowKit

set_option maxHeartbeats 2000000 in
theorem awake9_any (w : World) :
    Calls Try.prog 7 #[] w fun r w' => r = .returned (.bool true) ∧ Below w.heap.size w w' := by
  have N1 : Hid (∀ w, Calls Try.prog 6 #[.int .i64 8, .int .u64 250] w (NewP w 8 250)) := fun w => pnew9_ok w 8 250 (by decide) (by decide) (by decide)
  have R1 : Hid (∀ w N, Ct w N 8 250 0 false → Calls Try.prog 8 #[.pointer (some ⟨N, 0, none⟩), .int .u64 255] w (ReadP w N 8 255 5 5)) := fun w N h => pread9_ok w N 8 250 0 255 5 h (by decide) (by decide) (by decide) (by decide) (by decide) (by decide)
  have R2 : Hid (∀ w N, Ct w N 8 255 5 false → Calls Try.prog 8 #[.pointer (some ⟨N, 0, none⟩), .int .u64 4] w (ReadP w N 8 4 10 5)) := fun w N h => pread9_ok w N 8 255 5 4 5 h (by decide) (by decide) (by decide) (by decide) (by decide) (by decide)
  have R3 : Hid (∀ w N, Ct w N 8 4 10 false → Calls Try.prog 8 #[.pointer (some ⟨N, 0, none⟩), .int .u64 256] w (ReadE w 1)) := fun w N h => pread9_arg w N 8 4 10 256 false h (by decide) (by decide) (by decide)
  have T1 : Hid (∀ w N, Ct w N 8 4 10 false → Calls Try.prog 9 #[.pointer (some ⟨N, 0, none⟩)] w fun r w' => r = .returned (.int .u64 10) ∧ w' = w) := fun w N h => ptotal9_any w N 8 4 10 false h (by decide)
  have T2 : Hid (∀ w N, Ct w N 8 4 10 false → Calls Try.prog 10 #[.pointer (some ⟨N, 0, none⟩)] w fun r w' => r = .returned (.int .u64 4) ∧ w' = w) := fun w N h => plast9_any w N 8 4 10 false h (by decide)
  go_enter Try.func7, Try.ntmps7
  go_wp2_with fail
  refine (N1.out w).mono ?_; rintro e w1 ⟨N, rfl, c1, hN, l1⟩
  have C1 := Lib.hid c1
  have HN := Lib.hid hN
  have L1 := Lib.hid l1
  clear c1 hN l1 N1
  go_wp2_with fail
  refine (R1.out w1 N C1.out).mono ?_; rintro e w2 ⟨rfl, c2, t2⟩
  have C2 := Lib.hid c2
  have L2 := Lib.hid (t2.below L1.out HN.out)
  clear c2 t2 R1 C1 L1
  go_wp2_with fail
  refine (R2.out w2 N C2.out).mono ?_; rintro e w3 ⟨rfl, c3, t3⟩
  have C3 := Lib.hid c3
  have L3 := Lib.hid (t3.below L2.out HN.out)
  clear c3 t3 R2 C2 L2
  go_wp2_with fail
  refine (R3.out w3 N C3.out).mono ?_; rintro e w4 ⟨rfl, l4⟩
  have C4 := Lib.hid (C3.out.below l4)
  have L4 := Lib.hid (L3.out.trans (l4.mono L3.out.size))
  clear l4 R3 C3 L3
  go_wp2_with fail
  refine (T1.out w4 N C4.out).mono ?_; rintro e w5 ⟨rfl, rfl⟩
  go_wp2_with fail
  refine (T2.out w5 N C4.out).mono ?_; rintro e w6 ⟨rfl, rfl⟩
  go_wp2
  go_ret
  exact ⟨rfl, L4.out⟩
end Go.Proofs.Ytkhhaeoofebjlaa
