/- WallKnown: the walk. -/
import Derived.Test.YtokhlagcflkocaaWallG
set_option maxRecDepth 100000
namespace Go.Proofs.Ytokhlagcflkocaa
open Go.ChangeShapes Go.WideShapes Go.ChangeAt Go.RowKit WallM BigM

set_option maxHeartbeats 4000000 in
theorem known12_walk (w : World) :
    Calls Try.prog 7 #[] w fun r w' => r = .returned (.bool true) ∧ Below w.heap.size w w' := by
  have Z0 := heap_alloc_new w (.cells #[.bool false, .int .i64 0, .int .i64 0] 46)
  have LZ : Below w.heap.size w (w.alloc (.cells #[.bool false, .int .i64 0, .int .i64 0] 46)) := (Below.refl _ _).alloc (Nat.le_refl _) _
  have NZ := none_zero _ w.heap.size Z0
  have o1 : (Wl.mk 4611686018427387904 0).Ok := ⟨by decide, by decide⟩
  have o2 : (Wl.mk (-4611686018427387904) 1).Ok := ⟨by decide, by decide⟩
  have Q1 : Hid (∀ w, Calls Try.prog 16 #[.pointer none, .int .i64 0] w (WhenP12 w 0 false)) := fun w => pWhen12_none w _ 0 (none_nil w)
  have Q2 : Hid (∀ w, Calls Try.prog 18 #[.pointer none, .int .i64 5] w (IntB w 0)) := fun w => pAt12_none w _ 5 (none_nil w)
  have Q3 : Hid (∀ w p, NoneAt w (.pointer p) → Calls Try.prog 18 #[.pointer p, .int .i64 5] w (IntB w 0)) := fun w p h => pAt12_none w _ 5 h
  have Q4 : Hid (∀ w, Calls Try.prog 14 #[.pointer none] w (IntB w 0)) := fun w => pBase12_none w _ (none_nil w)
  have Q5 : Hid (∀ w p, NoneAt w (.pointer p) → Calls Try.prog 15 #[.pointer p] w (IntB w 0)) := fun w p h => pSteps12_none w _ h
  have Q6 : Hid (∀ w, Calls Try.prog 12 #[.pointer none, .int .i64 1] w (IntB w 2)) := fun w => pStep12_none w _ 1 (none_nil w)
  have Q7 : Hid (∀ w p, NoneAt w (.pointer p) → Calls Try.prog 11 #[.pointer p] w fun e w' => e = .returned (.pointer none) ∧ Below w.heap.size w w') := fun w p h => pCopy12_none w _ h
  have N1 : Hid (∀ w, Calls Try.prog 8 #[.int .i64 (-1)] w fun e w' => e = .returned (.tuple #[.pointer none, .int .i64 1]) ∧ Below w.heap.size w w') := fun w => pnew12_no w (-1) (by decide)
  have N2 : Hid (∀ w, Calls Try.prog 8 #[.int .i64 4611686018427387905] w fun e w' => e = .returned (.tuple #[.pointer none, .int .i64 1]) ∧ Below w.heap.size w w') := fun w => pnew12_no w 4611686018427387905 (by decide)
  have N3 : Hid (∀ w, Calls Try.prog 8 #[.int .i64 4611686018427387904] w (NewE12 w ⟨4611686018427387904, 0⟩)) := fun w => pnew12_ok w 4611686018427387904 (by decide) (by decide)
  have S1 : Hid (∀ w N, Wal w N ⟨4611686018427387904, 0⟩ → Calls Try.prog 12 #[.pointer (some ⟨N, 0, none⟩), .int .i64 1] w (StepP12 w N ⟨4611686018427387904, 0⟩ 20)) := fun w N c => pstep12_any w N _ 1 c o1 ⟨by decide, by decide⟩ (by decide) (by decide)
  have A1 : Hid (∀ w N, Wal w N ⟨4611686018427387904, 0⟩ → Calls Try.prog 18 #[.pointer (some ⟨N, 0, none⟩), .int .i64 9] w (IntB w 4611686018427387904)) := fun w N c => pAt12_any w N _ 9 c o1
  have S2 : Hid (∀ w N, Wal w N ⟨4611686018427387904, 0⟩ → Calls Try.prog 12 #[.pointer (some ⟨N, 0, none⟩), .int .i64 (-9223372036854775808)] w (StepP12 w N ⟨-4611686018427387904, 1⟩ 0)) := fun w N c => pstep12_any w N _ (-9223372036854775808) c o1 ⟨by decide, by decide⟩ (by decide) (by decide)
  have S3 : Hid (∀ w N, Wal w N ⟨-4611686018427387904, 1⟩ → Calls Try.prog 12 #[.pointer (some ⟨N, 0, none⟩), .int .i64 (-1)] w (StepP12 w N ⟨-4611686018427387904, 1⟩ 20)) := fun w N c => pstep12_any w N _ (-1) c o2 ⟨by decide, by decide⟩ (by decide) (by decide)
  have A2 : Hid (∀ w N, Wal w N ⟨-4611686018427387904, 1⟩ → Calls Try.prog 18 #[.pointer (some ⟨N, 0, none⟩), .int .i64 4611686018427387904] w (IntB w 0)) := fun w N c => pAt12_any w N _ 4611686018427387904 c o2
  have W1 : Hid (∀ w N, Wal w N ⟨-4611686018427387904, 1⟩ → Calls Try.prog 16 #[.pointer (some ⟨N, 0, none⟩), .int .i64 1] w (WhenP12 w 0 false)) := fun w N c => pWhen12_any w N _ 1 c o2 ⟨by decide, by decide⟩
  have W2 : Hid (∀ w N, Wal w N ⟨-4611686018427387904, 1⟩ → Calls Try.prog 16 #[.pointer (some ⟨N, 0, none⟩), .int .i64 0] w (WhenP12 w 0 true)) := fun w N c => pWhen12_any w N _ 0 c o2 ⟨by decide, by decide⟩
  have T1 : Hid (∀ w N, Wal w N ⟨-4611686018427387904, 1⟩ → Calls Try.prog 15 #[.pointer (some ⟨N, 0, none⟩)] w (IntB w 1)) := fun w N c => psteps12_any w N _ c
  have R1 : Hid (∀ w, Calls Try.prog 20 #[.int .i64 1, .int .i64 1] w (IntB w 500000)) := fun w => prate12_any w 1 1
  have R2 : Hid (∀ w, Calls Try.prog 20 #[.int .i64 (-1), .int .i64 1] w (IntB w (-500000))) := fun w => prate12_any w (-1) 1
  have R3 : Hid (∀ w, Calls Try.prog 20 #[.int .i64 (-9223372036854775808), .int .i64 1] w (IntB w (-500000))) := fun w => prate12_any w (-9223372036854775808) 1
  have R4 : Hid (∀ w, Calls Try.prog 20 #[.int .i64 5, .int .i64 (-7)] w (IntB w 0)) := fun w => prate12_any w 5 (-7)
  have V1 : Hid (∀ w, Calls Try.prog 22 #[.int .i64 1099511627776, .int .i64 1000000000] w (IntB w 500000)) := fun w => pslewed12_any w 1099511627776 1000000000
  have V2 : Hid (∀ w, Calls Try.prog 22 #[.int .i64 (-1), .int .i64 1] w (IntB w (-1))) := fun w => pslewed12_any w (-1) 1
  have V3 : Hid (∀ w, Calls Try.prog 22 #[.int .i64 1, .int .i64 1] w (IntB w 0)) := fun w => pslewed12_any w 1 1
  have AL := Lib.hid alive12_any
  have NN := Lib.hid NZ
  have LL := Lib.hid LZ
  clear o1 o2 Z0 LZ NZ
  go_enter Try.func7, Try.ntmps7
  go_wp2_with fail
  refine (Q1.out _).mono ?_; rintro e w1 ⟨rfl, l⟩
  replace LL := Lib.hid (LL.out.trans (l.mono LL.out.size))
  replace NN := Lib.hid (NN.out.below l)
  clear l
  go_wp2_with fail
  refine (Q2.out _).mono ?_; rintro e w2 ⟨rfl, l⟩
  replace LL := Lib.hid (LL.out.trans (l.mono LL.out.size))
  replace NN := Lib.hid (NN.out.below l)
  clear l
  go_wp2_with fail
  refine (Q3.out _ _ NN.out).mono ?_; rintro e w3 ⟨rfl, l⟩
  replace LL := Lib.hid (LL.out.trans (l.mono LL.out.size))
  replace NN := Lib.hid (NN.out.below l)
  clear l
  go_wp2_with fail
  refine (Q4.out _).mono ?_; rintro e w4 ⟨rfl, l⟩
  replace LL := Lib.hid (LL.out.trans (l.mono LL.out.size))
  replace NN := Lib.hid (NN.out.below l)
  clear l
  go_wp2_with fail
  refine (Q5.out _ _ NN.out).mono ?_; rintro e w5 ⟨rfl, l⟩
  replace LL := Lib.hid (LL.out.trans (l.mono LL.out.size))
  replace NN := Lib.hid (NN.out.below l)
  clear l
  go_wp2_with fail
  refine (Q6.out _).mono ?_; rintro e w6 ⟨rfl, l⟩
  replace LL := Lib.hid (LL.out.trans (l.mono LL.out.size))
  replace NN := Lib.hid (NN.out.below l)
  clear l
  go_wp2_with fail
  refine (Q7.out _ _ NN.out).mono ?_; rintro e w7 ⟨rfl, l⟩
  replace LL := Lib.hid (LL.out.trans (l.mono LL.out.size))
  replace NN := Lib.hid (NN.out.below l)
  clear l
  go_wp2_with fail
  refine (N1.out _).mono ?_; rintro e w8 ⟨rfl, l⟩
  replace LL := Lib.hid (LL.out.trans (l.mono LL.out.size))
  replace NN := Lib.hid (NN.out.below l)
  clear l
  go_wp2_with fail
  refine (N2.out _).mono ?_; rintro e w9 ⟨rfl, l⟩
  replace LL := Lib.hid (LL.out.trans (l.mono LL.out.size))
  replace NN := Lib.hid (NN.out.below l)
  clear l
  go_wp2_with fail
  refine (N3.out _).mono ?_; rintro e w10 ⟨M, rfl, c, hM, l⟩
  have C := Lib.hid c
  have HM : Hid (w.heap.size ≤ M) := Nat.le_trans LL.out.size hM
  replace LL := Lib.hid (LL.out.trans (l.mono LL.out.size))
  clear c hM l NN
  go_wp2_with fail
  refine (S1.out _ M C.out).mono ?_; rintro e w11 ⟨rfl, c, t⟩
  replace C := Lib.hid c
  replace LL := Lib.hid (t.below LL.out HM.out)
  clear c t
  go_wp2_with fail
  refine (A1.out _ M C.out).mono ?_; rintro e w12 ⟨rfl, l⟩
  replace LL := Lib.hid (LL.out.trans (l.mono LL.out.size))
  replace C := Lib.hid (C.out.below l)
  clear l
  go_wp2_with fail
  refine (S2.out _ M C.out).mono ?_; rintro e w13 ⟨rfl, c, t⟩
  replace C := Lib.hid c
  replace LL := Lib.hid (t.below LL.out HM.out)
  clear c t
  go_wp2_with fail
  refine (S3.out _ M C.out).mono ?_; rintro e w14 ⟨rfl, c, t⟩
  replace C := Lib.hid c
  replace LL := Lib.hid (t.below LL.out HM.out)
  clear c t
  go_wp2_with fail
  refine (A2.out _ M C.out).mono ?_; rintro e w15 ⟨rfl, l⟩
  replace LL := Lib.hid (LL.out.trans (l.mono LL.out.size))
  replace C := Lib.hid (C.out.below l)
  clear l
  go_wp2_with fail
  refine (W1.out _ M C.out).mono ?_; rintro e w16 ⟨rfl, l⟩
  replace LL := Lib.hid (LL.out.trans (l.mono LL.out.size))
  replace C := Lib.hid (C.out.below l)
  clear l
  go_wp2_with fail
  refine (W2.out _ M C.out).mono ?_; rintro e w17 ⟨rfl, l⟩
  replace LL := Lib.hid (LL.out.trans (l.mono LL.out.size))
  replace C := Lib.hid (C.out.below l)
  clear l
  go_wp2_with fail
  refine (T1.out _ M C.out).mono ?_; rintro e w18 ⟨rfl, l⟩
  replace LL := Lib.hid (LL.out.trans (l.mono LL.out.size))
  replace C := Lib.hid (C.out.below l)
  clear l
  go_wp2_with fail
  refine (R1.out _).mono ?_; rintro e w19 ⟨rfl, l⟩
  replace LL := Lib.hid (LL.out.trans (l.mono LL.out.size))
  replace C := Lib.hid (C.out.below l)
  clear l
  go_wp2_with fail
  refine (R2.out _).mono ?_; rintro e w20 ⟨rfl, l⟩
  replace LL := Lib.hid (LL.out.trans (l.mono LL.out.size))
  replace C := Lib.hid (C.out.below l)
  clear l
  go_wp2_with fail
  refine (R3.out _).mono ?_; rintro e w21 ⟨rfl, l⟩
  replace LL := Lib.hid (LL.out.trans (l.mono LL.out.size))
  replace C := Lib.hid (C.out.below l)
  clear l
  go_wp2_with fail
  refine (R4.out _).mono ?_; rintro e w22 ⟨rfl, l⟩
  replace LL := Lib.hid (LL.out.trans (l.mono LL.out.size))
  replace C := Lib.hid (C.out.below l)
  clear l
  go_wp2_with fail
  refine (V1.out _).mono ?_; rintro e w23 ⟨rfl, l⟩
  replace LL := Lib.hid (LL.out.trans (l.mono LL.out.size))
  replace C := Lib.hid (C.out.below l)
  clear l
  go_wp2_with fail
  refine (V2.out _).mono ?_; rintro e w24 ⟨rfl, l⟩
  replace LL := Lib.hid (LL.out.trans (l.mono LL.out.size))
  replace C := Lib.hid (C.out.below l)
  clear l
  go_wp2_with fail
  refine (V3.out _).mono ?_; rintro e w25 ⟨rfl, l⟩
  replace LL := Lib.hid (LL.out.trans (l.mono LL.out.size))
  replace C := Lib.hid (C.out.below l)
  clear l
  go_wp2_with fail
  refine (AL.out _).mono ?_; rintro e w26 ⟨rfl, l⟩
  replace LL := Lib.hid (LL.out.trans (l.mono LL.out.size))
  replace C := Lib.hid (C.out.below l)
  clear l
  go_wp2
  go_ret
  exact ⟨rfl, LL.out⟩
end Go.Proofs.Ytokhlagcflkocaa
