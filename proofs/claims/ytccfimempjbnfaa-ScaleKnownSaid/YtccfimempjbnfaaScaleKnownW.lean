/- ScaleKnown: the walk. -/
import Derived.Test.YtccfimempjbnfaaScaleD
set_option maxRecDepth 100000
namespace Go.Proofs.Ytccfimempjbnfaa
open Go.ChangeShapes Go.WideShapes Go.ChangeAt Go.RowKit ScaleM

set_option maxHeartbeats 4000000 in
theorem known10_walk (w : World) :
    Calls Try.prog 7 #[] w fun r w' => r = .returned (.bool true) ∧ Below w.heap.size w w' := by
  have A0 : Hid (∀ w', Calls Try.prog 14 #[.pointer none, .int .u64 5] w' fun r w'' => r = .returned (.int .i64 0) ∧ w'' = w') := fun w' => pto10_none w' none 5 (.inl rfl)
  have A1 : Hid (∀ w' N, ScZ w' N → Calls Try.prog 14 #[.pointer (some ⟨N, 0, none⟩), .int .u64 5] w' fun r w'' => r = .returned (.int .i64 0) ∧ w'' = w') := fun w' N c => pto10_none w' _ 5 (.inr ⟨N, rfl, c⟩)
  have A2 : Hid (∀ w', Calls Try.prog 16 #[.pointer none] w' fun r w'' => r = .returned (.int .i64 0) ∧ w'' = w') := fun w' => ptotal10_none w' none (.inl rfl)
  have A3 : Hid (∀ w' N, ScZ w' N → Calls Try.prog 19 #[.pointer (some ⟨N, 0, none⟩)] w' fun r w'' => r = .returned (.int .i64 0) ∧ w'' = w') := fun w' N c => pstick10_none w' _ (.inr ⟨N, rfl, c⟩)
  have A4 := Lib.hid pfullq10_none
  have A5 : Hid (∀ w' N, ScZ w' N → Calls Try.prog 13 #[.pointer (some ⟨N, 0, none⟩)] w' fun r w'' => r = .returned (.pointer none) ∧ w'' = w') := fun w' N c => pcopy10_none w' _ (.inr ⟨N, rfl, c⟩)
  have N0 : Hid (∀ w, Calls Try.prog 8 #[.int .u64 0] w (NoneP10 w)) := fun w => pnew10_no w 0 (by decide)
  have N1 : Hid (∀ w, Calls Try.prog 8 #[.int .u64 1000000000001] w (NoneP10 w)) := fun w => pnew10_no w 1000000000001 (by decide)
  have N2 : Hid (∀ w, Calls Try.prog 8 #[.int .u64 1] w (NewP10 w 1 0)) := fun w => pnew10_ok w 1 (by decide) (by decide)
  have N3 : Hid (∀ w, Calls Try.prog 8 #[.int .u64 1000000000000] w (NewP10 w 1000000000000 0)) := fun w => pnew10_ok w 1000000000000 (by decide) (by decide)
  have T1 : Hid (∀ w N, Sc w N 1 0 → Calls Try.prog 14 #[.pointer (some ⟨N, 0, none⟩), .int .u64 4611686018427387904] w (ToP10 w N 1 4611686018427387904 4611686018427387904)) := fun w N c => pto10_any w N 1 0 4611686018427387904 4611686018427387904 4611686018427387904 c (by decide) (by decide) (by decide) (by decide) (by decide)
  have T2 : Hid (∀ w N, Sc w N 1 4611686018427387904 → Calls Try.prog 14 #[.pointer (some ⟨N, 0, none⟩), .int .u64 1] w (ToP10 w N 1 4611686018427387905 0)) := fun w N c => pto10_any w N 1 4611686018427387904 1 4611686018427387905 0 c (by decide) (by decide) (by decide) (by decide) (by decide)
  have T3 : Hid (∀ w N, Sc w N 1000000000000 0 → Calls Try.prog 14 #[.pointer (some ⟨N, 0, none⟩), .int .u64 999] w (ToP10 w N 1000000000000 999 0)) := fun w N c => pto10_any w N 1000000000000 0 999 999 0 c (by decide) (by decide) (by decide) (by decide) (by decide)
  have T4 : Hid (∀ w N, Sc w N 1000000000000 999 → Calls Try.prog 14 #[.pointer (some ⟨N, 0, none⟩), .int .u64 1] w (ToP10 w N 1000000000000 1000 1)) := fun w N c => pto10_any w N 1000000000000 999 1 1000 1 c (by decide) (by decide) (by decide) (by decide) (by decide)
  have T5 : Hid (∀ w N, Sc w N 1 0 → Calls Try.prog 14 #[.pointer (some ⟨N, 0, none⟩), .int .u64 4611686018] w (ToP10 w N 1 4611686018 4611686018000000000)) := fun w N c => pto10_any w N 1 0 4611686018 4611686018 4611686018000000000 c (by decide) (by decide) (by decide) (by decide) (by decide)
  have T6 : Hid (∀ w N, Sc w N 1 4611686018 → Calls Try.prog 14 #[.pointer (some ⟨N, 0, none⟩), .int .u64 1] w (ToP10 w N 1 4611686019 427387904)) := fun w N c => pto10_any w N 1 4611686018 1 4611686019 427387904 c (by decide) (by decide) (by decide) (by decide) (by decide)
  have F1 : Hid (∀ w N, Sc w N 1 4611686018427387905 → Calls Try.prog 18 #[.pointer (some ⟨N, 0, none⟩)] w fun r w' => r = .returned (.bool true) ∧ Below w.heap.size w w') := fun w N c => by
    have h := pfullq10_any w N 1 4611686018427387905 c (by decide)
    rwa [decide_eq_true (show totT 1 4611686018427387905 = 4611686018427387904 by decide)] at h
  have F2 : Hid (∀ w N, Sc w N 1 4611686019 → Calls Try.prog 18 #[.pointer (some ⟨N, 0, none⟩)] w fun r w' => r = .returned (.bool true) ∧ Below w.heap.size w w') := fun w N c => by
    have h := pfullq10_any w N 1 4611686019 c (by decide)
    rwa [decide_eq_true (show totT 1 4611686019 = 4611686018427387904 by decide)] at h
  have K0 : Hid (∀ w, Calls Try.prog 10 #[.int .u64 0] w fun r w' => r = .returned (.int .i64 0) ∧ w' = w) := fun w => by
    have h := ptick10_any w 0
    rw [show ((tickN 0 : Nat) : Int) = 0 from by decide] at h
    exact h
  have K1 : Hid (∀ w, Calls Try.prog 10 #[.int .u64 1] w fun r w' => r = .returned (.int .i64 1000000000) ∧ w' = w) := fun w => by
    have h := ptick10_any w 1
    rw [show ((tickN 1 : Nat) : Int) = 1000000000 from by decide] at h
    exact h
  have Z0 : Hid (ScZ (w.alloc (.cells #[.int .u64 0, .int .i64 0, .int .u64 0] 40)) w.heap.size) := heap_alloc_new _ _
  have L0 : Hid (Below w.heap.size w (w.alloc (.cells #[.int .u64 0, .int .i64 0, .int .u64 0] 40))) := (Below.refl _ _).alloc (Nat.le_refl _) _
  go_enter Try.func7, Try.ntmps7
  go_upto_region 3 with (fail)
  generalize w.alloc (.cells #[.int .u64 0, .int .i64 0, .int .u64 0] 40) = v at *
  go_wp2_with fail
  refine (A0.out v).mono ?_; rintro e w0 ⟨rfl, rfl⟩
  go_wp2_with fail
  refine (A1.out w0 _ Z0.out).mono ?_; rintro e w1 ⟨rfl, rfl⟩
  go_wp2_with fail
  refine (A2.out w1).mono ?_; rintro e w2 ⟨rfl, rfl⟩
  go_wp2_with fail
  refine (A3.out w2 _ Z0.out).mono ?_; rintro e w3 ⟨rfl, rfl⟩
  go_wp2_with fail
  refine (A4.out w3).mono ?_; rintro e w4 ⟨rfl, l4⟩
  have Z4 : Hid (ScZ w4 w.heap.size) := (l4.block _ (Array.getElem?_eq_some_iff.1 Z0.out).1).trans Z0.out
  have L4 := Lib.hid (L0.out.trans (l4.mono L0.out.size))
  clear l4 Z0 L0 A0 A1 A2 A3 A4
  go_wp2_with fail
  refine (A5.out w4 _ Z4.out).mono ?_; rintro e w5 ⟨rfl, rfl⟩
  clear A5 Z4
  go_wp2_with fail
  refine (N0.out w5).mono ?_; rintro e w6 ⟨rfl, l6⟩
  have L6 := Lib.hid (L4.out.trans (l6.mono L4.out.size))
  clear l6 L4 N0
  go_wp2_with fail
  refine (N1.out w6).mono ?_; rintro e w7 ⟨rfl, l7⟩
  have L7 := Lib.hid (L6.out.trans (l7.mono L6.out.size))
  clear l7 L6 N1
  go_wp2_with fail
  refine (N2.out w7).mono ?_; rintro e w8 ⟨S, rfl, c8, n8, l8⟩
  have L8 := Lib.hid (L7.out.trans (l8.mono L7.out.size))
  have C8 := Lib.hid c8
  have HS : Hid (w.heap.size ≤ S) := Nat.le_trans L7.out.size n8
  clear c8 n8 l8 L7
  go_wp2_with fail
  refine (N3.out w8).mono ?_; rintro e w9 ⟨T, rfl, c9, n9, l9⟩
  have L9 := Lib.hid (L8.out.trans (l9.mono L8.out.size))
  have S9 := Lib.hid (C8.out.below l9)
  have C9 := Lib.hid c9
  have HT : Hid (w.heap.size ≤ T) := Nat.le_trans L8.out.size n9
  have NE : Hid (S ≠ T) := by unfold Hid; have := C8.out.lt; omega
  clear c9 n9 l9 L8 C8 N3
  go_wp2_with fail
  refine (T1.out w9 S S9.out).mono ?_; rintro e wa ⟨rfl, ca, ta⟩
  have La := Lib.hid (ta.below L9.out HS.out)
  have Sa := Lib.hid ca
  have Ca := Lib.hid (ta.sc C9.out (fun h => NE.out h.symm))
  clear ca ta L9 S9 C9 T1
  go_wp2_with fail
  refine (T2.out wa S Sa.out).mono ?_; rintro e wb ⟨rfl, cb, tb⟩
  have Lb := Lib.hid (tb.below La.out HS.out)
  have Sb := Lib.hid cb
  have Cb := Lib.hid (tb.sc Ca.out (fun h => NE.out h.symm))
  clear cb tb La Sa Ca T2
  go_wp2_with fail
  refine (T3.out wb T Cb.out).mono ?_; rintro e wc ⟨rfl, cc, tc⟩
  have Lc := Lib.hid (tc.below Lb.out HT.out)
  have Cc := Lib.hid cc
  have Sc' := Lib.hid (tc.sc Sb.out NE.out)
  clear cc tc Lb Sb Cb T3
  go_wp2_with fail
  refine (T4.out wc T Cc.out).mono ?_; rintro e wd ⟨rfl, cd, td⟩
  have Ld := Lib.hid (td.below Lc.out HT.out)
  have Sd := Lib.hid (td.sc Sc'.out NE.out)
  clear cd td Lc Sc' Cc T4
  go_wp2_with fail
  refine (N2.out wd).mono ?_; rintro e we ⟨U, rfl, ce, ne, le⟩
  have Le := Lib.hid (Ld.out.trans (le.mono Ld.out.size))
  have Ce := Lib.hid ce
  have Se := Lib.hid (Sd.out.below le)
  have HU : Hid (w.heap.size ≤ U) := Nat.le_trans Ld.out.size ne
  have NU : Hid (S ≠ U) := by unfold Hid; have := Sd.out.lt; omega
  clear ce ne le Ld Sd N2
  go_wp2_with fail
  refine (T5.out we U Ce.out).mono ?_; rintro e wf ⟨rfl, cf, tf⟩
  have Lf := Lib.hid (tf.below Le.out HU.out)
  have Cf := Lib.hid cf
  have Sf := Lib.hid (tf.sc Se.out NU.out)
  clear cf tf Le Se Ce T5
  go_wp2_with fail
  refine (T6.out wf U Cf.out).mono ?_; rintro e wg ⟨rfl, cg, tg⟩
  have Lg := Lib.hid (tg.below Lf.out HU.out)
  have Cg := Lib.hid cg
  have Sg := Lib.hid (tg.sc Sf.out NU.out)
  clear cg tg Lf Sf Cf T6
  go_wp2_with fail
  refine (F1.out wg S Sg.out).mono ?_; rintro e wh ⟨rfl, lh⟩
  have Lh := Lib.hid (Lg.out.trans (lh.mono Lg.out.size))
  have Ch := Lib.hid (Cg.out.below lh)
  clear lh Lg Cg Sg F1
  go_wp2_with fail
  refine (F2.out wh U Ch.out).mono ?_; rintro e wi ⟨rfl, li⟩
  have Li := Lib.hid (Lh.out.trans (li.mono Lh.out.size))
  clear li Lh Ch F2
  go_wp2_with fail
  refine (K0.out wi).mono ?_; rintro e wj ⟨rfl, rfl⟩
  go_wp2_with fail
  refine (K1.out wj).mono ?_; rintro e wk ⟨rfl, rfl⟩
  go_wp2_with fail
  refine (alive10_any wk).mono ?_; rintro e wl ⟨rfl, ll⟩
  have Ll := Lib.hid (Li.out.trans (ll.mono Li.out.size))
  clear ll Li
  go_wp2
  go_ret
  exact ⟨rfl, Ll.out⟩
end Go.Proofs.Ytccfimempjbnfaa
