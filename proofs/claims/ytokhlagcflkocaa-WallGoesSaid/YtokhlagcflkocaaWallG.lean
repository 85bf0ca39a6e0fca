/- Layer 12 (wall): the document's own rates; the chapter's rows. -/
import Derived.Test.YtokhlagcflkocaaWallF
import Derived.Test.YtokhlagcflkocaaWallD
set_option maxRecDepth 100000
namespace Go.Proofs.Ytokhlagcflkocaa
open Go.ChangeShapes Go.WideShapes Go.ChangeAt Go.RowKit WallM BigM

theorem rateQ_sign {a k : Int} (h : 0 < k) : (0 < a → 0 ≤ rateQ a k) ∧ (a < 0 → rateQ a k ≤ 0) ∧ (a = 0 → rateQ a k = 0) := by
  refine ⟨fun p => ?_, fun p => ?_, fun p => ?_⟩
  · unfold rateQ
    rw [if_pos p]
    have := quo_le (p := -(a * 1000000000)) (G := 0) h (by omega)
    omega
  · unfold rateQ
    rw [if_neg (by omega)]
    exact quo_le (G := 0) h (by omega)
  · subst p
    unfold rateQ
    simp

set_option maxHeartbeats 1000000 in
/-- The body of the document's Rate, where the stretch is not 0. -/
theorem rrate12_core (w : World) (a n k q : Int) (up : Bool) (hn : I64 n) (hk : inst n = k) (k0 : 0 < k) (hu : decide (0 < a) = up) (hq : rateQ a k = q)
    (MD : ∀ w, Calls Try.prog 39 #[.int .i64 a, .int .i64 1000000000, .int .i64 k, .bool up] w (TwoPost w (outN q) (outE q))) :
    Calls Try.prog 21 #[.int .i64 a, .int .i64 n] w (IntB w (bnd q)) := by
  have TI := Lib.hid (rtime12_any w n hn)
  have sg := rateQ_sign (a := a) k0
  rw [hk] at TI
  rw [hq] at sg
  have F : Hid (∀ w', Below w.heap.size w w' → IntB w (bnd q) (.returned (.int .i64 (cl q (-500000) 500000))) w') := fun w' l => ⟨rfl, l⟩
  have M := Lib.hid MD
  have kz : (k == 0) = false := by simp; omega
  clear MD hq hk
  by_cases iq : I64 q
  · have OF := Lib.hid (fun w => ofz_any w q iq)
    have WI := Lib.hid (fun w x h => rwithin12_any w x q (-500000) 500000 4 h (by decide) ⟨by decide, by decide⟩ ⟨by decide, by decide⟩)
    simp only [outN_ok iq, outE_ok iq] at M
    clear iq sg
    go_enter Try.func21, Try.ntmps21
    go_wp2_with fail
    refine TI.out.mono ?_; rintro e w1 ⟨rfl, l⟩
    have L1 := Lib.hid l
    clear l
    go_wp2_with fail
    refine (M.out w1).mono ?_; rintro e w2 ⟨rfl, l⟩
    have L2 := Lib.hid (L1.out.trans (l.mono L1.out.size))
    clear l
    go_wp2_with fail
    refine (OF.out w2).mono ?_; rintro e w3 ⟨x, rfl, g, l⟩
    have L3 := Lib.hid (L2.out.trans (l.mono L2.out.size))
    clear l
    go_wp2_with fail
    refine (WI.out w3 x g).mono ?_; rintro e w4 ⟨rfl, l⟩
    have FF := Lib.hid (F.out _ (L3.out.trans (l.mono L3.out.size)))
    clear l g
    go_wp2
    go_ret
    exact FF.out
  · simp only [outN_no iq, outE_no iq] at M
    by_cases neg : a < 0
    · have bl : bnd q = -500000 := bnd_lo (by have := sg.2.1 neg; unfold I64 at iq; omega)
      have FF : Hid (∀ w', Below w.heap.size w w' → IntB w (bnd q) (.returned (.int .i64 (-500000))) w') := fun w' l => ⟨by rw [bl], l⟩
      have ut : up = false := by rw [← hu]; exact decide_eq_false (by omega)
      subst ut
      clear iq sg F bl
      go_enter Try.func21, Try.ntmps21
      go_wp2_with fail
      refine TI.out.mono ?_; rintro e w1 ⟨rfl, l⟩
      have L1 := Lib.hid l
      clear l
      go_wp2_with fail
      refine (M.out w1).mono ?_; rintro e w2 ⟨rfl, l⟩
      have L2 := Lib.hid (L1.out.trans (l.mono L1.out.size))
      clear l
      go_wp2
      go_ret
      exact FF.out _ L2.out
    · have pos : 0 < a := by
        by_cases z : a = 0
        · exfalso
          apply iq
          rw [sg.2.2 z]
          exact ⟨by decide, by decide⟩
        · omega
      have bl : bnd q = 500000 := bnd_hi (by have := sg.1 pos; unfold I64 at iq; omega)
      have FF : Hid (∀ w', Below w.heap.size w w' → IntB w (bnd q) (.returned (.int .i64 500000)) w') := fun w' l => ⟨by rw [bl], l⟩
      have d2 : decide (a < 0) = false := decide_eq_false neg
      have ut : up = true := by rw [← hu]; exact decide_eq_true pos
      subst ut
      clear iq sg F bl neg
      go_enter Try.func21, Try.ntmps21
      go_wp2_with fail
      refine TI.out.mono ?_; rintro e w1 ⟨rfl, l⟩
      have L1 := Lib.hid l
      clear l
      go_wp2_with fail
      refine (M.out w1).mono ?_; rintro e w2 ⟨rfl, l⟩
      have L2 := Lib.hid (L1.out.trans (l.mono L1.out.size))
      clear l
      go_wp2
      go_ret
      exact FF.out _ L2.out

theorem rrate12_any (w : World) (a n : Int) (ha : I64 a) (hn : I64 n) : Calls Try.prog 21 #[.int .i64 a, .int .i64 n] w (IntB w (rateN a n)) := by
  have i := inst_in n
  unfold rateN
  by_cases z : inst n = 0
  · rw [if_pos z]
    have TI := Lib.hid (rtime12_any w n hn)
    rw [z] at TI
    clear i z ha hn
    go_enter Try.func21, Try.ntmps21
    go_wp2_with fail
    refine TI.out.mono ?_; rintro e w1 ⟨rfl, l⟩
    have F : Hid (IntB w 0 (.returned (.int .i64 0)) w1) := ⟨rfl, l⟩
    clear l
    go_wp2
    go_ret
    exact F.out
  · rw [if_neg z]
    have k0 : 0 < inst n := by omega
    by_cases p : 0 < a
    · refine rrate12_core w a n _ _ true hn rfl k0 (decide_eq_true p) rfl fun w => ?_
      have h := rmuldiv_any a 1000000000 (inst n) true ha ⟨by decide, by decide⟩ ⟨by omega, by omega⟩ k0 w
      have e : quoI (a * 1000000000) (inst n) true = rateQ a (inst n) := by unfold rateQ; rw [if_pos p]; rfl
      rw [e] at h
      exact h
    · refine rrate12_core w a n _ _ false hn rfl k0 (decide_eq_false p) rfl fun w => ?_
      have h := rmuldiv_any a 1000000000 (inst n) false ha ⟨by decide, by decide⟩ ⟨by omega, by omega⟩ k0 w
      have e : quoI (a * 1000000000) (inst n) false = rateQ a (inst n) := by unfold rateQ; rw [if_neg p]; rfl
      rw [e] at h
      exact h

theorem rslewed12_any (w : World) (r n : Int) (hr : I64 r) (hn : I64 n) : Calls Try.prog 23 #[.int .i64 r, .int .i64 n] w (IntB w (slewN r n)) := by
  have i := inst_in n
  have j := bnd_in r
  have TI := Lib.hid (rtime12_any w n hn)
  have OF := Lib.hid (fun w => ofz_any w r hr)
  have WI : Hid (∀ w x, BigZ w x r 4 → Calls Try.prog 31 #[x, .int .i64 (-500000), .int .i64 500000] w (IntB w (bnd r))) := fun w x h => rwithin12_any w x r (-500000) 500000 4 h (by decide) ⟨by decide, by decide⟩ ⟨by decide, by decide⟩
  have si := slew_in r n
  unfold slewN at si ⊢
  have MD := fun w => rmuldiv_any (inst n) (bnd r) 1000000000 false ⟨by omega, by omega⟩ ⟨by omega, by omega⟩ ⟨by decide, by decide⟩ (by decide) w
  have eq : quoI (inst n * bnd r) 1000000000 false = inst n * bnd r / 1000000000 := rfl
  have ii : I64 (inst n * bnd r / 1000000000) := ⟨by omega, by omega⟩
  simp only [eq, outN_ok ii, outE_ok ii] at MD
  replace MD := Lib.hid MD
  generalize inst n * bnd r / 1000000000 = q at *
  generalize inst n = x at *
  generalize bnd r = y at *
  clear i j si eq ii hr hn
  go_enter Try.func23, Try.ntmps23
  go_wp2_with fail
  refine TI.out.mono ?_; rintro e w1 ⟨rfl, l⟩
  have L1 := Lib.hid l
  clear l
  go_wp2_with fail
  refine (OF.out _).mono ?_; rintro e w2 ⟨z, rfl, g, l⟩
  have L2 := Lib.hid (L1.out.trans (l.mono L1.out.size))
  clear l
  go_wp2_with fail
  refine (WI.out w2 z g).mono ?_; rintro e w3 ⟨rfl, l⟩
  have L3 := Lib.hid (L2.out.trans (l.mono L2.out.size))
  clear l g
  go_wp2_with fail
  refine (MD.out _).mono ?_; rintro e w4 ⟨rfl, l⟩
  have F : Hid (IntB w q (.returned (.int .i64 q)) w4) := ⟨rfl, L3.out.trans (l.mono L3.out.size)⟩
  clear l
  go_wp2
  go_ret
  exact F.out

set_option maxHeartbeats 1000000 in
theorem alive12_any (w : World) :
    Calls Try.prog 10 #[] w fun r w' => r = .returned (.bool true) ∧ Below w.heap.size w w' := by
  have NW : Hid (∀ w, Calls Try.prog 8 #[.int .i64 100] w (NewE12 w ⟨100, 0⟩)) := fun w => pnew12_ok w 100 (by decide) (by decide)
  have o1 : (Wl.mk 100 0).Ok := ⟨by decide, by decide⟩
  have o2 : (Wl.mk 50 1).Ok := ⟨by decide, by decide⟩
  have A1 : Hid (∀ w N, Wal w N ⟨100, 0⟩ → Calls Try.prog 18 #[.pointer (some ⟨N, 0, none⟩), .int .i64 5] w (IntB w 105)) := fun w N c => pAt12_any w N _ 5 c o1
  have S1 : Hid (∀ w N, Wal w N ⟨100, 0⟩ → Calls Try.prog 12 #[.pointer (some ⟨N, 0, none⟩), .int .i64 (-50)] w (StepP12 w N ⟨50, 1⟩ 0)) := fun w N c => pstep12_any w N _ (-50) c o1 ⟨by decide, by decide⟩ (by decide) (by decide)
  have A2 : Hid (∀ w N, Wal w N ⟨50, 1⟩ → Calls Try.prog 18 #[.pointer (some ⟨N, 0, none⟩), .int .i64 5] w (IntB w 55)) := fun w N c => pAt12_any w N _ 5 c o2
  have W1 : Hid (∀ w N, Wal w N ⟨50, 1⟩ → Calls Try.prog 16 #[.pointer (some ⟨N, 0, none⟩), .int .i64 60] w (WhenP12 w 10 true)) := fun w N c => pWhen12_any w N _ 60 c o2 ⟨by decide, by decide⟩
  have R1 : Hid (∀ w, Calls Try.prog 20 #[.int .i64 1000, .int .i64 1000000000] w (IntB w 1000)) := fun w => prate12_any w 1000 1000000000
  have R2 : Hid (∀ w, Calls Try.prog 20 #[.int .i64 1000000000, .int .i64 1000000000] w (IntB w 500000)) := fun w => prate12_any w 1000000000 1000000000
  have R3 : Hid (∀ w, Calls Try.prog 20 #[.int .i64 (-1), .int .i64 3000000] w (IntB w (-334))) := fun w => prate12_any w (-1) 3000000
  clear o1 o2
  go_enter Try.func10, Try.ntmps10
  go_wp2_with fail
  refine (NW.out w).mono ?_; rintro e w1 ⟨N, rfl, c, hN, l⟩
  have C1 := Lib.hid c
  have HN := Lib.hid hN
  have L1 := Lib.hid l
  clear c hN l NW
  go_wp2_with fail
  refine (A1.out w1 N C1.out).mono ?_; rintro e w2 ⟨rfl, l⟩
  have C2 := Lib.hid (C1.out.below l)
  have L2 := Lib.hid (L1.out.trans (l.mono L1.out.size))
  clear l C1 L1 A1
  go_wp2_with fail
  refine (S1.out w2 N C2.out).mono ?_; rintro e w3 ⟨rfl, c, t⟩
  have C3 := Lib.hid c
  have L3 := Lib.hid (t.below L2.out HN.out)
  clear c t C2 L2 S1
  go_wp2_with fail
  refine (A2.out w3 N C3.out).mono ?_; rintro e w4 ⟨rfl, l⟩
  have C4 := Lib.hid (C3.out.below l)
  have L4 := Lib.hid (L3.out.trans (l.mono L3.out.size))
  clear l C3 L3 A2
  go_wp2_with fail
  refine (W1.out w4 N C4.out).mono ?_; rintro e w5 ⟨rfl, l⟩
  have L5 := Lib.hid (L4.out.trans (l.mono L4.out.size))
  clear l C4 L4 W1
  go_wp2_with fail
  refine (R1.out w5).mono ?_; rintro e w6 ⟨rfl, l⟩
  have L6 := Lib.hid (L5.out.trans (l.mono L5.out.size))
  clear l L5 R1
  go_wp2_with fail
  refine (R2.out w6).mono ?_; rintro e w7 ⟨rfl, l⟩
  have L7 := Lib.hid (L6.out.trans (l.mono L6.out.size))
  clear l L6 R2
  go_wp2_with fail
  refine (R3.out w7).mono ?_; rintro e w8 ⟨rfl, l⟩
  have L8 := Lib.hid (L7.out.trans (l.mono L7.out.size))
  clear l L7 R3
  go_wp2
  go_ret
  exact ⟨rfl, L8.out⟩
end Go.Proofs.Ytokhlagcflkocaa
