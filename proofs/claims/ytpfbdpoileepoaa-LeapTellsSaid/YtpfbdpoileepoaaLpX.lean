/- Layer 16 (leap), the program's: Even of none; Next, Bits, List. -/
import Derived.Test.YtpfbdpoileepoaaLpV
set_option maxRecDepth 100000
namespace Go.Proofs.Ytpfbdpoileepoaa
open Go.ChangeShapes Go.WideShapes Go.ChangeAt Go.RowKit SmM

theorem field16_1 (a b c d : Value) (w : World) : (Instr.field 67 (.agg #[a, b, c, d]) 1).run Try.prog w = .ok b w := rfl
theorem peven16_no {w : World} {P : Option Addr} {p : Option Addr} {n c : Nat} {l : List Lp} {e b : Int} (h : HasT w P false p n c l e b) (q : Int) (i : Bool) :
    Calls Try.prog 22 #[.pointer P, .int .i64 q, .bool i] w fun r w' => r = .returned (.tuple #[.int .i64 0, .bool false]) ∧ Below w.heap.size w w' := by
  obtain ⟨AN, BN⟩ := ask_new w P q i
  obtain ⟨V, hV⟩ : ∃ V, ((w.alloc (.cells #[.pointer P] 24)).alloc (.cells #[.int .i64 q] 2)).alloc (.cells #[.bool i] 4) = V := ⟨_, rfl⟩
  rw [hV] at AN BN
  have L0 := Lib.hid BN
  have HE := Lib.hid (h.held V BN)
  have x0 := AN.cells.1
  clear h AN BN
  go_enter Try.func22, Try.ntmps22
  go_wp2_with fail
  clear hV x0
  refine HE.out.mono ?_; rintro e1 w3 ⟨rfl, b3⟩
  have k4 := b3.alloc b3.size (.cells #[.bool false, .slice p n c, .int .i64 e, .int .i64 b] 67)
  have L4 := Lib.hid (L0.out.trans (k4.mono L0.out.size))
  clear HE b3 k4
  go_wp2
  go_ret2
  exact ⟨rfl, L4.out⟩
set_option maxHeartbeats 4000000 in
theorem pnext16 {w : World} {P : Option Addr} {m : Bool} {p : Option Addr} {n c : Nat} {l : List Lp} {e b : Int} (h : HasT w P m p n c l e b) (t : Int) :
    Calls Try.prog 24 #[.pointer P, .int .i64 t] w fun r w' => r = NextE l t ∧ Below w.heap.size w w' := by
  have HT := Lib.hid h
  have LN := Lib.hid h.row.len
  have nb : (n : Int) ≤ 32 := by have := h.few; omega
  have B1 : Below w.heap.size w (w.alloc (.cells #[.int .i64 t] 2)) := (Below.refl _ _).alloc (Nat.le_refl _) _
  have X1 := BoxT.new w t
  have s1 := sz_alloc w (.cells #[.int .i64 t] 2)
  obtain ⟨V1, hV1⟩ : ∃ V1, w.alloc (.cells #[.int .i64 t] 2) = V1 := ⟨_, rfl⟩
  rw [hV1] at B1 X1 s1
  obtain ⟨R, hR⟩ : ∃ R, w.heap.size + 1 = R := ⟨_, rfl⟩
  rw [hR] at s1
  have B2 : Below V1.heap.size V1 (V1.alloc (.cells #[.int .i64 0, .int .i64 0] 33)) := (Below.refl _ _).alloc (Nat.le_refl _) _
  have X2 := heap_alloc_new V1 (.cells #[.int .i64 0, .int .i64 0] 33)
  rw [s1] at X2
  obtain ⟨V2, hV2⟩ : ∃ V2, V1.alloc (.cells #[.int .i64 0, .int .i64 0] 33) = V2 := ⟨_, rfl⟩
  rw [hV2] at B2 X2
  have L2 := Lib.hid (B1.trans (B2.mono B1.size))
  have BX := Lib.hid (X1.below B2)
  have RX := Lib.hid X2
  have HE := Lib.hid (h.held V2 L2.out)
  have WR : Hid (w.heap.size ≤ R) := by unfold Hid; omega
  have PI : Hid (∀ w', Below V2.heap.size V2 w' → Calls Try.prog 47 #[.slice p n c, .func (.func 48) #[] #[.pointer (some ⟨w.heap.size, 0, none⟩)]] w' fun r w'' => FirstQ l n (fun y => decide (t < y.t)) r ∧ Below w'.heap.size w' w'') := fun w' k =>
    pindex16 w' p n c l ((HT.out.row.below L2.out).below k) HT.out.few 48 w.heap.size (fun y => decide (t < y.t)) (enters_of Try.func48 (by kernel_rfl) rfl) (fun w'' y k2 _ => pbehind16 w'' y w.heap.size t ((BX.out.below k).below k2))
  have f1 := field16_1
  clear h B1 X1 B2 X2
  go_enter Try.func24, Try.ntmps24
  go_wp2_with fail
  clear hV1 hV2 hR s1
  refine HE.out.mono ?_; rintro e1 w3 ⟨rfl, b3⟩
  have K3 := Lib.hid b3
  clear HE b3
  go_wp2_with fail
  refine (PI.out _ K3.out).mono ?_; rintro e2 w4 ⟨f4, b4⟩
  clear f1
  have K4 := Lib.hid (K3.out.trans (b4.mono K3.out.size))
  have L4 := Lib.hid (L2.out.trans (K4.out.mono L2.out.size))
  have R4 : w4.heap[R]? = some (.cells #[.int .i64 0, .int .i64 0] 33 (0, 0)) := (K4.out.block _ (Array.getElem?_eq_some_iff.1 RX.out).1).trans RX.out
  have r0 := blk_cell (o := 0) R4
  have r1 := blk_cell (o := 1) R4
  have g0 := blk_free (o := 0) R4
  have g1 := blk_free (o := 1) R4
  simp only [List.getElem?_toArray, List.getElem?_cons_zero, List.getElem?_cons_succ] at r0 r1
  have BV := Lib.hid R4
  clear PI b4 R4 BX RX K3 K4
  rcases f4 with ⟨i, hi, qi, no, rfl⟩ | ⟨no, rfl⟩
  · obtain ⟨a, rfl, c0, c1⟩ := (HT.out.row.below L4.out).cell i hi
    have FN : Hid (NextE l t = .returned (.tuple #[.agg #[.int .i64 (gl l i).t, .int .i64 (gl l i).k], .bool true])) := by
      unfold Hid NextE
      rw [next_some (by rw [LN.out]; exact hi) (of_decide_eq_true qi) (fun j hj => by have := of_decide_eq_false (no j hj); omega)]
    have z1 : (i : Int) < (n : Int) := by omega
    have i0 : (0 : Int) ≤ (i : Int) := by omega
    have i1 : ¬ (i : Int) < 0 := by omega
    have i2 : decide ((i : Int) < 0) = false := decide_eq_false i1
    generalize gl l i = x at *
    obtain ⟨xt, xk⟩ := x
    dsimp only at c0 c1 FN
    have L9 := Lib.hid ((L4.out.setCell (p := ⟨R, 0, none⟩) WR.out (.int .i64 xt)).setCell (p := ⟨R, 1, none⟩) WR.out (.int .i64 xk))
    have BR := Lib.hid (blk_lp BV.out (.int .i64 xt) (.int .i64 xk))
    clear hi qi no
    go_wp2
    refine bodyPost_ret (results_lp rfl _ _ R xt xk rfl BR.out) rfl ?_
    exact ⟨FN.out.symm, L9.out⟩
  · have FN : Hid (NextE l t = .returned (.tuple #[.agg #[.int .i64 0, .int .i64 0], .bool false])) := by
      unfold Hid NextE
      rw [next_none fun j hj => by have := of_decide_eq_false (no j (by have := LN.out; omega)); omega]
    have L9 := Lib.hid ((L4.out.setCell (p := ⟨R, 0, none⟩) WR.out (.int .i64 0)).setCell (p := ⟨R, 1, none⟩) WR.out (.int .i64 0))
    have BR := Lib.hid (blk_lp BV.out (.int .i64 0) (.int .i64 0))
    clear no
    go_wp2
    refine bodyPost_ret (results_lp rfl _ _ R 0 0 rfl BR.out) rfl ?_
    exact ⟨FN.out.symm, L9.out⟩
set_option maxHeartbeats 2000000 in
theorem pbits16 {w : World} {P : Option Addr} {p : Option Addr} {n c : Nat} {l : List Lp} {e b : Int} (h : HasT w P true p n c l e b) (t : Int) :
    Calls Try.prog 28 #[.pointer P, .int .i64 t] w fun e1 w' => e1 = .returned (.int .u8 (bitsI l e t : Nat)) ∧ Below w.heap.size w w' := by
  have HE := Lib.hid (h.held w (Below.refl _ _))
  by_cases g : e ≤ t
  · have g1 : decide (e ≤ t) = true := decide_eq_true g
    have E : bitsI l e t = 3 := by unfold bitsI; rw [if_pos g]
    rw [E]
    clear h E
    go_enter Try.func28, Try.ntmps28
    go_wp2_with fail
    refine HE.out.mono ?_; rintro e1 w3 ⟨rfl, b3⟩
    have L4 := Lib.hid (b3.alloc b3.size (.cells #[.bool true, .slice p n c, .int .i64 e, .int .i64 b] 67))
    clear HE b3
    go_wp2
    go_ret
    exact ⟨rfl, L4.out⟩
  · have g1 : decide (e ≤ t) = false := decide_eq_false g
    have NX : Hid (∀ w', Below w.heap.size w w' → Calls Try.prog 24 #[.pointer P, .int .i64 t] w' fun r w'' => r = NextE l t ∧ Below w'.heap.size w' w'') := fun w' k => pnext16 (h.below k) t
    have E : bitsI l e t = bitsO t (nextI l t) := by unfold bitsI; rw [if_neg g]
    have IN : ∀ y, nextI l t = some y → dayI ≤ y.t ∧ y.t ≤ topI := fun y hy => by
      have := h.ok.1 y (List.mem_of_find?_eq_some hy)
      exact ⟨this.1, this.2.1⟩
    unfold NextE at NX
    rw [E]
    generalize nextI l t = o at *
    clear h E g
    cases o with
    | none =>
      have E0 : bitsO t none = 0 := rfl
      rw [E0]
      clear IN
      go_enter Try.func28, Try.ntmps28
      go_wp2_with fail
      refine HE.out.mono ?_; rintro e1 w3 ⟨rfl, b3⟩
      have L4 := Lib.hid (b3.alloc b3.size (.cells #[.bool true, .slice p n c, .int .i64 e, .int .i64 b] 67))
      have N4 := Lib.hid (NX.out _ L4.out)
      clear HE b3 NX
      go_wp2_with fail
      refine N4.out.mono ?_; rintro e1 w5 ⟨rfl, b5⟩
      have k5 := L4.out.trans (b5.mono L4.out.size)
      have L5 := Lib.hid (k5.alloc k5.size (.cells #[.int .i64 0, .int .i64 0] 33))
      clear b5 k5 N4
      go_wp2
      go_ret
      exact ⟨rfl, L5.out⟩
    | some y =>
      have yb := IN y rfl
      unfold bitsO
      obtain ⟨yt, yk⟩ := y
      unfold dayI topI at yb
      unfold dayI
      dsimp only at yb NX ⊢
      obtain ⟨f, hf⟩ : ∃ f, yt - 86400000000000 = f := ⟨_, rfl⟩
      rw [hf]
      obtain ⟨w1, w2⟩ := wr16 (x := f) (by unfold I64; omega)
      clear yb IN
      by_cases q : t < f
      · have q1 : decide (t < f) = true := decide_eq_true q
        rw [if_pos q]
        clear q
        go_enter Try.func28, Try.ntmps28
        go_wp2_with fail
        refine HE.out.mono ?_; rintro e1 w3 ⟨rfl, b3⟩
        have L4 := Lib.hid (b3.alloc b3.size (.cells #[.bool true, .slice p n c, .int .i64 e, .int .i64 b] 67))
        have N4 := Lib.hid (NX.out _ L4.out)
        clear HE b3 NX
        go_wp2_with fail
        refine N4.out.mono ?_; rintro e1 w5 ⟨rfl, b5⟩
        have k5 := L4.out.trans (b5.mono L4.out.size)
        have L5 := Lib.hid (k5.alloc k5.size (.cells #[.int .i64 yt, .int .i64 yk] 33))
        clear b5 k5 N4
        go_wp2
        go_ret
        exact ⟨rfl, L5.out⟩
      · have q1 : decide (t < f) = false := decide_eq_false q
        rw [if_neg q]
        clear q
        by_cases k1 : yk = 1
        · have k2 : (yk == 1) = true := by rw [beq_iff_eq]; exact k1
          rw [if_pos k1]
          clear k1
          go_enter Try.func28, Try.ntmps28
          go_wp2_with fail
          refine HE.out.mono ?_; rintro e1 w3 ⟨rfl, b3⟩
          have L4 := Lib.hid (b3.alloc b3.size (.cells #[.bool true, .slice p n c, .int .i64 e, .int .i64 b] 67))
          have N4 := Lib.hid (NX.out _ L4.out)
          clear HE b3 NX
          go_wp2_with fail
          refine N4.out.mono ?_; rintro e1 w5 ⟨rfl, b5⟩
          have k5 := L4.out.trans (b5.mono L4.out.size)
          have L5 := Lib.hid (k5.alloc k5.size (.cells #[.int .i64 yt, .int .i64 yk] 33))
          clear b5 k5 N4
          go_wp2
          go_ret
          exact ⟨rfl, L5.out⟩
        · have k2 : (yk == 1) = false := by rw [beq_eq_false_iff_ne]; exact k1
          rw [if_neg k1]
          go_enter Try.func28, Try.ntmps28
          go_wp2_with fail
          refine HE.out.mono ?_; rintro e1 w3 ⟨rfl, b3⟩
          have L4 := Lib.hid (b3.alloc b3.size (.cells #[.bool true, .slice p n c, .int .i64 e, .int .i64 b] 67))
          have N4 := Lib.hid (NX.out _ L4.out)
          clear HE b3 NX
          go_wp2_with fail
          refine N4.out.mono ?_; rintro e1 w5 ⟨rfl, b5⟩
          have k5 := L4.out.trans (b5.mono L4.out.size)
          have L5 := Lib.hid (k5.alloc k5.size (.cells #[.int .i64 yt, .int .i64 yk] 33))
          clear b5 k5 N4
          go_wp2
          go_ret
          exact ⟨rfl, L5.out⟩
theorem pbits16_no {w : World} {P : Option Addr} {p : Option Addr} {n c : Nat} {l : List Lp} {e b : Int} (h : HasT w P false p n c l e b) (t : Int) :
    Calls Try.prog 28 #[.pointer P, .int .i64 t] w fun e1 w' => e1 = .returned (.int .u8 3) ∧ Below w.heap.size w w' := by
  have HE := Lib.hid (h.held w (Below.refl _ _))
  clear h
  go_enter Try.func28, Try.ntmps28
  go_wp2_with fail
  refine HE.out.mono ?_; rintro e1 w3 ⟨rfl, b3⟩
  have L4 := Lib.hid (b3.alloc b3.size (.cells #[.bool false, .slice p n c, .int .i64 e, .int .i64 b] 67))
  clear HE b3
  go_wp2
  go_ret
  exact ⟨rfl, L4.out⟩
theorem plist16 {w : World} {P : Option Addr} {m : Bool} {p : Option Addr} {n c : Nat} {l : List Lp} {e b : Int} (h : HasT w P m p n c l e b) :
    Calls Try.prog 14 #[.pointer P] w fun r w' => ∃ q d, r = .returned (.slice q n d) ∧ OwnL w' w.heap.size q n d l ∧ Below w.heap.size w w' := by
  have HE := Lib.hid (h.held w (Below.refl _ _))
  have HT := Lib.hid h
  have f1 := field16_1
  clear h
  go_enter Try.func14, Try.ntmps14
  go_wp2_with fail
  refine HE.out.mono ?_; rintro e1 w3 ⟨rfl, b3⟩
  have CL := Lib.hid (pclone15 w3 p n c l (HT.out.row.below b3) (by have := HT.out.few; omega))
  have L3 := Lib.hid b3
  clear b3 HE
  go_wp2_with fail
  refine CL.out.mono ?_; rintro e2 w4 ⟨q, d, rfl, o4, b4⟩
  have O4 := Lib.hid (own_base o4 L3.out.size)
  have L4 := Lib.hid (L3.out.trans (b4.mono L3.out.size))
  clear o4 b4 CL
  go_wp2
  go_ret
  exact ⟨q, d, rfl, O4.out, L4.out⟩
end Go.Proofs.Ytpfbdpoileepoaa
