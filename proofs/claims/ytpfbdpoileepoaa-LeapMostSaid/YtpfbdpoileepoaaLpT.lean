/- Layer 16 (leap), the program's: Offset, Label. -/
import Derived.Test.YtpfbdpoileepoaaLpR
set_option maxRecDepth 100000
namespace Go.Proofs.Ytpfbdpoileepoaa
open Go.ChangeShapes Go.WideShapes Go.ChangeAt Go.RowKit SmM

set_option maxHeartbeats 4000000 in
theorem padd16 (w : World) (m : Bool) (p : Option Addr) (n c : Nat) (l : List Lp) (e b : Int) (B : Nat) (t : Int) (hB : BoxT w B t) (h : HoldsL w p n c l) (ok : OkL l) (few : n ≤ 32) (bb : -1000 ≤ b ∧ b ≤ 1000) :
    Calls Try.prog 45 #[.agg #[.bool m, .slice p n c, .int .i64 e, .int .i64 b], .func (.func 46) #[] #[.pointer (some ⟨B, 0, none⟩)]] w fun r w' => r = .returned (.int .i64 (offI l b t)) ∧ Below w.heap.size w w' := by
  have HL := Lib.hid h
  have OK := Lib.hid ok
  have LN := Lib.hid h.len
  have BB := Lib.hid bb
  have HB := Lib.hid hB
  have nb : (n : Int) ≤ 32 := by omega
  have L0 := Lib.hid ((Below.refl w.heap.size w).alloc (Nat.le_refl _) (.cells #[.bool m, .slice p n c, .int .i64 e, .int .i64 b] 67))
  clear h ok few bb hB
  go_enter Try.func45, Try.ntmps45
  go_wp2_with fail
  go_loopw [5, 13] (fun vv ii wr => ∃ (i : Nat) (v : Int), vv = .int .i64 v ∧ ii = .int .i64 (i : Nat) ∧ Hid (v = offI (l.take i) b t ∧ i ≤ n) ∧ Hid (Below w.heap.size w wr)) (fun _ ii _ => 1000 - (intOf ii).toNat)
  case atStart => exact ⟨0, b, rfl, rfl, ⟨by rw [List.take_zero]; unfold offI kindsI; simp, Nat.zero_le _⟩, L0⟩
  case round =>
    obtain ⟨i, v, rfl, rfl, I, L⟩ := hrel
    have i0 : (0 : Int) ≤ (i : Int) := by omega
    have i32 : (i : Int) ≤ 32 := by have := I.out.2; omega
    by_cases z : i < n
    · have z1 : (i : Int) < (n : Int) := by omega
      obtain ⟨a, rfl, c0, c1⟩ := (HL.out.below L.out).cell i z
      have il : i < l.length := by rw [LN.out]; exact z
      have TT := kinds_take il t
      have kb := kinds_in OK.out i t
      have kb2 := kinds_in OK.out (i + 1) t
      have bb := BB.out
      have ll := LN.out
      have VE : v = b + kindsI (l.take i) t := I.out.1
      have NX : Hid (i + 1 ≤ n) := z
      generalize hx : gl l i = x at *
      obtain ⟨xt, xk⟩ := x
      dsimp only at c0 c1 TT
      have L1 := L.out.alloc L.out.size (.cells #[.int .i64 xt, .int .i64 xk] 33)
      have Y1 := heap_alloc_new wr (.cells #[.int .i64 xt, .int .i64 xk] 33)
      have PC := Lib.hid (pcount16 (wr.alloc (.cells #[.int .i64 xt, .int .i64 xk] 33)) ⟨xt, xk⟩ B t (HB.out.below L1))
      have LL := Lib.hid L1
      have YY := Lib.hid Y1
      dsimp only at PC
      by_cases g : xt ≤ t
      · have g1 : decide (xt ≤ t) = true := decide_eq_true g
        rw [if_pos g] at TT
        obtain ⟨v2, hv2⟩ : ∃ v2, v + xk = v2 := ⟨_, rfl⟩
        have W := wr16 (x := v2) (by unfold I64; omega)
        obtain ⟨w1, w2⟩ := W
        have IN : Hid (v2 = offI (l.take (i + 1)) b t) := by unfold Hid offI; omega
        rw [g1] at PC
        clear z il TT kb kb2 bb ll VE I hx L1 Y1 g g1
        go_wp2_with fail
        refine PC.out.mono ?_; rintro r w7 ⟨rfl, b7⟩
        have x1 : w7.cell? ⟨wr.heap.size, 1, none⟩ = some (.int .i64 xk) := blk_cell ((b7.block _ (Array.getElem?_eq_some_iff.1 YY.out).1).trans YY.out)
        have L7 := Lib.hid (LL.out.trans (b7.mono LL.out.size))
        clear b7 PC LL YY L c0 c1
        go_wp2_with fail
        go_roundw
        case rel => exact ⟨i + 1, v2, rfl, by go_num, ⟨IN.out, NX.out⟩, L7⟩
        case measure => simp [intOf]; omega
      · have g1 : decide (xt ≤ t) = false := decide_eq_false g
        rw [if_neg g] at TT
        have IN : Hid (v = offI (l.take (i + 1)) b t) := by unfold Hid offI; omega
        rw [g1] at PC
        clear z il TT kb kb2 bb ll VE I hx L1 Y1 g g1
        go_wp2_with fail
        refine PC.out.mono ?_; rintro r w7 ⟨rfl, b7⟩
        have L7 := Lib.hid (LL.out.trans (b7.mono LL.out.size))
        clear b7 PC LL YY L c0 c1
        go_wp2_with fail
        go_roundw
        case rel => exact ⟨i + 1, v, rfl, by go_num, ⟨IN.out, NX.out⟩, L7⟩
        case measure => simp [intOf]; omega
    · have z1 : (n : Int) ≤ (i : Int) := by omega
      have z2 : decide ((i : Int) < (n : Int)) = false := decide_eq_false (by omega)
      have FV : Hid (Ending.returned (.int .i64 v) = .returned (.int .i64 (offI l b t))) := by
        unfold Hid
        rw [I.out.1, List.take_of_length_le (by rw [LN.out]; omega)]
      clear z I
      go_wp2
      go_ret
      exact ⟨FV.out, L.out⟩
theorem poff16 {w : World} {P : Option Addr} {m : Bool} {p : Option Addr} {n c : Nat} {l : List Lp} {e b : Int} (h : HasT w P m p n c l e b) (t : Int) :
    Calls Try.prog 23 #[.pointer P, .int .i64 t] w fun r w' => r = .returned (.int .i64 (offI l b t)) ∧ Below w.heap.size w w' := by
  have L0 := Lib.hid ((Below.refl w.heap.size w).alloc (Nat.le_refl _) (.cells #[.int .i64 t] 2))
  have HE := Lib.hid (h.held _ L0.out)
  have AD : Hid (∀ w', Below (w.alloc (.cells #[.int .i64 t] 2)).heap.size (w.alloc (.cells #[.int .i64 t] 2)) w' → Calls Try.prog 45 #[.agg #[.bool m, .slice p n c, .int .i64 e, .int .i64 b], .func (.func 46) #[] #[.pointer (some ⟨w.heap.size, 0, none⟩)]] w' fun r w'' => r = .returned (.int .i64 (offI l b t)) ∧ Below w'.heap.size w' w'') := fun w' k =>
    padd16 w' m p n c l e b w.heap.size t ((BoxT.new w t).below k) ((h.row.below L0.out).below k) h.ok h.few h.bb
  clear h
  go_enter Try.func23, Try.ntmps23
  go_wp2_with fail
  refine HE.out.mono ?_; rintro r w1 ⟨rfl, b1⟩
  have A1 := Lib.hid (AD.out _ b1)
  have L1 := Lib.hid (L0.out.trans (b1.mono L0.out.size))
  clear HE AD b1
  go_wp2_with fail
  refine A1.out.mono ?_; rintro r w2 ⟨rfl, b2⟩
  have L2 := Lib.hid (L1.out.trans (b2.mono L1.out.size))
  clear A1 b2
  go_wp2
  go_ret
  exact ⟨rfl, L2.out⟩
theorem pseconds16 (w : World) (k s : Int) (h : k * 1000000000 = s) (hs : I64 s) : Calls Try.prog 41 #[.int .i64 k] w fun r w' => r = .returned (.int .i64 s) ∧ w' = w := by
  obtain ⟨w1, w2⟩ := wr16 hs
  clear hs
  go_enter Try.func41, Try.ntmps41
  go_wp2
  go_ret
  exact ⟨rfl, rfl⟩
theorem pinstant16 (w : World) (t : Int) : Calls Try.prog 30 #[.int .i64 t] w fun r w' => r = .returned (.bool (decide (0 ≤ t ∧ t ≤ topI))) ∧ w' = w := by
  unfold topI
  by_cases g : 0 ≤ t
  · have g1 : decide (0 ≤ t) = true := decide_eq_true g
    by_cases k : t ≤ 4611686018427387904
    · have k1 : decide (t ≤ 4611686018427387904) = true := decide_eq_true k
      rw [decide_eq_true (show 0 ≤ t ∧ t ≤ 4611686018427387904 from ⟨g, k⟩)]
      go_enter Try.func30, Try.ntmps30
      go_wp2
      go_ret
      exact ⟨rfl, rfl⟩
    · have k1 : decide (t ≤ 4611686018427387904) = false := decide_eq_false k
      rw [decide_eq_false (show ¬ (0 ≤ t ∧ t ≤ 4611686018427387904) from fun h => k h.2)]
      go_enter Try.func30, Try.ntmps30
      go_wp2
      go_ret
      exact ⟨rfl, rfl⟩
  · have g1 : decide (0 ≤ t) = false := decide_eq_false g
    rw [decide_eq_false (show ¬ (0 ≤ t ∧ t ≤ 4611686018427387904) from fun h => g h.1)]
    go_enter Try.func30, Try.ntmps30
    go_wp2
    go_ret
    exact ⟨rfl, rfl⟩
set_option maxHeartbeats 4000000 in
/-- Label, of a table: any instant whose label is no number that wraps. -/
theorem plab16 {w : World} {P : Option Addr} {p : Option Addr} {n c : Nat} {l : List Lp} {e b : Int} (h : HasT w P true p n c l e b) (t : Int) (ht : I64 (labI l b t)) :
    Calls Try.prog 21 #[.pointer P, .int .i64 t] w fun r w' => r = .returned (.tuple #[.int .i64 (labI l b t), .bool (insB l t)]) ∧ Below w.heap.size w w' := by
  have L0 := Lib.hid ((Below.refl w.heap.size w).alloc (Nat.le_refl _) (.cells #[.int .i64 t] 2))
  have HE := Lib.hid (h.held _ L0.out)
  have HT := Lib.hid h
  have BX := Lib.hid (BoxT.new w t)
  have ob := off_bound h.ok (by rw [h.row.len]; exact h.few) h.bb t
  obtain ⟨o, ho⟩ : ∃ o, offI l b t = o := ⟨_, rfl⟩
  obtain ⟨r, hr⟩ : ∃ r, labI l b t = r := ⟨_, rfl⟩
  rw [hr] at ht ⊢
  unfold labI at hr
  rw [ho] at ob hr
  obtain ⟨s, hs⟩ : ∃ s, o * 1000000000 = s := ⟨_, rfl⟩
  rw [hs] at hr
  obtain ⟨w1, w2⟩ := wr16 ht
  have SE : Hid (∀ w', Calls Try.prog 41 #[.int .i64 o] w' fun r w'' => r = .returned (.int .i64 s) ∧ w'' = w') := fun w' => pseconds16 w' o s hs (by unfold I64; omega)
  have OF : Hid (∀ w', Below w.heap.size w w' → Calls Try.prog 23 #[.pointer P, .int .i64 t] w' fun r w'' => r = .returned (.int .i64 o) ∧ Below w'.heap.size w' w'') := fun w' k => by
    rw [← ho]
    exact poff16 (HT.out.below k) t
  have CF : Hid (∀ w', Below (w.alloc (.cells #[.int .i64 t] 2)).heap.size (w.alloc (.cells #[.int .i64 t] 2)) w' → Calls Try.prog 42 #[.slice p n c, .func (.func 40) #[] #[.pointer (some ⟨w.heap.size, 0, none⟩)]] w' fun r w'' => r = .returned (.bool (insB l t)) ∧ Below w'.heap.size w' w'') := fun w' k =>
    pcontains16 w' p n c l ((HT.out.row.below L0.out).below k) HT.out.few 40 w.heap.size (insX t) (enters_of Try.func40 (by kernel_rfl) rfl) (fun w'' y k2 hy => pinsert16 w'' y w.heap.size t ((BX.out.below k).below k2) (by have := HT.out.ok.1 y hy; exact ⟨this.1, this.2.1⟩))
  generalize insB l t = i at *
  obtain ⟨V, hV⟩ : ∃ V, w.alloc (.cells #[.int .i64 t] 2) = V := ⟨_, rfl⟩
  rw [hV] at L0 HE BX CF
  clear h ht ob ho hs
  go_enter Try.func21, Try.ntmps21
  go_wp2_with fail
  clear hV
  refine HE.out.mono ?_; rintro e1 w3 ⟨rfl, b3⟩
  have k4 := b3.alloc b3.size (.cells #[.bool true, .slice p n c, .int .i64 e, .int .i64 b] 67)
  have Y4 := heap_alloc_new w3 (.cells #[.bool true, .slice p n c, .int .i64 e, .int .i64 b] 67)
  have ylt := (Array.getElem?_eq_some_iff.1 Y4).1
  obtain ⟨W4, hW4⟩ : ∃ W4, w3.alloc (.cells #[.bool true, .slice p n c, .int .i64 e, .int .i64 b] 67) = W4 := ⟨_, rfl⟩
  rw [hW4] at k4 Y4 ylt
  have K4 := Lib.hid k4
  have SC : Hid (∀ w', Below W4.heap.size W4 w' → w'.cell? ⟨w.heap.size, 0, none⟩ = some (.int .i64 t) ∧ w'.cell? ⟨w3.heap.size, 1, none⟩ = some (.slice p n c)) := fun w' k =>
    ⟨((BX.out.below K4.out).below k).cell, blk_cell ((k.block _ ylt).trans Y4)⟩
  have y0 := blk_cell (o := 0) Y4
  simp only [List.getElem?_toArray, List.getElem?_cons_zero] at y0
  have HB0 : Below W4.heap.size W4 W4.drew := (Below.refl _ _).drew
  clear HE b3 k4 Y4 ylt
  go_wp2_with fail
  clear hW4 y0
  refine wp_region_held_drew (S := fun w' => w'.cell? ⟨w.heap.size, 0, none⟩ = some (.int .i64 t) ∧ w'.cell? ⟨w3.heap.size, 1, none⟩ = some (.slice p n c)) (by kernel_rfl) (SC.out _ HB0) (fun hHeld => ?_)
  refine wpAnyH_take (i := 0) (v := ?_) (by (simp only [List.getElem?_toArray, List.getElem?_cons_zero]; exact rfl)) (by kernel_rfl) (by kernel_rfl) (by kernel_rfl) (by exact fun _ _ _ h => h) (Or.inl ⟨by rfl, ?_⟩) (by assumption) ?_
  rotate_left
  · (intro w hSw; (try dsimp only at hSw); first | (go_simp; done) | (go_simp; with_reducible rfl))
  try simp only [Act.put, List.setIfInBounds_toArray, List.set_cons_zero, List.set_cons_succ]
  refine wpAnyH_take (i := 1) (v := ?_) (by (simp only [List.getElem?_toArray, List.getElem?_cons_zero, List.getElem?_cons_succ]; exact rfl)) (by kernel_rfl) (by kernel_rfl) (by kernel_rfl) (by exact fun _ _ _ h => h) (Or.inl ⟨by rfl, ?_⟩) (by assumption) ?_
  rotate_left
  · (intro w hSw; (try dsimp only at hSw); first | (go_simp; done) | (go_simp; with_reducible rfl))
  try simp only [Act.put, List.setIfInBounds_toArray, List.set_cons_zero, List.set_cons_succ]
  refine wpAnyH_take (i := 2) (v := ?_) (by (simp only [List.getElem?_toArray, List.getElem?_cons_zero, List.getElem?_cons_succ]; exact rfl)) (by kernel_rfl) (by kernel_rfl) (by kernel_rfl) (by exact fun _ _ _ h => h) (Or.inl ⟨by rfl, ?_⟩) (by assumption) ?_
  rotate_left
  · (intro w hSw; (try dsimp only at hSw); first | (go_simp; done) | (go_simp; with_reducible rfl))
  try simp only [Act.put, List.setIfInBounds_toArray, List.set_cons_zero, List.set_cons_succ]
  refine wpAnyH_take (i := 6) (v := ?_) (by (simp only [List.getElem?_toArray, List.getElem?_cons_zero, List.getElem?_cons_succ]; exact rfl)) (by kernel_rfl) (by kernel_rfl) (by kernel_rfl) (by exact fun _ _ _ h => h) (Or.inl ⟨by rfl, ?_⟩) (by assumption) ?_
  rotate_left
  · (intro w hSw; (try dsimp only at hSw); first | (go_simp; done) | (go_simp; with_reducible rfl))
  try simp only [Act.put, List.setIfInBounds_toArray, List.set_cons_zero, List.set_cons_succ]
  refine wpAnyH_take (i := 7) (v := ?_) (by (simp only [List.getElem?_toArray, List.getElem?_cons_zero, List.getElem?_cons_succ]; exact rfl)) (by kernel_rfl) (by kernel_rfl) (by kernel_rfl) (by exact fun _ _ _ h => h) (Or.inl ⟨by rfl, ?_⟩) (by assumption) ?_
  rotate_left
  · (intro w hSw; (try dsimp only at hSw); first | (go_simp; done) | (go_simp; with_reducible rfl))
  try simp only [Act.put, List.setIfInBounds_toArray, List.set_cons_zero, List.set_cons_succ]
  refine wpAnyH_take (i := 8) (v := ?_) (by (simp only [List.getElem?_toArray, List.getElem?_cons_zero, List.getElem?_cons_succ]; exact rfl)) (by kernel_rfl) (by kernel_rfl) (by kernel_rfl) (by exact fun _ _ _ h => h) (Or.inl ⟨by rfl, ?_⟩) (by assumption) ?_
  rotate_left
  · (intro w hSw; (try dsimp only at hSw); first | (go_simp; done) | (go_simp; with_reducible rfl))
  try simp only [Act.put, List.setIfInBounds_toArray, List.set_cons_zero, List.set_cons_succ]
  refine wpAnyH_ready (rs := [3]) (by kernel_rfl) (by simp) ?_
  refine AllReadyH.cons (by (simp only [List.getElem?_toArray, List.getElem?_cons_zero, List.getElem?_cons_succ]; exact rfl)) (fun K hK => ?_) AllReadyH.nil
  go_simp
  go_at_call 23; refine (OF.out _ (L0.out.trans ((K4.out.trans (HB0.mono K4.out.size)).mono L0.out.size))).mono ?_; rintro e1 w5 ⟨rfl, b5⟩; have HB1 : Below W4.heap.size W4 w5 := HB0.trans (b5.mono HB0.size)
  go_wp2_with fail
  refine hK.out _ _ (SC.out _ HB1) (fun hHeld => ?_)
  clear hK K
  try simp only [Act.put, List.setIfInBounds_toArray, List.set_cons_zero, List.set_cons_succ]
  refine wpAnyH_ready (rs := [4]) (by kernel_rfl) (by simp) ?_
  refine AllReadyH.cons (by (simp only [List.getElem?_toArray, List.getElem?_cons_zero, List.getElem?_cons_succ]; exact rfl)) (fun K hK => ?_) AllReadyH.nil
  go_simp
  go_at_call 41; refine (SE.out _).mono ?_; rintro e1 w6 ⟨rfl, hw⟩; obtain rfl := hw.symm
  go_wp2_with fail
  refine hK.out _ _ (SC.out _ HB1) (fun hHeld => ?_)
  clear hK K
  try simp only [Act.put, List.setIfInBounds_toArray, List.set_cons_zero, List.set_cons_succ]
  refine wpAnyH_take (i := 5) (v := ?_) (by (simp only [List.getElem?_toArray, List.getElem?_cons_zero, List.getElem?_cons_succ]; exact rfl)) (by kernel_rfl) (by kernel_rfl) (by kernel_rfl) (by exact fun _ _ _ h => h) (Or.inl ⟨by rfl, ?_⟩) (by assumption) ?_
  rotate_left
  · (intro w hSw; (try dsimp only at hSw); first | (go_simp; done) | (go_simp; with_reducible rfl))
  try simp only [Act.put, List.setIfInBounds_toArray, List.set_cons_zero, List.set_cons_succ]
  refine wpAnyH_ready (rs := [9]) (by kernel_rfl) (by simp) ?_
  refine AllReadyH.cons (by (simp only [List.getElem?_toArray, List.getElem?_cons_zero, List.getElem?_cons_succ]; exact rfl)) (fun K hK => ?_) AllReadyH.nil
  go_simp
  go_at_call 42; refine (CF.out _ (K4.out.trans (HB1.mono K4.out.size))).mono ?_; rintro e1 w7 ⟨rfl, b6⟩; have HB2 : Below W4.heap.size W4 w7 := HB1.trans (b6.mono HB1.size)
  go_wp2_with fail
  refine hK.out _ _ (SC.out _ HB2) (fun hHeld => ?_)
  clear hK K
  try simp only [Act.put, List.setIfInBounds_toArray, List.set_cons_zero, List.set_cons_succ]
  refine wpAnyH_take (i := 10) (v := ?_) (by (simp only [List.getElem?_toArray, List.getElem?_cons_zero, List.getElem?_cons_succ]; exact rfl)) (by kernel_rfl) (by kernel_rfl) (by kernel_rfl) (by exact fun _ _ _ h => h) (Or.inl ⟨by rfl, ?_⟩) (by assumption) ?_
  rotate_left
  · (intro w hSw; (try dsimp only at hSw); first | (go_simp; done) | (go_simp; with_reducible rfl))
  try simp only [Act.put, List.setIfInBounds_toArray, List.set_cons_zero, List.set_cons_succ]
  refine wpAnyH_take (i := 11) (v := ?_) (by (simp only [List.getElem?_toArray, List.getElem?_cons_zero, List.getElem?_cons_succ]; exact rfl)) (by kernel_rfl) (by kernel_rfl) (by kernel_rfl) (by exact fun _ _ _ h => h) (Or.inl ⟨by rfl, ?_⟩) (by assumption) ?_
  rotate_left
  · (intro w hSw; (try dsimp only at hSw); first | (go_simp; done) | (go_simp; with_reducible rfl))
  try simp only [Act.put, List.setIfInBounds_toArray, List.set_cons_zero, List.set_cons_succ]
  refine wpAnyH_done (by kernel_rfl) ?_ _
  have LF := Lib.hid (L0.out.trans ((K4.out.trans (HB2.mono K4.out.size)).mono L0.out.size))
  clear SC CF OF SE HB0 HB1 HB2 b5 b6
  go_wp2
  go_ret2
  exact ⟨rfl, LF.out⟩
theorem plab16_no {w : World} {P : Option Addr} {p : Option Addr} {n c : Nat} {l : List Lp} {e b : Int} (h : HasT w P false p n c l e b) (t : Int) :
    Calls Try.prog 21 #[.pointer P, .int .i64 t] w fun r w' => r = .returned (.tuple #[.int .i64 0, .bool false]) ∧ Below w.heap.size w w' := by
  have L0 := Lib.hid ((Below.refl w.heap.size w).alloc (Nat.le_refl _) (.cells #[.int .i64 t] 2))
  have HE := Lib.hid (h.held _ L0.out)
  clear h
  go_enter Try.func21, Try.ntmps21
  go_wp2_with fail
  refine HE.out.mono ?_; rintro r w1 ⟨rfl, b1⟩
  have b2 := b1.alloc b1.size (.cells #[.bool false, .slice p n c, .int .i64 e, .int .i64 b] 67)
  have L2 := Lib.hid (L0.out.trans (b2.mono L0.out.size))
  clear b1 b2 HE
  go_wp2
  go_ret2
  exact ⟨rfl, L2.out⟩
end Go.Proofs.Ytpfbdpoileepoaa
