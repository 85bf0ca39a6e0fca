/- Layer 15 (smear), the program's: Within, Back. -/
import Derived.Test.YtpfbdpoileepoaaSmG
set_option maxRecDepth 100000
namespace Go.Proofs.Ytpfbdpoileepoaa
open Go.ChangeShapes Go.WideShapes Go.ChangeAt Go.RowKit SmM

/-- What Within tells. -/
def WithE (l : List Lp) (s : Int) : Ending := .returned (.tuple #[.int .i64 (max (withinI l s) 0), .bool (decide (0 ≤ withinI l s))])
theorem with_some {l : List Lp} {s : Int} {i : Nat} (h : withinI l s = (i : Int)) : WithE l s = .returned (.tuple #[.int .i64 (i : Nat), .bool true]) := by
  unfold WithE
  rw [h, Int.max_eq_left (by omega), decide_eq_true (by omega)]
theorem with_none {l : List Lp} {s : Int} (h : withinI l s = -1) : WithE l s = .returned (.tuple #[.int .i64 0, .bool false]) := by
  unfold WithE
  rw [h]
  rfl
set_option maxHeartbeats 4000000 in
theorem pwithin_any {w : World} {P p : Option Addr} {n c : Nat} {l : List Lp} (h : HasL w P p n c l) (t : Int) :
    Calls Try.prog 27 #[.pointer P, .int .i64 t] w fun e w' => e = WithE l (nearI t) ∧ Below w.heap.size w w' := by
  obtain ⟨s, hs⟩ : ∃ s, nearI t = s := ⟨_, rfl⟩
  have SB := near_in t
  rw [hs] at SB
  have NN : Hid (∀ w', Calls Try.prog 50 #[.int .i64 t] w' fun e w'' => e = .returned (.int .i64 s) ∧ w'' = w') := fun w' => by rw [← hs]; exact pinst15 w' t
  rw [hs]
  have HE := Lib.hid (h.held w (Below.refl _ _))
  have HL := Lib.hid h.row
  have HI := Lib.hid h.all
  have LN := Lib.hid h.row.len
  have nb : (n : Int) ≤ 32 := by have := h.few; omega
  clear h hs
  go_enter Try.func27, Try.ntmps27
  go_wp2_with (go_at_call 52; refine HE.out.mono ?_; rintro e w5 ⟨rfl, hw⟩; obtain rfl := hw.symm)
  go_loopw [12] (fun ii wr => ∃ i : Nat, ii = .int .i64 (i : Nat) ∧ Hid (i ≤ n ∧ ∀ j, j < i → dayB (gl l j) s = false) ∧ Hid (Below w.heap.size w wr)) (fun ii _ => 1000 - (intOf ii).toNat)
  case atStart => exact ⟨0, rfl, ⟨Nat.zero_le _, fun j hj => by omega⟩, Below.refl _ _⟩
  case round =>
    clear HE
    obtain ⟨i, rfl, I, L⟩ := hrel
    have i0 : (0 : Int) ≤ (i : Int) := by omega
    by_cases z : i < n
    · have z1 : (i : Int) < (n : Int) := by omega
      obtain ⟨a, rfl, c0, c1⟩ := (HL.out.below L.out).cell i z
      have il : i < l.length := by rw [LN.out]; exact z
      obtain ⟨x, hx⟩ : ∃ x, gl l i = x := ⟨_, rfl⟩
      have HX := Lib.hid hx
      have XI := HI.out x (by rw [← hx]; exact gl_mem il)
      rw [hx] at c0 c1
      obtain ⟨f, hf⟩ : ∃ f, x.t - halfI = f := ⟨_, rfl⟩
      have BG : Hid (∀ w', Calls Try.prog 53 #[.agg #[.int .i64 x.t, .int .i64 x.k]] w' fun e w'' => e = .returned (.int .i64 f) ∧ Below w'.heap.size w' w'') := fun w' => by rw [← hf]; exact pbegin15 w' x ⟨XI.1, XI.2.1⟩
      have IL := Lib.hid il
      obtain ⟨d, hd⟩ : ∃ d, s - f = d := ⟨_, rfl⟩
      have DB : Hid (dayB (gl l i) s = (decide (0 ≤ d) && decide (d < 86400000000000))) := by
        unfold Hid dayB
        rw [hx]
        unfold halfI at *
        congr 1
        · rw [decide_eq_decide]; omega
        · rw [decide_eq_decide]; omega
      obtain ⟨xt, xk⟩ := x
      unfold dayI topI halfI at *
      dsimp only at *
      have e1 : wrap64 d = d := by unfold wrap64; omega
      have e2 : IntKind.i64.wrap d = d := by rw [IntKind.wrap_i64]; omega
      obtain ⟨W0, hW0⟩ : ∃ W0, wr.alloc (.cells #[.int .i64 xt, .int .i64 xk] 33) = W0 := ⟨_, rfl⟩
      have L0 : Hid (Below wr.heap.size wr W0) := by rw [← hW0]; exact (Below.refl _ _).alloc (Nat.le_refl _) _
      have Y0 : W0.heap[wr.heap.size]? = some (.cells #[.int .i64 xt, .int .i64 xk] 33 (0, 0)) := by rw [← hW0]; exact heap_alloc_new _ _
      have bY := (Array.getElem?_eq_some_iff.1 Y0).1
      have KC : Hid (∀ w', Below W0.heap.size W0 w' → w'.cell? ⟨wr.heap.size, 0, none⟩ = some (.int .i64 xt) ∧ w'.cell? ⟨wr.heap.size, 1, none⟩ = some (.int .i64 xk)) := fun w' k =>
        ⟨blk_cell ((k.block _ bY).trans Y0), blk_cell ((k.block _ bY).trans Y0)⟩
      have HB0 : Below W0.heap.size W0 W0.drew := (Below.refl _ _).drew
      have LL : Hid (∀ w', Below W0.heap.size W0 w' → Below w.heap.size w w') := fun w' k => L.out.trans ((L0.out.trans (k.mono L0.out.size)).mono L.out.size)
      clear z il XI hx hf Y0 bY L L0
      by_cases q1 : 0 ≤ d
      · have q2 : decide (0 ≤ d) = true := decide_eq_true q1
        by_cases q3 : d < 86400000000000
        · have q4 : decide (d < 86400000000000) = true := decide_eq_true q3
          have FV : Hid (WithE l s = .returned (.tuple #[.int .i64 (i : Nat), .bool true])) := with_some (within_some IL.out (by rw [DB.out, q2, q4]; rfl) I.out.2)
          clear q1 q3 I
          go_wp2_with fail
          refine wp_region_held_drew (S := fun w' => w'.cell? ⟨wr.heap.size, 0, none⟩ = some (.int .i64 xt) ∧ w'.cell? ⟨wr.heap.size, 1, none⟩ = some (.int .i64 xk)) (by kernel_rfl) (KC.out _ HB0) (fun hHeld => ?_)
          refine wpAnyH_take (i := 0) (v := ?_) (by (simp only [List.getElem?_toArray, List.getElem?_cons_zero]; exact rfl)) (by kernel_rfl) (by kernel_rfl) (by kernel_rfl) (by exact fun _ _ _ h => h) (Or.inl ⟨by rfl, ?_⟩) (by assumption) ?_
          rotate_left
          · (intro w hSw; (try dsimp only at hSw); first | (go_simp; done) | (go_simp; with_reducible rfl))
          try simp only [Act.put, List.setIfInBounds_toArray, List.set_cons_zero, List.set_cons_succ]
          refine wpAnyH_take (i := 2) (v := ?_) (by (simp only [List.getElem?_toArray, List.getElem?_cons_zero, List.getElem?_cons_succ]; exact rfl)) (by kernel_rfl) (by kernel_rfl) (by kernel_rfl) (by exact fun _ _ _ h => h) (Or.inl ⟨by rfl, ?_⟩) (by assumption) ?_
          rotate_left
          · (intro w hSw; (try dsimp only at hSw); first | (go_simp; done) | (go_simp; with_reducible rfl))
          try simp only [Act.put, List.setIfInBounds_toArray, List.set_cons_zero, List.set_cons_succ]
          refine wpAnyH_ready (rs := [1]) (by kernel_rfl) (by simp) ?_
          refine AllReadyH.cons (by (simp only [List.getElem?_toArray, List.getElem?_cons_zero, List.getElem?_cons_succ]; exact rfl)) (fun K hK => ?_) AllReadyH.nil
          go_simp
          go_at_call 50; refine (NN.out _).mono ?_; rintro e w5 ⟨rfl, rfl⟩
          go_wp2_with fail
          refine hK.out _ _ (KC.out _ HB0) (fun hHeld => ?_)
          clear hK K
          try simp only [Act.put, List.setIfInBounds_toArray, List.set_cons_zero, List.set_cons_succ]
          refine wpAnyH_ready (rs := [3]) (by kernel_rfl) (by simp) ?_
          refine AllReadyH.cons (by (simp only [List.getElem?_toArray, List.getElem?_cons_zero, List.getElem?_cons_succ]; exact rfl)) (fun K hK => ?_) AllReadyH.nil
          go_simp
          go_at_call 53; refine (BG.out _).mono ?_; rintro e w5 ⟨rfl, b5⟩; have HB1 : Below W0.heap.size W0 w5 := HB0.trans (b5.mono HB0.size)
          go_wp2_with fail
          refine hK.out _ _ (KC.out _ HB1) (fun hHeld => ?_)
          clear hK K
          try simp only [Act.put, List.setIfInBounds_toArray, List.set_cons_zero, List.set_cons_succ]
          refine wpAnyH_take (i := 4) (v := ?_) (by (simp only [List.getElem?_toArray, List.getElem?_cons_zero, List.getElem?_cons_succ]; exact rfl)) (by kernel_rfl) (by kernel_rfl) (by kernel_rfl) (by exact fun _ _ _ h => h) (Or.inl ⟨by rfl, ?_⟩) (by assumption) ?_
          rotate_left
          · (intro w hSw; (try dsimp only at hSw); first | (go_simp; done) | (go_simp; with_reducible rfl))
          try simp only [Act.put, List.setIfInBounds_toArray, List.set_cons_zero, List.set_cons_succ]
          refine wpAnyH_take (i := 5) (v := ?_) (by (simp only [List.getElem?_toArray, List.getElem?_cons_zero, List.getElem?_cons_succ]; exact rfl)) (by kernel_rfl) (by kernel_rfl) (by kernel_rfl) (by exact fun _ _ _ h => h) (Or.inl ⟨by rfl, ?_⟩) (by assumption) ?_
          rotate_left
          · (intro w hSw; (try dsimp only at hSw); first | (go_simp; done) | (go_simp; with_reducible rfl))
          try simp only [Act.put, List.setIfInBounds_toArray, List.set_cons_zero, List.set_cons_succ]
          refine wpAnyH_done (by kernel_rfl) ?_ _
          have L5 := Lib.hid (LL.out _ HB1)
          clear HB1 b5 HB0 LL KC BG NN
          go_wp2
          go_ret2
          exact ⟨FV.out.symm, L5.out⟩
        · have q4 : decide (d < 86400000000000) = false := decide_eq_false q3
          have IN : Hid (i + 1 ≤ n ∧ ∀ j, j < i + 1 → dayB (gl l j) s = false) := ⟨by have := LN.out; have := IL.out; omega, fun j hj => by
            by_cases e : j = i
            · rw [e, DB.out, q2, q4]; rfl
            · exact I.out.2 j (by omega)⟩
          clear q1 q3 I
          go_wp2_with fail
          refine wp_region_held_drew (S := fun w' => w'.cell? ⟨wr.heap.size, 0, none⟩ = some (.int .i64 xt) ∧ w'.cell? ⟨wr.heap.size, 1, none⟩ = some (.int .i64 xk)) (by kernel_rfl) (KC.out _ HB0) (fun hHeld => ?_)
          refine wpAnyH_take (i := 0) (v := ?_) (by (simp only [List.getElem?_toArray, List.getElem?_cons_zero]; exact rfl)) (by kernel_rfl) (by kernel_rfl) (by kernel_rfl) (by exact fun _ _ _ h => h) (Or.inl ⟨by rfl, ?_⟩) (by assumption) ?_
          rotate_left
          · (intro w hSw; (try dsimp only at hSw); first | (go_simp; done) | (go_simp; with_reducible rfl))
          try simp only [Act.put, List.setIfInBounds_toArray, List.set_cons_zero, List.set_cons_succ]
          refine wpAnyH_take (i := 2) (v := ?_) (by (simp only [List.getElem?_toArray, List.getElem?_cons_zero, List.getElem?_cons_succ]; exact rfl)) (by kernel_rfl) (by kernel_rfl) (by kernel_rfl) (by exact fun _ _ _ h => h) (Or.inl ⟨by rfl, ?_⟩) (by assumption) ?_
          rotate_left
          · (intro w hSw; (try dsimp only at hSw); first | (go_simp; done) | (go_simp; with_reducible rfl))
          try simp only [Act.put, List.setIfInBounds_toArray, List.set_cons_zero, List.set_cons_succ]
          refine wpAnyH_ready (rs := [1]) (by kernel_rfl) (by simp) ?_
          refine AllReadyH.cons (by (simp only [List.getElem?_toArray, List.getElem?_cons_zero, List.getElem?_cons_succ]; exact rfl)) (fun K hK => ?_) AllReadyH.nil
          go_simp
          go_at_call 50; refine (NN.out _).mono ?_; rintro e w5 ⟨rfl, rfl⟩
          go_wp2_with fail
          refine hK.out _ _ (KC.out _ HB0) (fun hHeld => ?_)
          clear hK K
          try simp only [Act.put, List.setIfInBounds_toArray, List.set_cons_zero, List.set_cons_succ]
          refine wpAnyH_ready (rs := [3]) (by kernel_rfl) (by simp) ?_
          refine AllReadyH.cons (by (simp only [List.getElem?_toArray, List.getElem?_cons_zero, List.getElem?_cons_succ]; exact rfl)) (fun K hK => ?_) AllReadyH.nil
          go_simp
          go_at_call 53; refine (BG.out _).mono ?_; rintro e w5 ⟨rfl, b5⟩; have HB1 : Below W0.heap.size W0 w5 := HB0.trans (b5.mono HB0.size)
          go_wp2_with fail
          refine hK.out _ _ (KC.out _ HB1) (fun hHeld => ?_)
          clear hK K
          try simp only [Act.put, List.setIfInBounds_toArray, List.set_cons_zero, List.set_cons_succ]
          refine wpAnyH_take (i := 4) (v := ?_) (by (simp only [List.getElem?_toArray, List.getElem?_cons_zero, List.getElem?_cons_succ]; exact rfl)) (by kernel_rfl) (by kernel_rfl) (by kernel_rfl) (by exact fun _ _ _ h => h) (Or.inl ⟨by rfl, ?_⟩) (by assumption) ?_
          rotate_left
          · (intro w hSw; (try dsimp only at hSw); first | (go_simp; done) | (go_simp; with_reducible rfl))
          try simp only [Act.put, List.setIfInBounds_toArray, List.set_cons_zero, List.set_cons_succ]
          refine wpAnyH_take (i := 5) (v := ?_) (by (simp only [List.getElem?_toArray, List.getElem?_cons_zero, List.getElem?_cons_succ]; exact rfl)) (by kernel_rfl) (by kernel_rfl) (by kernel_rfl) (by exact fun _ _ _ h => h) (Or.inl ⟨by rfl, ?_⟩) (by assumption) ?_
          rotate_left
          · (intro w hSw; (try dsimp only at hSw); first | (go_simp; done) | (go_simp; with_reducible rfl))
          try simp only [Act.put, List.setIfInBounds_toArray, List.set_cons_zero, List.set_cons_succ]
          refine wpAnyH_done (by kernel_rfl) ?_ _
          have L5 := Lib.hid (LL.out _ HB1)
          clear HB1 b5 HB0 LL KC BG NN
          go_wp2_with fail
          go_roundw
          case rel => exact ⟨i + 1, by go_num, IN, L5⟩
          case measure => simp [intOf]; omega
      · have q2 : decide (0 ≤ d) = false := decide_eq_false q1
        have IN : Hid (i + 1 ≤ n ∧ ∀ j, j < i + 1 → dayB (gl l j) s = false) := ⟨by have := LN.out; have := IL.out; omega, fun j hj => by
          by_cases e : j = i
          · rw [e, DB.out, q2]; rfl
          · exact I.out.2 j (by omega)⟩
        clear q1 I
        go_wp2_with fail
        refine wp_region_held_drew (S := fun w' => w'.cell? ⟨wr.heap.size, 0, none⟩ = some (.int .i64 xt) ∧ w'.cell? ⟨wr.heap.size, 1, none⟩ = some (.int .i64 xk)) (by kernel_rfl) (KC.out _ HB0) (fun hHeld => ?_)
        refine wpAnyH_take (i := 0) (v := ?_) (by (simp only [List.getElem?_toArray, List.getElem?_cons_zero]; exact rfl)) (by kernel_rfl) (by kernel_rfl) (by kernel_rfl) (by exact fun _ _ _ h => h) (Or.inl ⟨by rfl, ?_⟩) (by assumption) ?_
        rotate_left
        · (intro w hSw; (try dsimp only at hSw); first | (go_simp; done) | (go_simp; with_reducible rfl))
        try simp only [Act.put, List.setIfInBounds_toArray, List.set_cons_zero, List.set_cons_succ]
        refine wpAnyH_take (i := 2) (v := ?_) (by (simp only [List.getElem?_toArray, List.getElem?_cons_zero, List.getElem?_cons_succ]; exact rfl)) (by kernel_rfl) (by kernel_rfl) (by kernel_rfl) (by exact fun _ _ _ h => h) (Or.inl ⟨by rfl, ?_⟩) (by assumption) ?_
        rotate_left
        · (intro w hSw; (try dsimp only at hSw); first | (go_simp; done) | (go_simp; with_reducible rfl))
        try simp only [Act.put, List.setIfInBounds_toArray, List.set_cons_zero, List.set_cons_succ]
        refine wpAnyH_ready (rs := [1]) (by kernel_rfl) (by simp) ?_
        refine AllReadyH.cons (by (simp only [List.getElem?_toArray, List.getElem?_cons_zero, List.getElem?_cons_succ]; exact rfl)) (fun K hK => ?_) AllReadyH.nil
        go_simp
        go_at_call 50; refine (NN.out _).mono ?_; rintro e w5 ⟨rfl, rfl⟩
        go_wp2_with fail
        refine hK.out _ _ (KC.out _ HB0) (fun hHeld => ?_)
        clear hK K
        try simp only [Act.put, List.setIfInBounds_toArray, List.set_cons_zero, List.set_cons_succ]
        refine wpAnyH_ready (rs := [3]) (by kernel_rfl) (by simp) ?_
        refine AllReadyH.cons (by (simp only [List.getElem?_toArray, List.getElem?_cons_zero, List.getElem?_cons_succ]; exact rfl)) (fun K hK => ?_) AllReadyH.nil
        go_simp
        go_at_call 53; refine (BG.out _).mono ?_; rintro e w5 ⟨rfl, b5⟩; have HB1 : Below W0.heap.size W0 w5 := HB0.trans (b5.mono HB0.size)
        go_wp2_with fail
        refine hK.out _ _ (KC.out _ HB1) (fun hHeld => ?_)
        clear hK K
        try simp only [Act.put, List.setIfInBounds_toArray, List.set_cons_zero, List.set_cons_succ]
        refine wpAnyH_take (i := 4) (v := ?_) (by (simp only [List.getElem?_toArray, List.getElem?_cons_zero, List.getElem?_cons_succ]; exact rfl)) (by kernel_rfl) (by kernel_rfl) (by kernel_rfl) (by exact fun _ _ _ h => h) (Or.inl ⟨by rfl, ?_⟩) (by assumption) ?_
        rotate_left
        · (intro w hSw; (try dsimp only at hSw); first | (go_simp; done) | (go_simp; with_reducible rfl))
        try simp only [Act.put, List.setIfInBounds_toArray, List.set_cons_zero, List.set_cons_succ]
        refine wpAnyH_take (i := 5) (v := ?_) (by (simp only [List.getElem?_toArray, List.getElem?_cons_zero, List.getElem?_cons_succ]; exact rfl)) (by kernel_rfl) (by kernel_rfl) (by kernel_rfl) (by exact fun _ _ _ h => h) (Or.inl ⟨by rfl, ?_⟩) (by assumption) ?_
        rotate_left
        · (intro w hSw; (try dsimp only at hSw); first | (go_simp; done) | (go_simp; with_reducible rfl))
        try simp only [Act.put, List.setIfInBounds_toArray, List.set_cons_zero, List.set_cons_succ]
        refine wpAnyH_done (by kernel_rfl) ?_ _
        have L5 := Lib.hid (LL.out _ HB1)
        clear HB1 b5 HB0 LL KC BG NN
        go_wp2_with fail
        go_roundw
        case rel => exact ⟨i + 1, by go_num, IN, L5⟩
        case measure => simp [intOf]; omega
    · have z1 : (n : Int) ≤ (i : Int) := by omega
      have z2 : decide ((i : Int) < (n : Int)) = false := decide_eq_false (by omega)
      have FV : Hid (WithE l s = .returned (.tuple #[.int .i64 0, .bool false])) := with_none (within_none fun j hj => I.out.2 j (by have := LN.out; omega))
      clear z I
      go_wp2
      go_ret2
      exact ⟨FV.out.symm, L.out⟩

/-! ### Back -/
def intAt15 (w : World) (a : Addr) : Int := match w.cell? a with | some (.int _ z) => z | _ => 0
theorem intAt15_of {w : World} {a : Addr} {k : IntKind} {z : Int} (h : w.cell? a = some (.int k z)) : intAt15 w a = z := by unfold intAt15; rw [h]
/-- The least instant that reaches it. -/
def LeastP (w : World) (P : Int → Bool) (r : Ending) (w' : World) : Prop :=
  Below w.heap.size w w' ∧ ((∃ d : Int, r = .returned (.tuple #[.int .i64 d, .bool true]) ∧ 0 ≤ d ∧ d ≤ 4611686018427387904 ∧ P d = true ∧ (d = 0 ∨ P (d - 1) = false)) ∨ (r = .returned (.tuple #[.int .i64 0, .bool false]) ∧ P 4611686018427387904 = false))
/-- Is it reached? -/
def reachL (l : List Lp) (s d : Int) : Bool := decide (s ≤ toI l d)
theorem back_of {l : List Lp} {s : Int} {w w' : World} {e : Ending} (h : LeastP w (reachL l s) e w') : ∃ t b, e = .returned (.tuple #[.int .i64 t, .bool b]) ∧ BackP l s t b := by
  rcases h.2 with ⟨d, rfl, h0, h1, h2, h3⟩ | ⟨rfl, h5⟩
  · refine ⟨d, true, rfl, .inl ⟨rfl, h0, h1, of_decide_eq_true h2, fun p => ?_⟩⟩
    rcases h3 with e | e
    · omega
    · have := of_decide_eq_false e
      omega
  · exact ⟨0, false, rfl, .inr ⟨rfl, rfl, by have := of_decide_eq_false h5; unfold topI; omega⟩⟩
end Go.Proofs.Ytpfbdpoileepoaa

