/- Layer 15 (smear), the program's: Within, Back. -/
import Derived.Test.YtmafjhggjpjgmaaSmG
set_option maxRecDepth 100000
namespace Go.Proofs.Ytmafjhggjpjgmaa
open Go.ChangeShapes Go.WideShapes Go.ChangeAt Go.RowKit SmM

/-- What Within tells. -/
def WithE (l : List Lp) (s : Int) : Ending := .returned (.tuple #[.int .i64 (max (withinI l s) 0), .bool (decide (0 ≤ withinI l s))])
theorem with_some {l : List Lp} {s : Int} {i : Nat} (h : withinI l s = (i : Int)) : WithE l s = .returned (.tuple #[.int .i64 (i : Nat), .bool true]) := by
  unfold WithE
  rw [h, Int.max_eq_left (by omega), decide_eq_true (by omega)]
theorem with_none {l : List Lp} {s : Int} (h : withinI l s = -1) : WithE l s = .returned (.tuple #[.int .i64 0, .bool false]) := by
  unfold WithE
  rw [h]
  rfl
set_option maxHeartbeats 4000000 in
theorem pwithin_any {w : World} {P p : Option Addr} {n c : Nat} {l : List Lp} (h : HasL w P p n c l) (t : Int) :
    Calls Try.prog 15 #[.pointer P, .int .i64 t] w fun e w' => e = WithE l (nearI t) ∧ Below w.heap.size w w' := by
  obtain ⟨s, hs⟩ : ∃ s, nearI t = s := ⟨_, rfl⟩
  have SB := near_in t
  rw [hs] at SB
  have NN : Hid (∀ w', Calls Try.prog 28 #[.int .i64 t] w' fun e w'' => e = .returned (.int .i64 s) ∧ w'' = w') := fun w' => by rw [← hs]; exact pinst15 w' t
  rw [hs]
  have HE := Lib.hid (h.held w (Below.refl _ _))
  have HL := Lib.hid h.row
  have HI := Lib.hid h.all
  have LN := Lib.hid h.row.len
  have nb : (n : Int) ≤ 32 := by have := h.few; omega
  clear h hs
  go_enter Try.func15, Try.ntmps15
  go_wp2_with (go_at_call 27; refine HE.out.mono ?_; rintro e w5 ⟨rfl, hw⟩; obtain rfl := hw.symm)
  go_loopw [12] (fun ii wr => ∃ i : Nat, ii = .int .i64 (i : Nat) ∧ Hid (i ≤ n ∧ ∀ j, j < i → dayB (gl l j) s = false) ∧ Hid (Below w.heap.size w wr)) (fun ii _ => 1000 - (intOf ii).toNat)
  case atStart => exact ⟨0, rfl, ⟨Nat.zero_le _, fun j hj => by omega⟩, Below.refl _ _⟩
  case round =>
    clear HE
    obtain ⟨i, rfl, I, L⟩ := hrel
    have i0 : (0 : Int) ≤ (i : Int) := by omega
    by_cases z : i < n
    · have z1 : (i : Int) < (n : Int) := by omega
      obtain ⟨a, rfl, c0, c1⟩ := (HL.out.below L.out).cell i z
      have il : i < l.length := by rw [LN.out]; exact z
      obtain ⟨x, hx⟩ : ∃ x, gl l i = x := ⟨_, rfl⟩
      have HX := Lib.hid hx
      have XI := HI.out x (by rw [← hx]; exact gl_mem il)
      rw [hx] at c0 c1
      obtain ⟨f, hf⟩ : ∃ f, x.t - halfI = f := ⟨_, rfl⟩
      have BG : Hid (∀ w', Calls Try.prog 29 #[.agg #[.int .i64 x.t, .int .i64 x.k]] w' fun e w'' => e = .returned (.int .i64 f) ∧ Below w'.heap.size w' w'') := fun w' => by rw [← hf]; exact pbegin15 w' x ⟨XI.1, XI.2.1⟩
      have IL := Lib.hid il
      obtain ⟨d, hd⟩ : ∃ d, s - f = d := ⟨_, rfl⟩
      have DB : Hid (dayB (gl l i) s = (decide (0 ≤ d) && decide (d < 86400000000000))) := by
        unfold Hid dayB
        rw [hx]
        unfold halfI at *
        congr 1
        · rw [decide_eq_decide]; omega
        · rw [decide_eq_decide]; omega
      obtain ⟨xt, xk⟩ := x
      unfold dayI topI halfI at *
      dsimp only at *
      have e1 : wrap64 d = d := by unfold wrap64; omega
      have e2 : IntKind.i64.wrap d = d := by rw [IntKind.wrap_i64]; omega
      obtain ⟨W0, hW0⟩ : ∃ W0, wr.alloc (.cells #[.int .i64 xt, .int .i64 xk] 26) = W0 := ⟨_, rfl⟩
      have L0 : Hid (Below wr.heap.size wr W0) := by rw [← hW0]; exact (Below.refl _ _).alloc (Nat.le_refl _) _
      have Y0 : W0.heap[wr.heap.size]? = some (.cells #[.int .i64 xt, .int .i64 xk] 26 (0, 0)) := by rw [← hW0]; exact heap_alloc_new _ _
      have bY := (Array.getElem?_eq_some_iff.1 Y0).1
      have KC : Hid (∀ w', Below W0.heap.size W0 w' → w'.cell? ⟨wr.heap.size, 0, none⟩ = some (.int .i64 xt) ∧ w'.cell? ⟨wr.heap.size, 1, none⟩ = some (.int .i64 xk)) := fun w' k =>
        ⟨blk_cell ((k.block _ bY).trans Y0), blk_cell ((k.block _ bY).trans Y0)⟩
      have HB0 : Below W0.heap.size W0 W0.drew := (Below.refl _ _).drew
      have LL : Hid (∀ w', Below W0.heap.size W0 w' → Below w.heap.size w w') := fun w' k => L.out.trans ((L0.out.trans (k.mono L0.out.size)).mono L.out.size)
      clear z il XI hx hf Y0 bY L L0
      by_cases q1 : 0 ≤ d
      · have q2 : decide (0 ≤ d) = true := decide_eq_true q1
        by_cases q3 : d < 86400000000000
        · have q4 : decide (d < 86400000000000) = true := decide_eq_true q3
          have FV : Hid (WithE l s = .returned (.tuple #[.int .i64 (i : Nat), .bool true])) := with_some (within_some IL.out (by rw [DB.out, q2, q4]; rfl) I.out.2)
          clear q1 q3 I
          go_wp2_with fail
          refine wp_region_held_drew (S := fun w' => w'.cell? ⟨wr.heap.size, 0, none⟩ = some (.int .i64 xt) ∧ w'.cell? ⟨wr.heap.size, 1, none⟩ = some (.int .i64 xk)) (by kernel_rfl) (KC.out _ HB0) (fun hHeld => ?_)
          refine wpAnyH_take (i := 0) (v := ?_) (by (simp only [List.getElem?_toArray, List.getElem?_cons_zero]; exact rfl)) (by kernel_rfl) (by kernel_rfl) (by kernel_rfl) (by exact fun _ _ _ h => h) (Or.inl ⟨by rfl, ?_⟩) (by assumption) ?_
          rotate_left
          · (intro w hSw; (try dsimp only at hSw); first | (go_simp; done) | (go_simp; with_reducible rfl))
          try simp only [Act.put, List.setIfInBounds_toArray, List.set_cons_zero, List.set_cons_succ]
          refine wpAnyH_take (i := 2) (v := ?_) (by (simp only [List.getElem?_toArray, List.getElem?_cons_zero, List.getElem?_cons_succ]; exact rfl)) (by kernel_rfl) (by kernel_rfl) (by kernel_rfl) (by exact fun _ _ _ h => h) (Or.inl ⟨by rfl, ?_⟩) (by assumption) ?_
          rotate_left
          · (intro w hSw; (try dsimp only at hSw); first | (go_simp; done) | (go_simp; with_reducible rfl))
          try simp only [Act.put, List.setIfInBounds_toArray, List.set_cons_zero, List.set_cons_succ]
          refine wpAnyH_ready (rs := [1]) (by kernel_rfl) (by simp) ?_
          refine AllReadyH.cons (by (simp only [List.getElem?_toArray, List.getElem?_cons_zero, List.getElem?_cons_succ]; exact rfl)) (fun K hK => ?_) AllReadyH.nil
          go_simp
          go_at_call 28; refine (NN.out _).mono ?_; rintro e w5 ⟨rfl, rfl⟩
          go_wp2_with fail
          refine hK.out _ _ (KC.out _ HB0) (fun hHeld => ?_)
          clear hK K
          try simp only [Act.put, List.setIfInBounds_toArray, List.set_cons_zero, List.set_cons_succ]
          refine wpAnyH_ready (rs := [3]) (by kernel_rfl) (by simp) ?_
          refine AllReadyH.cons (by (simp only [List.getElem?_toArray, List.getElem?_cons_zero, List.getElem?_cons_succ]; exact rfl)) (fun K hK => ?_) AllReadyH.nil
          go_simp
          go_at_call 29; refine (BG.out _).mono ?_; rintro e w5 ⟨rfl, b5⟩; have HB1 : Below W0.heap.size W0 w5 := HB0.trans (b5.mono HB0.size)
          go_wp2_with fail
          refine hK.out _ _ (KC.out _ HB1) (fun hHeld => ?_)
          clear hK K
          try simp only [Act.put, List.setIfInBounds_toArray, List.set_cons_zero, List.set_cons_succ]
          refine wpAnyH_take (i := 4) (v := ?_) (by (simp only [List.getElem?_toArray, List.getElem?_cons_zero, List.getElem?_cons_succ]; exact rfl)) (by kernel_rfl) (by kernel_rfl) (by kernel_rfl) (by exact fun _ _ _ h => h) (Or.inl ⟨by rfl, ?_⟩) (by assumption) ?_
          rotate_left
          · (intro w hSw; (try dsimp only at hSw); first | (go_simp; done) | (go_simp; with_reducible rfl))
          try simp only [Act.put, List.setIfInBounds_toArray, List.set_cons_zero, List.set_cons_succ]
          refine wpAnyH_take (i := 5) (v := ?_) (by (simp only [List.getElem?_toArray, List.getElem?_cons_zero, List.getElem?_cons_succ]; exact rfl)) (by kernel_rfl) (by kernel_rfl) (by kernel_rfl) (by exact fun _ _ _ h => h) (Or.inl ⟨by rfl, ?_⟩) (by assumption) ?_
          rotate_left
          · (intro w hSw; (try dsimp only at hSw); first | (go_simp; done) | (go_simp; with_reducible rfl))
          try simp only [Act.put, List.setIfInBounds_toArray, List.set_cons_zero, List.set_cons_succ]
          refine wpAnyH_done (by kernel_rfl) ?_ _
          have L5 := Lib.hid (LL.out _ HB1)
          clear HB1 b5 HB0 LL KC BG NN
          go_wp2
          go_ret2
          exact ⟨FV.out.symm, L5.out⟩
        · have q4 : decide (d < 86400000000000) = false := decide_eq_false q3
          have IN : Hid (i + 1 ≤ n ∧ ∀ j, j < i + 1 → dayB (gl l j) s = false) := ⟨by have := LN.out; have := IL.out; omega, fun j hj => by
            by_cases e : j = i
            · rw [e, DB.out, q2, q4]; rfl
            · exact I.out.2 j (by omega)⟩
          clear q1 q3 I
          go_wp2_with fail
          refine wp_region_held_drew (S := fun w' => w'.cell? ⟨wr.heap.size, 0, none⟩ = some (.int .i64 xt) ∧ w'.cell? ⟨wr.heap.size, 1, none⟩ = some (.int .i64 xk)) (by kernel_rfl) (KC.out _ HB0) (fun hHeld => ?_)
          refine wpAnyH_take (i := 0) (v := ?_) (by (simp only [List.getElem?_toArray, List.getElem?_cons_zero]; exact rfl)) (by kernel_rfl) (by kernel_rfl) (by kernel_rfl) (by exact fun _ _ _ h => h) (Or.inl ⟨by rfl, ?_⟩) (by assumption) ?_
          rotate_left
          · (intro w hSw; (try dsimp only at hSw); first | (go_simp; done) | (go_simp; with_reducible rfl))
          try simp only [Act.put, List.setIfInBounds_toArray, List.set_cons_zero, List.set_cons_succ]
          refine wpAnyH_take (i := 2) (v := ?_) (by (simp only [List.getElem?_toArray, List.getElem?_cons_zero, List.getElem?_cons_succ]; exact rfl)) (by kernel_rfl) (by kernel_rfl) (by kernel_rfl) (by exact fun _ _ _ h => h) (Or.inl ⟨by rfl, ?_⟩) (by assumption) ?_
          rotate_left
          · (intro w hSw; (try dsimp only at hSw); first | (go_simp; done) | (go_simp; with_reducible rfl))
          try simp only [Act.put, List.setIfInBounds_toArray, List.set_cons_zero, List.set_cons_succ]
          refine wpAnyH_ready (rs := [1]) (by kernel_rfl) (by simp) ?_
          refine AllReadyH.cons (by (simp only [List.getElem?_toArray, List.getElem?_cons_zero, List.getElem?_cons_succ]; exact rfl)) (fun K hK => ?_) AllReadyH.nil
          go_simp
          go_at_call 28; refine (NN.out _).mono ?_; rintro e w5 ⟨rfl, rfl⟩
          go_wp2_with fail
          refine hK.out _ _ (KC.out _ HB0) (fun hHeld => ?_)
          clear hK K
          try simp only [Act.put, List.setIfInBounds_toArray, List.set_cons_zero, List.set_cons_succ]
          refine wpAnyH_ready (rs := [3]) (by kernel_rfl) (by simp) ?_
          refine AllReadyH.cons (by (simp only [List.getElem?_toArray, List.getElem?_cons_zero, List.getElem?_cons_succ]; exact rfl)) (fun K hK => ?_) AllReadyH.nil
          go_simp
          go_at_call 29; refine (BG.out _).mono ?_; rintro e w5 ⟨rfl, b5⟩; have HB1 : Below W0.heap.size W0 w5 := HB0.trans (b5.mono HB0.size)
          go_wp2_with fail
          refine hK.out _ _ (KC.out _ HB1) (fun hHeld => ?_)
          clear hK K
          try simp only [Act.put, List.setIfInBounds_toArray, List.set_cons_zero, List.set_cons_succ]
          refine wpAnyH_take (i := 4) (v := ?_) (by (simp only [List.getElem?_toArray, List.getElem?_cons_zero, List.getElem?_cons_succ]; exact rfl)) (by kernel_rfl) (by kernel_rfl) (by kernel_rfl) (by exact fun _ _ _ h => h) (Or.inl ⟨by rfl, ?_⟩) (by assumption) ?_
          rotate_left
          · (intro w hSw; (try dsimp only at hSw); first | (go_simp; done) | (go_simp; with_reducible rfl))
          try simp only [Act.put, List.setIfInBounds_toArray, List.set_cons_zero, List.set_cons_succ]
          refine wpAnyH_take (i := 5) (v := ?_) (by (simp only [List.getElem?_toArray, List.getElem?_cons_zero, List.getElem?_cons_succ]; exact rfl)) (by kernel_rfl) (by kernel_rfl) (by kernel_rfl) (by exact fun _ _ _ h => h) (Or.inl ⟨by rfl, ?_⟩) (by assumption) ?_
          rotate_left
          · (intro w hSw; (try dsimp only at hSw); first | (go_simp; done) | (go_simp; with_reducible rfl))
          try simp only [Act.put, List.setIfInBounds_toArray, List.set_cons_zero, List.set_cons_succ]
          refine wpAnyH_done (by kernel_rfl) ?_ _
          have L5 := Lib.hid (LL.out _ HB1)
          clear HB1 b5 HB0 LL KC BG NN
          go_wp2_with fail
          go_roundw
          case rel => exact ⟨i + 1, by go_num, IN, L5⟩
          case measure => simp [intOf]; omega
      · have q2 : decide (0 ≤ d) = false := decide_eq_false q1
        have IN : Hid (i + 1 ≤ n ∧ ∀ j, j < i + 1 → dayB (gl l j) s = false) := ⟨by have := LN.out; have := IL.out; omega, fun j hj => by
          by_cases e : j = i
          · rw [e, DB.out, q2]; rfl
          · exact I.out.2 j (by omega)⟩
        clear q1 I
        go_wp2_with fail
        refine wp_region_held_drew (S := fun w' => w'.cell? ⟨wr.heap.size, 0, none⟩ = some (.int .i64 xt) ∧ w'.cell? ⟨wr.heap.size, 1, none⟩ = some (.int .i64 xk)) (by kernel_rfl) (KC.out _ HB0) (fun hHeld => ?_)
        refine wpAnyH_take (i := 0) (v := ?_) (by (simp only [List.getElem?_toArray, List.getElem?_cons_zero]; exact rfl)) (by kernel_rfl) (by kernel_rfl) (by kernel_rfl) (by exact fun _ _ _ h => h) (Or.inl ⟨by rfl, ?_⟩) (by assumption) ?_
        rotate_left
        · (intro w hSw; (try dsimp only at hSw); first | (go_simp; done) | (go_simp; with_reducible rfl))
        try simp only [Act.put, List.setIfInBounds_toArray, List.set_cons_zero, List.set_cons_succ]
        refine wpAnyH_take (i := 2) (v := ?_) (by (simp only [List.getElem?_toArray, List.getElem?_cons_zero, List.getElem?_cons_succ]; exact rfl)) (by kernel_rfl) (by kernel_rfl) (by kernel_rfl) (by exact fun _ _ _ h => h) (Or.inl ⟨by rfl, ?_⟩) (by assumption) ?_
        rotate_left
        · (intro w hSw; (try dsimp only at hSw); first | (go_simp; done) | (go_simp; with_reducible rfl))
        try simp only [Act.put, List.setIfInBounds_toArray, List.set_cons_zero, List.set_cons_succ]
        refine wpAnyH_ready (rs := [1]) (by kernel_rfl) (by simp) ?_
        refine AllReadyH.cons (by (simp only [List.getElem?_toArray, List.getElem?_cons_zero, List.getElem?_cons_succ]; exact rfl)) (fun K hK => ?_) AllReadyH.nil
        go_simp
        go_at_call 28; refine (NN.out _).mono ?_; rintro e w5 ⟨rfl, rfl⟩
        go_wp2_with fail
        refine hK.out _ _ (KC.out _ HB0) (fun hHeld => ?_)
        clear hK K
        try simp only [Act.put, List.setIfInBounds_toArray, List.set_cons_zero, List.set_cons_succ]
        refine wpAnyH_ready (rs := [3]) (by kernel_rfl) (by simp) ?_
        refine AllReadyH.cons (by (simp only [List.getElem?_toArray, List.getElem?_cons_zero, List.getElem?_cons_succ]; exact rfl)) (fun K hK => ?_) AllReadyH.nil
        go_simp
        go_at_call 29; refine (BG.out _).mono ?_; rintro e w5 ⟨rfl, b5⟩; have HB1 : Below W0.heap.size W0 w5 := HB0.trans (b5.mono HB0.size)
        go_wp2_with fail
        refine hK.out _ _ (KC.out _ HB1) (fun hHeld => ?_)
        clear hK K
        try simp only [Act.put, List.setIfInBounds_toArray, List.set_cons_zero, List.set_cons_succ]
        refine wpAnyH_take (i := 4) (v := ?_) (by (simp only [List.getElem?_toArray, List.getElem?_cons_zero, List.getElem?_cons_succ]; exact rfl)) (by kernel_rfl) (by kernel_rfl) (by kernel_rfl) (by exact fun _ _ _ h => h) (Or.inl ⟨by rfl, ?_⟩) (by assumption) ?_
        rotate_left
        · (intro w hSw; (try dsimp only at hSw); first | (go_simp; done) | (go_simp; with_reducible rfl))
        try simp only [Act.put, List.setIfInBounds_toArray, List.set_cons_zero, List.set_cons_succ]
        refine wpAnyH_take (i := 5) (v := ?_) (by (simp only [List.getElem?_toArray, List.getElem?_cons_zero, List.getElem?_cons_succ]; exact rfl)) (by kernel_rfl) (by kernel_rfl) (by kernel_rfl) (by exact fun _ _ _ h => h) (Or.inl ⟨by rfl, ?_⟩) (by assumption) ?_
        rotate_left
        · (intro w hSw; (try dsimp only at hSw); first | (go_simp; done) | (go_simp; with_reducible rfl))
        try simp only [Act.put, List.setIfInBounds_toArray, List.set_cons_zero, List.set_cons_succ]
        refine wpAnyH_done (by kernel_rfl) ?_ _
        have L5 := Lib.hid (LL.out _ HB1)
        clear HB1 b5 HB0 LL KC BG NN
        go_wp2_with fail
        go_roundw
        case rel => exact ⟨i + 1, by go_num, IN, L5⟩
        case measure => simp [intOf]; omega
    · have z1 : (n : Int) ≤ (i : Int) := by omega
      have z2 : decide ((i : Int) < (n : Int)) = false := decide_eq_false (by omega)
      have FV : Hid (WithE l s = .returned (.tuple #[.int .i64 0, .bool false])) := with_none (within_none fun j hj => I.out.2 j (by have := LN.out; omega))
      clear z I
      go_wp2
      go_ret2
      exact ⟨FV.out.symm, L.out⟩

/-! ### Back -/
def intAt15 (w : World) (a : Addr) : Int := match w.cell? a with | some (.int _ z) => z | _ => 0
theorem intAt15_of {w : World} {a : Addr} {k : IntKind} {z : Int} (h : w.cell? a = some (.int k z)) : intAt15 w a = z := by unfold intAt15; rw [h]
/-- The least instant that reaches it. -/
def LeastP (w : World) (P : Int → Bool) (r : Ending) (w' : World) : Prop :=
  Below w.heap.size w w' ∧ ((∃ d : Int, r = .returned (.tuple #[.int .i64 d, .bool true]) ∧ 0 ≤ d ∧ d ≤ 4611686018427387904 ∧ P d = true ∧ (d = 0 ∨ P (d - 1) = false)) ∨ (r = .returned (.tuple #[.int .i64 0, .bool false]) ∧ P 4611686018427387904 = false))
structure LeS (w wr : World) (P : Int → Bool) (lo hi : Int) : Prop where
  c : wr.heap[w.heap.size]? = some (.cells #[.int .i64 lo, .int .i64 hi] 66 (0, 0))
  low : Below w.heap.size w wr
  b0 : -1 ≤ lo
  b1 : lo < hi
  b2 : hi ≤ 4611686018427387904
  ph : P hi = true
  pl : lo = -1 ∨ P lo = false
set_option maxHeartbeats 2000000 in
theorem pleast15 (w : World) (P : Int → Bool) (C : Array Value)
    (RE : ∀ w' d, Below w.heap.size w w' → 0 ≤ d → d ≤ 4611686018427387904 → Calls Try.prog 36 (#[.int .i64 d] ++ C) w' fun e w'' => e = .returned (.bool (P d)) ∧ Below w'.heap.size w' w'') :
    Calls Try.prog 35 #[.func (.func 36) #[] C] w (LeastP w P) := by
  have R := Lib.hid RE
  have A : Hid (Below w.heap.size w (w.alloc (.cells #[.int .i64 (-1), .int .i64 4611686018427387904] 66)) ∧ (w.alloc (.cells #[.int .i64 (-1), .int .i64 4611686018427387904] 66)).heap[w.heap.size]? = some (.cells #[.int .i64 (-1), .int .i64 4611686018427387904] 66 (0, 0))) := ⟨(Below.refl _ _).alloc (Nat.le_refl _) _, heap_alloc_new _ _⟩
  clear RE
  go_enter Try.func35, Try.ntmps35
  go_wp2_with fail
  refine (R.out _ _ A.out.1 (by decide) (by decide)).mono ?_; rintro e w1 ⟨rfl, l1⟩
  have K1 : Hid (w1.heap[w.heap.size]? = some (.cells #[.int .i64 (-1), .int .i64 4611686018427387904] 66 (0, 0))) := (l1.block _ (Array.getElem?_eq_some_iff.1 A.out.2).1).trans A.out.2
  have L1 : Hid (Below w.heap.size w w1) := A.out.1.trans (l1.mono A.out.1.size)
  clear l1 A
  obtain ⟨b, hb⟩ : ∃ b, P 4611686018427387904 = b := ⟨_, rfl⟩
  have HB := Lib.hid hb
  rw [hb]
  clear hb
  cases b
  · have F : Hid (LeastP w P (.returned (.tuple #[.int .i64 0, .bool false])) w1) := ⟨L1.out, .inr ⟨rfl, HB.out⟩⟩
    go_wp2
    go_ret2
    exact F.out
  go_wp2_with fail
  go_loopw [5] (fun _ wr => ∃ lo hi : Int, Hid (LeS w wr P lo hi)) (fun _ wr => (intAt15 wr ⟨w.heap.size, 1, none⟩ - intAt15 wr ⟨w.heap.size, 0, none⟩).toNat)
  case atStart => exact ⟨-1, 4611686018427387904, K1.out, L1.out, by decide, by decide, by decide, HB.out, .inl rfl⟩
  case round =>
    clear K1 L1 HB
    obtain ⟨lo, hi, I⟩ := hrel
    have C0 := blk_cell (o := 0) I.out.c
    have C1 := blk_cell (o := 1) I.out.c
    have F0 := blk_free (o := 0) I.out.c
    have F1 := blk_free (o := 1) I.out.c
    simp only [List.getElem?_toArray, List.getElem?_cons_zero, List.getElem?_cons_succ] at C0 C1
    obtain ⟨g, hg⟩ : ∃ g, hi - lo = g := ⟨_, rfl⟩
    have b0 := I.out.b0
    have b1 := I.out.b1
    have b2 := I.out.b2
    have w1 : wrap64 g = g := by unfold wrap64; omega
    have w2 : IntKind.i64.wrap g = g := by rw [IntKind.wrap_i64]; omega
    have M0 : intAt15 wr ⟨w.heap.size, 0, none⟩ = lo := intAt15_of C0
    have M1 : intAt15 wr ⟨w.heap.size, 1, none⟩ = hi := intAt15_of C1
    by_cases stop : g ≤ 1
    · have d1 : decide (1 < g) = false := decide_eq_false (by omega)
      have F : Hid (LeastP w P (.returned (.tuple #[.int .i64 hi, .bool true])) wr) := by
        refine ⟨I.out.low, .inl ⟨hi, rfl, by omega, b2, I.out.ph, ?_⟩⟩
        rcases I.out.pl with h | h
        · left; omega
        · right; rw [show hi - 1 = lo by omega]; exact h
      clear I b0 b1 b2 M0 M1
      go_wp2
      go_ret2
      exact F.out
    · have d1 : decide (1 < g) = true := decide_eq_true (by omega)
      have d2 : 1 < g := by omega
      obtain ⟨k, hk⟩ : ∃ k, g / 2 = k := ⟨_, rfl⟩
      have kt : g.tdiv 2 = k := by rw [Int.tdiv_eq_ediv_of_nonneg (by omega)]; exact hk
      obtain ⟨m, hm⟩ : ∃ m, lo + k = m := ⟨_, rfl⟩
      have m0 : 0 ≤ m := by omega
      have m1 : m ≤ 4611686018427387904 := by omega
      have m2 : m < hi := by omega
      have m3 : lo < m := by omega
      have w3 : wrap64 k = k := by unfold wrap64; omega
      have w4 : wrap64 m = m := by unfold wrap64; omega
      have w5 : IntKind.i64.wrap k = k := by rw [IntKind.wrap_i64]; omega
      have w6 : IntKind.i64.wrap m = m := by rw [IntKind.wrap_i64]; omega
      have MM : Hid (lo < m ∧ m < hi ∧ m ≤ 4611686018427387904 ∧ 0 ≤ m) := ⟨m3, m2, m1, m0⟩
      have RM := Lib.hid (fun w' l => R.out w' m l m0 m1)
      have NM := Lib.hid (And.intro M0 M1)
      clear b0 b1 b2 M0 M1 m0 m1 m2 m3 stop
      go_wp2_with fail
      refine (RM.out wr I.out.low).mono ?_; rintro e w3 ⟨rfl, l3⟩
      have K3 : Hid (w3.heap[w.heap.size]? = some (.cells #[.int .i64 lo, .int .i64 hi] 66 (0, 0))) := (l3.block _ (Array.getElem?_eq_some_iff.1 I.out.c).1).trans I.out.c
      have L3 : Hid (Below w.heap.size w w3) := I.out.low.trans (l3.mono I.out.low.size)
      have G0 := blk_cell (o := 0) K3.out
      have G1 := blk_cell (o := 1) K3.out
      have E0 := blk_free (o := 0) K3.out
      have E1 := blk_free (o := 1) K3.out
      simp only [List.getElem?_toArray, List.getElem?_cons_zero, List.getElem?_cons_succ] at G0 G1
      obtain ⟨b, hb⟩ : ∃ b, P m = b := ⟨_, rfl⟩
      have HB := Lib.hid hb
      rw [hb]
      clear hb l3 hm hk RM
      cases b
      · have S : Hid (LeS w (w3.setCell ⟨w.heap.size, 0, none⟩ (.int .i64 m)) P m hi) := ⟨blk_set K3.out, L3.out.setCell (Nat.le_refl _) _, by have := MM.out; omega, MM.out.2.1, I.out.b2, I.out.ph, .inr HB.out⟩
        have Q : Hid ((intAt15 (w3.setCell ⟨w.heap.size, 0, none⟩ (.int .i64 m)) ⟨w.heap.size, 1, none⟩ - intAt15 (w3.setCell ⟨w.heap.size, 0, none⟩ (.int .i64 m)) ⟨w.heap.size, 0, none⟩).toNat < (intAt15 wr ⟨w.heap.size, 1, none⟩ - intAt15 wr ⟨w.heap.size, 0, none⟩).toNat) := by
          unfold Hid
          rw [intAt15_of (blk_cell (o := 0) S.out.c), intAt15_of (blk_cell (o := 1) S.out.c), NM.out.1, NM.out.2]
          have := MM.out
          omega
        go_wp2
        go_roundw
        case rel => exact ⟨m, hi, S⟩
        case measure => exact Q.out
      · have S : Hid (LeS w (w3.setCell ⟨w.heap.size, 1, none⟩ (.int .i64 m)) P lo m) := ⟨blk_set K3.out, L3.out.setCell (Nat.le_refl _) _, I.out.b0, MM.out.1, MM.out.2.2.1, HB.out, I.out.pl⟩
        have Q : Hid ((intAt15 (w3.setCell ⟨w.heap.size, 1, none⟩ (.int .i64 m)) ⟨w.heap.size, 1, none⟩ - intAt15 (w3.setCell ⟨w.heap.size, 1, none⟩ (.int .i64 m)) ⟨w.heap.size, 0, none⟩).toNat < (intAt15 wr ⟨w.heap.size, 1, none⟩ - intAt15 wr ⟨w.heap.size, 0, none⟩).toNat) := by
          unfold Hid
          rw [intAt15_of (blk_cell (o := 0) S.out.c), intAt15_of (blk_cell (o := 1) S.out.c), NM.out.1, NM.out.2]
          have := MM.out
          omega
        go_wp2
        go_roundw
        case rel => exact ⟨lo, m, S⟩
        case measure => exact Q.out

/-- Is it reached? -/
def reachL (l : List Lp) (s d : Int) : Bool := decide (s ≤ toI l d)
set_option maxHeartbeats 2000000 in
theorem preach15 (w : World) (A B : Nat) {P p : Option Addr} {n c : Nat} {l : List Lp} (s d : Int) (T U : TypeId) (h : HasL w P p n c l) (hA : w.heap[A]? = some (.cells #[.pointer P] T (0, 0))) (hB : w.heap[B]? = some (.cells #[.int .i64 s] U (0, 0))) :
    Calls Try.prog 36 #[.int .i64 d, .pointer (some ⟨A, 0, none⟩), .pointer (some ⟨B, 0, none⟩)] w fun e w' => e = .returned (.bool (reachL l s d)) ∧ Below w.heap.size w w' := by
  unfold reachL
  have TC : Hid (∀ w', Below w.heap.size w w' → Calls Try.prog 17 #[.pointer P, .int .i64 d] w' fun e w'' => e = .returned (.int .i64 (toI l d)) ∧ Below w'.heap.size w' w'') := fun w' k => pto_any (h.below k) d
  have KC : Hid (∀ w', Below w.heap.size w w' → w'.cell? ⟨A, 0, none⟩ = some (.pointer P) ∧ w'.cell? ⟨B, 0, none⟩ = some (.int .i64 s)) := fun w' k =>
    ⟨blk_cell ((k.block _ (Array.getElem?_eq_some_iff.1 hA).1).trans hA), blk_cell ((k.block _ (Array.getElem?_eq_some_iff.1 hB).1).trans hB)⟩
  have HB0 : Below w.heap.size w w.drew := (Below.refl _ _).drew
  generalize toI l d = v at *
  clear h hA hB
  go_enter Try.func36, Try.ntmps36
  go_wp2_with fail
  refine wp_region_held_drew (S := fun w' => w'.cell? ⟨A, 0, none⟩ = some (.pointer P) ∧ w'.cell? ⟨B, 0, none⟩ = some (.int .i64 s)) (by kernel_rfl) (KC.out _ HB0) (fun hHeld => ?_)
  refine wpAnyH_take (i := 0) (v := ?_) (by (simp only [List.getElem?_toArray, List.getElem?_cons_zero]; exact rfl)) (by kernel_rfl) (by kernel_rfl) (by kernel_rfl) (by exact fun _ _ _ h => h) (Or.inl ⟨by rfl, ?_⟩) (by assumption) ?_
  rotate_left
  · (intro w hSw; (try dsimp only at hSw); first | (go_simp; done) | (go_simp; with_reducible rfl))
  try simp only [Act.put, List.setIfInBounds_toArray, List.set_cons_zero, List.set_cons_succ]
  refine wpAnyH_take (i := 1) (v := ?_) (by (simp only [List.getElem?_toArray, List.getElem?_cons_zero, List.getElem?_cons_succ]; exact rfl)) (by kernel_rfl) (by kernel_rfl) (by kernel_rfl) (by exact fun _ _ _ h => h) (Or.inl ⟨by rfl, ?_⟩) (by assumption) ?_
  rotate_left
  · (intro w hSw; (try dsimp only at hSw); first | (go_simp; done) | (go_simp; with_reducible rfl))
  try simp only [Act.put, List.setIfInBounds_toArray, List.set_cons_zero, List.set_cons_succ]
  refine wpAnyH_take (i := 3) (v := ?_) (by (simp only [List.getElem?_toArray, List.getElem?_cons_zero, List.getElem?_cons_succ]; exact rfl)) (by kernel_rfl) (by kernel_rfl) (by kernel_rfl) (by exact fun _ _ _ h => h) (Or.inl ⟨by rfl, ?_⟩) (by assumption) ?_
  rotate_left
  · (intro w hSw; (try dsimp only at hSw); first | (go_simp; done) | (go_simp; with_reducible rfl))
  try simp only [Act.put, List.setIfInBounds_toArray, List.set_cons_zero, List.set_cons_succ]
  refine wpAnyH_ready (rs := [2]) (by kernel_rfl) (by simp) ?_
  refine AllReadyH.cons (by (simp only [List.getElem?_toArray, List.getElem?_cons_zero, List.getElem?_cons_succ]; exact rfl)) (fun K hK => ?_) AllReadyH.nil
  go_simp
  go_at_call 17; refine (TC.out _ HB0).mono ?_; rintro e w5 ⟨rfl, b5⟩; have HB1 : Below w.heap.size w w5 := HB0.trans (b5.mono HB0.size)
  go_wp2_with fail
  refine hK.out _ _ (KC.out _ HB1) (fun hHeld => ?_)
  clear hK K
  try simp only [Act.put, List.setIfInBounds_toArray, List.set_cons_zero, List.set_cons_succ]
  refine wpAnyH_take (i := 4) (v := ?_) (by (simp only [List.getElem?_toArray, List.getElem?_cons_zero, List.getElem?_cons_succ]; exact rfl)) (by kernel_rfl) (by kernel_rfl) (by kernel_rfl) (by exact fun _ _ _ h => h) (Or.inl ⟨by rfl, ?_⟩) (by assumption) ?_
  rotate_left
  · (intro w hSw; (try dsimp only at hSw); first | (go_simp; done) | (go_simp; with_reducible rfl))
  try simp only [Act.put, List.setIfInBounds_toArray, List.set_cons_zero, List.set_cons_succ]
  refine wpAnyH_take (i := 5) (v := ?_) (by (simp only [List.getElem?_toArray, List.getElem?_cons_zero, List.getElem?_cons_succ]; exact rfl)) (by kernel_rfl) (by kernel_rfl) (by kernel_rfl) (by exact fun _ _ _ h => h) (Or.inl ⟨by rfl, ?_⟩) (by assumption) ?_
  rotate_left
  · (intro w hSw; (try dsimp only at hSw); first | (go_simp; done) | (go_simp; with_reducible rfl))
  try simp only [Act.put, List.setIfInBounds_toArray, List.set_cons_zero, List.set_cons_succ]
  refine wpAnyH_done (by kernel_rfl) ?_ _
  go_wp2
  go_ret
  exact ⟨rfl, HB1⟩
theorem back_of {l : List Lp} {s : Int} {w w' : World} {e : Ending} (h : LeastP w (reachL l s) e w') : ∃ t b, e = .returned (.tuple #[.int .i64 t, .bool b]) ∧ BackP l s t b := by
  rcases h.2 with ⟨d, rfl, h0, h1, h2, h3⟩ | ⟨rfl, h5⟩
  · refine ⟨d, true, rfl, .inl ⟨rfl, h0, h1, of_decide_eq_true h2, fun p => ?_⟩⟩
    rcases h3 with e | e
    · omega
    · have := of_decide_eq_false e
      omega
  · exact ⟨0, false, rfl, .inr ⟨rfl, rfl, by have := of_decide_eq_false h5; unfold topI; omega⟩⟩
theorem pback_any {w : World} {P p : Option Addr} {n c : Nat} {l : List Lp} (h : HasL w P p n c l) (s : Int) :
    Calls Try.prog 22 #[.pointer P, .int .i64 s] w fun e w' => (∃ t b, e = .returned (.tuple #[.int .i64 t, .bool b]) ∧ BackP l s t b) ∧ Below w.heap.size w w' := by
  have B1 : Below w.heap.size w (w.alloc (.cells #[.pointer P] 27)) := (Below.refl _ _).alloc (Nat.le_refl _) _
  have C1 : (w.alloc (.cells #[.pointer P] 27)).heap[w.heap.size]? = some (.cells #[.pointer P] 27 (0, 0)) := heap_alloc_new w _
  have s1 : (w.alloc (.cells #[.pointer P] 27)).heap.size = w.heap.size + 1 := by simp
  obtain ⟨V, hV⟩ : ∃ V, (w.alloc (.cells #[.pointer P] 27)).alloc (.cells #[.int .i64 s] 2) = V := ⟨_, rfl⟩
  have B2 : Below (w.alloc (.cells #[.pointer P] 27)).heap.size (w.alloc (.cells #[.pointer P] 27)) V := by rw [← hV]; exact (Below.refl _ _).alloc (Nat.le_refl _) _
  have C2 : V.heap[w.heap.size + 1]? = some (.cells #[.int .i64 s] 2 (0, 0)) := by rw [← hV, ← s1]; exact heap_alloc_new _ _
  have D1 := (B2.block _ (by omega)).trans C1
  have L1 := B1.trans (B2.mono B1.size)
  have LE := Lib.hid (pleast15 V (reachL l s) #[.pointer (some ⟨w.heap.size, 0, none⟩), .pointer (some ⟨w.heap.size + 1, 0, none⟩)] (fun w' d k _ _ => preach15 w' w.heap.size (w.heap.size + 1) s d 27 2 (h.below (L1.trans (k.mono L1.size))) ((k.block _ (Array.getElem?_eq_some_iff.1 D1).1).trans D1) ((k.block _ (Array.getElem?_eq_some_iff.1 C2).1).trans C2)))
  have LL := Lib.hid L1
  clear B1 C1 s1 B2 C2 D1 L1 h
  go_enter Try.func22, Try.ntmps22
  go_wp2_with fail
  refine LE.out.mono ?_; rintro e w2 hl
  obtain ⟨t, b, rfl, hb⟩ := back_of hl
  have F : Hid ((∃ t' b', Ending.returned (.tuple #[.int .i64 t, .bool b]) = .returned (.tuple #[.int .i64 t', .bool b']) ∧ BackP l s t' b') ∧ Below w.heap.size w w2) := ⟨⟨t, b, rfl, hb⟩, LL.out.trans (hl.1.mono LL.out.size)⟩
  clear hl hb LE
  go_wp2
  go_ret2
  exact F.out
end Go.Proofs.Ytmafjhggjpjgmaa
