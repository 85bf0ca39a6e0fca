/- Layer 15 (smear), work ahead, the document's own: Within, New. -/
import Derived.Test.YtmafjhggjpjgmaaSmA
import Derived.BigRegion
import Derived.BigQuiet
import Derived.Deep.DeepCutAuto
import Derived.Deep.CutBlock
import Derived.Deep.CutRange
set_option maxRecDepth 100000
namespace Go.Proofs.Ytmafjhggjpjgmaa
open Go.ChangeShapes Go.WideShapes Go.ChangeAt Go.RowKit SmM

/-- Does an instant stand in a leap's day? -/
def dayB (x : Lp) (s : Int) : Bool := decide (x.t - halfI ≤ s) && decide (s < x.t + halfI)
/-- Whose day it is; -1: nobody's. -/
def withinI (l : List Lp) (s : Int) : Int := match l.findIdx? (fun x => dayB x s) with | some i => (i : Int) | none => -1
theorem within_some {l : List Lp} {s : Int} {i : Nat} (h : i < l.length) (d : dayB (gl l i) s = true) (b : ∀ j, j < i → dayB (gl l j) s = false) : withinI l s = (i : Int) := by
  unfold withinI
  rw [List.findIdx?_eq_some_iff_getElem.2 ⟨h, by rw [← gl_of h]; exact d, fun j hj => by rw [← gl_of (by omega)]; rw [b j hj]; decide⟩]
theorem within_none {l : List Lp} {s : Int} (b : ∀ j, j < l.length → dayB (gl l j) s = false) : withinI l s = -1 := by
  unfold withinI
  rw [List.findIdx?_eq_none_iff.2 fun x hx => by
    obtain ⟨j, hj, rfl⟩ := List.getElem_of_mem hx
    rw [← gl_of hj]
    exact b j hj]

set_option maxHeartbeats 2000000 in
theorem rwithin15 (w : World) (p : Option Addr) (n c : Nat) (l : List Lp) (h : HoldsL w p n c l) (hl : InL l) (hn : n ≤ 32) (t : Int) :
    Calls Try.prog 16 #[.slice p n c, .int .i64 t] w fun e w' => e = .returned (.int .i64 (withinI l (nearI t))) ∧ Below w.heap.size w w' := by
  obtain ⟨s, hs⟩ : ∃ s, nearI t = s := ⟨_, rfl⟩
  have NE := Lib.hid (fun w => rnear15 w t)
  rw [hs] at NE ⊢
  have HL := Lib.hid h
  have HI := Lib.hid hl
  have LN := Lib.hid h.len
  have nb : (n : Int) ≤ 32 := by omega
  clear h hl hs hn
  go_enter Try.func16, Try.ntmps16
  go_wp2_with fail
  go_loopw [5] (fun ii wr => ∃ i : Nat, ii = .int .i64 (i : Nat) ∧ Hid (i ≤ n ∧ ∀ j, j < i → dayB (gl l j) s = false) ∧ Hid (Below w.heap.size w wr)) (fun ii _ => 1000 - (intOf ii).toNat)
  case atStart => exact ⟨0, rfl, ⟨Nat.zero_le _, fun j hj => by omega⟩, Below.refl _ _⟩
  case round =>
    obtain ⟨i, rfl, I, L⟩ := hrel
    have i0 : (0 : Int) ≤ (i : Int) := by omega
    by_cases z : i < n
    · have z1 : (i : Int) < (n : Int) := by omega
      obtain ⟨a, rfl, -, -⟩ := HL.out.cell i z
      obtain ⟨x, hx⟩ : ∃ x, gl l i = x := ⟨_, rfl⟩
      have HX := Lib.hid hx
      have CE : Hid (∀ w', Below wr.heap.size wr w' → w'.cell? (a.add (i * 2)) = some (.int .i64 x.t)) := fun w' k => by
        obtain ⟨a', ea, c1, c2⟩ := (HL.out.below (L.out.trans (k.mono L.out.size))).cell i z
        injection ea with ea
        subst ea
        rw [hx] at c1
        exact c1
      have il : i < l.length := by rw [LN.out]; exact z
      have XI := HI.out x (by rw [← hx]; exact gl_mem il)
      have IL := Lib.hid il
      have NN : Hid (∀ w', Below wr.heap.size wr w' → Calls Try.prog 30 #[.int .i64 t] w' fun e w'' => e = .returned (.int .i64 s) ∧ Below wr.heap.size wr w'') := fun w' k => (NE.out w').mono fun e w'' ⟨a, b⟩ => ⟨a, by rw [b]; exact k⟩
      obtain ⟨xt, xk⟩ := x
      unfold dayI topI at XI
      dsimp only at XI CE
      obtain ⟨f, hf⟩ : ∃ f, xt - 43200000000000 = f := ⟨_, rfl⟩
      obtain ⟨g, hg⟩ : ∃ g, xt + 43200000000000 = g := ⟨_, rfl⟩
      have w1 : wrap64 f = f := by unfold wrap64; omega
      have w2 : IntKind.i64.wrap f = f := by rw [IntKind.wrap_i64]; omega
      have w3 : wrap64 g = g := by unfold wrap64; omega
      have w4 : IntKind.i64.wrap g = g := by rw [IntKind.wrap_i64]; omega
      have DB : Hid (dayB (gl l i) s = (decide (f ≤ s) && decide (s < g))) := by unfold Hid dayB halfI; rw [HX.out, ← hf, ← hg]
      have HB0 : Below wr.heap.size wr wr := Below.refl _ _
      clear z il XI hx
      by_cases q1 : f ≤ s
      · have q2 : decide (f ≤ s) = true := decide_eq_true q1
        by_cases q3 : s < g
        · have q4 : decide (s < g) = true := decide_eq_true q3
          have FV : Hid (withinI l s = (i : Int)) := within_some IL.out (by rw [DB.out, q2, q4]; rfl) I.out.2
          clear q1 q3 I
          go_wp2_with fail
          go_region_held3 (fun w' => w'.cell? (a.add (i * 2)) = some (.int .i64 xt)) (first | exact CE.out _ HB0 | exact CE.out _ HB0.drew)
            (first | (go_at_call 30; refine (NN.out _ (by first | exact HB0 | exact HB0.drew)).mono ?_; rintro e w5 ⟨rfl, HB0⟩))
          have L5 := Lib.hid (L.out.trans (HB0.mono L.out.size))
          clear HB0 L CE NN
          go_wp2
          go_ret
          rw [FV.out]
          exact ⟨rfl, L5.out⟩
        · have q4 : decide (s < g) = false := decide_eq_false q3
          have IN : Hid (i + 1 ≤ n ∧ ∀ j, j < i + 1 → dayB (gl l j) s = false) := ⟨by have := LN.out; have := IL.out; omega, fun j hj => by
            by_cases e : j = i
            · rw [e, DB.out, q2, q4]; rfl
            · exact I.out.2 j (by omega)⟩
          clear q1 q3 I
          go_wp2_with fail
          go_region_held3 (fun w' => w'.cell? (a.add (i * 2)) = some (.int .i64 xt)) (first | exact CE.out _ HB0 | exact CE.out _ HB0.drew)
            (first | (go_at_call 30; refine (NN.out _ (by first | exact HB0 | exact HB0.drew)).mono ?_; rintro e w5 ⟨rfl, HB0⟩))
          have L5 := Lib.hid (L.out.trans (HB0.mono L.out.size))
          clear HB0 L CE NN
          go_wp2_with fail
          go_roundw
          case rel => exact ⟨i + 1, by go_num, IN, L5⟩
          case measure => simp [intOf]; omega
      · have q2 : decide (f ≤ s) = false := decide_eq_false q1
        have IN : Hid (i + 1 ≤ n ∧ ∀ j, j < i + 1 → dayB (gl l j) s = false) := ⟨by have := LN.out; have := IL.out; omega, fun j hj => by
          by_cases e : j = i
          · rw [e, DB.out, q2]; rfl
          · exact I.out.2 j (by omega)⟩
        clear q1 I
        go_wp2_with fail
        /- hand: begin -/
        refine wp_region_held_drew (S := fun w' => w'.cell? (a.add (i * 2)) = some (.int .i64 xt)) (by kernel_rfl) (CE.out _ HB0.drew) (fun hHeld => ?_)
        refine wpAnyH_take (i := 0) (v := ?_) (by (simp only [List.getElem?_toArray, List.getElem?_cons_zero]; exact rfl)) (by kernel_rfl) (by kernel_rfl) (by kernel_rfl) (by exact fun _ _ _ h => h) (Or.inl ⟨by rfl, ?_⟩) (by assumption) ?_
        rotate_left
        · (intro w hSw; (try dsimp only at hSw); first | (go_simp; done) | (go_simp; with_reducible rfl))
        try simp only [Act.put, List.setIfInBounds_toArray, List.set_cons_zero, List.set_cons_succ]
        refine wpAnyH_take (i := 2) (v := ?_) (by (simp only [List.getElem?_toArray, List.getElem?_cons_zero, List.getElem?_cons_succ]; exact rfl)) (by kernel_rfl) (by kernel_rfl) (by kernel_rfl) (by exact fun _ _ _ h => h) (Or.inl ⟨by rfl, ?_⟩) (by assumption) ?_
        rotate_left
        · (intro w hSw; (try dsimp only at hSw); first | (go_simp; done) | (go_simp; with_reducible rfl))
        try simp only [Act.put, List.setIfInBounds_toArray, List.set_cons_zero, List.set_cons_succ]
        refine wpAnyH_take (i := 3) (v := ?_) (by (simp only [List.getElem?_toArray, List.getElem?_cons_zero, List.getElem?_cons_succ]; exact rfl)) (by kernel_rfl) (by kernel_rfl) (by kernel_rfl) (by exact fun _ _ _ h => h) (Or.inl ⟨by rfl, ?_⟩) (by assumption) ?_
        rotate_left
        · (intro w hSw; (try dsimp only at hSw); first | (go_simp; done) | (go_simp; with_reducible rfl))
        try simp only [Act.put, List.setIfInBounds_toArray, List.set_cons_zero, List.set_cons_succ]
        refine wpAnyH_take (i := 4) (v := ?_) (by (simp only [List.getElem?_toArray, List.getElem?_cons_zero, List.getElem?_cons_succ]; exact rfl)) (by kernel_rfl) (by kernel_rfl) (by kernel_rfl) (by exact fun _ _ _ h => h) (Or.inl ⟨by rfl, ?_⟩) (by assumption) ?_
        rotate_left
        · (intro w hSw; (try dsimp only at hSw); first | (go_simp; done) | (go_simp; with_reducible rfl))
        try simp only [Act.put, List.setIfInBounds_toArray, List.set_cons_zero, List.set_cons_succ]
        refine wpAnyH_take (i := 5) (v := ?_) (by (simp only [List.getElem?_toArray, List.getElem?_cons_zero, List.getElem?_cons_succ]; exact rfl)) (by kernel_rfl) (by kernel_rfl) (by kernel_rfl) (by exact fun _ _ _ h => h) (Or.inl ⟨by rfl, ?_⟩) (by assumption) ?_
        rotate_left
        · (intro w hSw; (try dsimp only at hSw); first | (go_simp; done) | (go_simp; with_reducible rfl))
        try simp only [Act.put, List.setIfInBounds_toArray, List.set_cons_zero, List.set_cons_succ]
        refine wpAnyH_take (i := 6) (v := ?_) (by (simp only [List.getElem?_toArray, List.getElem?_cons_zero, List.getElem?_cons_succ]; exact rfl)) (by kernel_rfl) (by kernel_rfl) (by kernel_rfl) (by exact fun _ _ _ h => h) (Or.inl ⟨by rfl, ?_⟩) (by assumption) ?_
        rotate_left
        · (intro w hSw; (try dsimp only at hSw); first | (go_simp; done) | (go_simp; with_reducible rfl))
        try simp only [Act.put, List.setIfInBounds_toArray, List.set_cons_zero, List.set_cons_succ]
        refine wpAnyH_take (i := 7) (v := ?_) (by (simp only [List.getElem?_toArray, List.getElem?_cons_zero, List.getElem?_cons_succ]; exact rfl)) (by kernel_rfl) (by kernel_rfl) (by kernel_rfl) (by exact fun _ _ _ h => h) (Or.inl ⟨by rfl, ?_⟩) (by assumption) ?_
        rotate_left
        · (intro w hSw; (try dsimp only at hSw); first | (go_simp; done) | (go_simp; with_reducible rfl))
        try simp only [Act.put, List.setIfInBounds_toArray, List.set_cons_zero, List.set_cons_succ]
        refine wpAnyH_ready (rs := [1]) (by kernel_rfl) (by simp) ?_
        refine AllReadyH.cons (by (simp only [List.getElem?_toArray, List.getElem?_cons_zero, List.getElem?_cons_succ]; exact rfl)) (fun K hK => ?_) AllReadyH.nil
        go_simp
        go_at_call 30; refine (NN.out _ (by first | exact HB0 | exact HB0.drew)).mono ?_; rintro e w5 ⟨rfl, HB0⟩
        go_wp2_with fail
        refine hK.out _ _ (CE.out _ HB0) (fun hHeld => ?_)
        clear hK K
        try simp only [Act.put, List.setIfInBounds_toArray, List.set_cons_zero, List.set_cons_succ]
        refine wpAnyH_take (i := 8) (v := ?_) (by (simp only [List.getElem?_toArray, List.getElem?_cons_zero, List.getElem?_cons_succ]; exact rfl)) (by kernel_rfl) (by kernel_rfl) (by kernel_rfl) (by exact fun _ _ _ h => h) (Or.inl ⟨by rfl, ?_⟩) (by assumption) ?_
        rotate_left
        · (intro w hSw; (try dsimp only at hSw); first | (go_simp; done) | (go_simp; with_reducible rfl))
        try simp only [Act.put, List.setIfInBounds_toArray, List.set_cons_zero, List.set_cons_succ]
        refine wpAnyH_take (i := 9) (v := ?_) (by (simp only [List.getElem?_toArray, List.getElem?_cons_zero, List.getElem?_cons_succ]; exact rfl)) (by kernel_rfl) (by kernel_rfl) (by kernel_rfl) (by exact fun _ _ _ h => h) (Or.inl ⟨by rfl, ?_⟩) (by assumption) ?_
        rotate_left
        · (intro w hSw; (try dsimp only at hSw); first | (go_simp; done) | (go_simp; with_reducible rfl))
        try simp only [Act.put, List.setIfInBounds_toArray, List.set_cons_zero, List.set_cons_succ]
        refine wpAnyH_take (i := 10) (v := undef) (by (simp only [List.getElem?_toArray, List.getElem?_cons_zero, List.getElem?_cons_succ]; exact rfl)) (by kernel_rfl) (by kernel_rfl) (by kernel_rfl) (by exact fun _ _ _ h => h) (Or.inr ⟨by rfl, rfl⟩) (by assumption) ?_
        try simp only [Act.put, List.setIfInBounds_toArray, List.set_cons_zero, List.set_cons_succ]
        refine wpAnyH_take (i := 11) (v := undef) (by (simp only [List.getElem?_toArray, List.getElem?_cons_zero, List.getElem?_cons_succ]; exact rfl)) (by kernel_rfl) (by kernel_rfl) (by kernel_rfl) (by exact fun _ _ _ h => h) (Or.inr ⟨by rfl, rfl⟩) (by assumption) ?_
        try simp only [Act.put, List.setIfInBounds_toArray, List.set_cons_zero, List.set_cons_succ]
        refine wpAnyH_take (i := 12) (v := undef) (by (simp only [List.getElem?_toArray, List.getElem?_cons_zero, List.getElem?_cons_succ]; exact rfl)) (by kernel_rfl) (by kernel_rfl) (by kernel_rfl) (by exact fun _ _ _ h => h) (Or.inr ⟨by rfl, rfl⟩) (by assumption) ?_
        try simp only [Act.put, List.setIfInBounds_toArray, List.set_cons_zero, List.set_cons_succ]
        refine wpAnyH_take (i := 13) (v := undef) (by (simp only [List.getElem?_toArray, List.getElem?_cons_zero, List.getElem?_cons_succ]; exact rfl)) (by kernel_rfl) (by kernel_rfl) (by kernel_rfl) (by exact fun _ _ _ h => h) (Or.inr ⟨by rfl, rfl⟩) (by assumption) ?_
        try simp only [Act.put, List.setIfInBounds_toArray, List.set_cons_zero, List.set_cons_succ]
        refine wpAnyH_take (i := 14) (v := undef) (by (simp only [List.getElem?_toArray, List.getElem?_cons_zero, List.getElem?_cons_succ]; exact rfl)) (by kernel_rfl) (by kernel_rfl) (by kernel_rfl) (by exact fun _ _ _ h => h) (Or.inr ⟨by rfl, rfl⟩) (by assumption) ?_
        try simp only [Act.put, List.setIfInBounds_toArray, List.set_cons_zero, List.set_cons_succ]
        refine wpAnyH_take (i := 15) (v := undef) (by (simp only [List.getElem?_toArray, List.getElem?_cons_zero, List.getElem?_cons_succ]; exact rfl)) (by kernel_rfl) (by kernel_rfl) (by kernel_rfl) (by exact fun _ _ _ h => h) (Or.inr ⟨by rfl, rfl⟩) (by assumption) ?_
        try simp only [Act.put, List.setIfInBounds_toArray, List.set_cons_zero, List.set_cons_succ]
        refine wpAnyH_take (i := 16) (v := undef) (by (simp only [List.getElem?_toArray, List.getElem?_cons_zero, List.getElem?_cons_succ]; exact rfl)) (by kernel_rfl) (by kernel_rfl) (by kernel_rfl) (by exact fun _ _ _ h => h) (Or.inr ⟨by rfl, rfl⟩) (by assumption) ?_
        try simp only [Act.put, List.setIfInBounds_toArray, List.set_cons_zero, List.set_cons_succ]
        refine wpAnyH_take (i := 17) (v := undef) (by (simp only [List.getElem?_toArray, List.getElem?_cons_zero, List.getElem?_cons_succ]; exact rfl)) (by kernel_rfl) (by kernel_rfl) (by kernel_rfl) (by exact fun _ _ _ h => h) (Or.inr ⟨by rfl, rfl⟩) (by assumption) ?_
        try simp only [Act.put, List.setIfInBounds_toArray, List.set_cons_zero, List.set_cons_succ]
        refine wpAnyH_take (i := 18) (v := undef) (by (simp only [List.getElem?_toArray, List.getElem?_cons_zero, List.getElem?_cons_succ]; exact rfl)) (by kernel_rfl) (by kernel_rfl) (by kernel_rfl) (by exact fun _ _ _ h => h) (Or.inr ⟨by rfl, rfl⟩) (by assumption) ?_
        try simp only [Act.put, List.setIfInBounds_toArray, List.set_cons_zero, List.set_cons_succ]
        refine wpAnyH_take (i := 19) (v := ?_) (by (simp only [List.getElem?_toArray, List.getElem?_cons_zero, List.getElem?_cons_succ]; exact rfl)) (by kernel_rfl) (by kernel_rfl) (by kernel_rfl) (by exact fun _ _ _ h => h) (Or.inl ⟨by rfl, ?_⟩) (by assumption) ?_
        rotate_left
        · (intro w hSw; (try dsimp only at hSw); first | (go_simp; done) | (go_simp; with_reducible rfl))
        try simp only [Act.put, List.setIfInBounds_toArray, List.set_cons_zero, List.set_cons_succ]
        refine wpAnyH_done (by kernel_rfl) ?_ _
        /- hand: end -/
        have LD := Lib.hid (L.out.trans (HB0.mono L.out.size))
        clear HB0 L CE NN
        go_wp2_with fail
        go_roundw
        case rel => exact ⟨i + 1, by go_num, IN, LD⟩
        case measure => simp [intOf]; omega
    · have z1 : (n : Int) ≤ (i : Int) := by omega
      have z2 : decide ((i : Int) < (n : Int)) = false := decide_eq_false (by omega)
      have FV : Hid (withinI l s = -1) := within_none fun j hj => I.out.2 j (by have := LN.out; omega)
      clear z I
      go_wp2
      go_ret
      rw [FV.out]
      exact ⟨rfl, L.out⟩
end Go.Proofs.Ytmafjhggjpjgmaa
