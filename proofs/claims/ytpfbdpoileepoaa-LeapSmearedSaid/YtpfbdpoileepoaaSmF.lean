/- Layer 15 (smear), the program's: what one leap has taken (a closure), Taken, To. -/
import Derived.Test.YtpfbdpoileepoaaSmE
import Derived.BigRegion
import Derived.BigQuiet
set_option maxRecDepth 100000
namespace Go.Proofs.Ytpfbdpoileepoaa
open Go.ChangeShapes Go.WideShapes Go.ChangeAt Go.RowKit SmM

theorem pclip15 (w : World) (a s d : Int) (h : s - (a - halfI) = d) : Calls Try.prog 55 #[.int .i64 d, .int .i64 0, .int .i64 86400000000000] w fun e w' => e = .returned (.int .i64 (clipI a s)) ∧ w' = w := by
  unfold clipI
  unfold halfI dayI at *
  by_cases c1 : d < 0
  · rw [if_pos (by omega)]
    exact (clamp_lo d 0 _ c1 w).mono fun e w' ⟨a, b⟩ => ⟨a, b.symm⟩
  · by_cases c2 : 86400000000000 < d
    · rw [if_neg (by omega), if_neg (by omega)]
      exact (clamp_hi d 0 _ (by omega) c2 w).mono fun e w' ⟨a, b⟩ => ⟨a, b.symm⟩
    · refine (clamp_mid d 0 86400000000000 (by omega) (by omega) w).mono fun e w' ⟨a, b⟩ => ⟨?_, b.symm⟩
      rw [a]
      split
      · rw [show d = 0 by omega]
      · split
        · rw [show s - (_ - 43200000000000) = d by omega]
        · rw [show d = 86400000000000 by omega]
/-- What the closure makes of the sum. -/
structure TkP (w : World) (B : Nat) (v : Int) (w' : World) : Prop where
  b : w'.heap[B]? = some (.cells #[.int .i64 v] 2 (0, 0))
  t : Turn B w w'
set_option maxHeartbeats 4000000 in
theorem ptk15 (w : World) (x : Lp) (t v v2 : Int) (A B : Nat) (hA : w.heap[A]? = some (.cells #[.int .i64 t] 2 (0, 0))) (hB : w.heap[B]? = some (.cells #[.int .i64 v] 2 (0, 0)))
    (hx : dayI ≤ x.t ∧ x.t ≤ topI ∧ (x.k = 1 ∨ x.k = -1)) (hv : -1000000000000 ≤ v ∧ v ≤ 1000000000000) (h2 : v + oneI x (nearI t) = v2) :
    Calls Try.prog 56 #[.agg #[.int .i64 x.t, .int .i64 x.k], .pointer (some ⟨A, 0, none⟩), .pointer (some ⟨B, 0, none⟩)] w fun e w' => e = .returned (.tuple #[]) ∧ TkP w B v2 w' := by
  obtain ⟨s, hs⟩ : ∃ s, nearI t = s := ⟨_, rfl⟩
  have sb := near_in t
  rw [hs] at h2 sb
  have NN : Hid (∀ w', Calls Try.prog 50 #[.int .i64 t] w' fun e w'' => e = .returned (.int .i64 s) ∧ w'' = w') := fun w' => by rw [← hs]; exact pinst15 w' t
  obtain ⟨f, hf⟩ : ∃ f, x.t - halfI = f := ⟨_, rfl⟩
  have BG : Hid (∀ w', Calls Try.prog 53 #[.agg #[.int .i64 x.t, .int .i64 x.k]] w' fun e w'' => e = .returned (.int .i64 f) ∧ Below w'.heap.size w' w'') := fun w' => by rw [← hf]; exact pbegin15 w' x ⟨hx.1, hx.2.1⟩
  obtain ⟨d, hd⟩ : ∃ d, s - f = d := ⟨_, rfl⟩
  have CL : Hid (∀ w', Calls Try.prog 55 #[.int .i64 d, .int .i64 0, .int .i64 86400000000000] w' fun e w'' => e = .returned (.int .i64 (clipI x.t s)) ∧ w'' = w') := fun w' => pclip15 w' x.t s d (by rw [hf, hd])
  have cb := clip_in x.t s
  rw [one_clip] at h2
  have sg : sgI x = x.k := by unfold sgI; rcases hx.2.2 with e | e <;> rw [e] <;> rfl
  rw [sg] at h2
  generalize clipI x.t s = cc at *
  have bA := (Array.getElem?_eq_some_iff.1 hA).1
  have bB := (Array.getElem?_eq_some_iff.1 hB).1
  obtain ⟨xt, xk⟩ := x
  unfold dayI topI halfI at *
  dsimp only at *
  obtain ⟨q, hq⟩ : ∃ q, cc / 86400 = q := ⟨_, rfl⟩
  rw [hq] at h2
  have qb : 0 ≤ q ∧ q ≤ 1000000000 := by omega
  obtain ⟨r, hr⟩ : ∃ r, xk * q = r := ⟨_, rfl⟩
  rw [hr] at h2
  have rb : -1000000000 ≤ r ∧ r ≤ 1000000000 := by rcases hx.2.2 with e | e <;> rw [e] at hr <;> omega
  have e1 : wrap64 d = d := by unfold wrap64; omega
  have e2 : IntKind.i64.wrap d = d := by rw [IntKind.wrap_i64]; omega
  have e3 : wrap64 r = r := by unfold wrap64; omega
  have e4 : IntKind.i64.wrap r = r := by rw [IntKind.wrap_i64]; omega
  have e5 : wrap64 v2 = v2 := by unfold wrap64; omega
  have e6 : IntKind.i64.wrap v2 = v2 := by rw [IntKind.wrap_i64]; omega
  have MD : Hid (∀ w', Calls Try.prog 57 #[.int .i64 cc, .int .i64 1000000000, .int .i64 86400000000000] w' fun e w'' => e = .returned (.tuple #[.int .i64 q, .int .i64 0]) ∧ Below w'.heap.size w' w'') := fun w' => by
    have z : quoI (cc * 1000000000) 86400000000000 false = q := by unfold quoI; simp only [Bool.false_eq_true, if_false]; omega
    have m := muldiv_any cc 1000000000 86400000000000 ⟨by omega, by omega⟩ ⟨by decide, by decide⟩ ⟨by decide, by decide⟩ (by decide) w'
    rw [z, outN_ok ⟨by omega, by omega⟩, outE_ok ⟨by omega, by omega⟩] at m
    exact m.mono fun e w'' ⟨a, b⟩ => ⟨a, b.b⟩
  obtain ⟨W0, hW0⟩ : ∃ W0, w.alloc (.cells #[.int .i64 xt, .int .i64 xk] 33) = W0 := ⟨_, rfl⟩
  have L0 : Below w.heap.size w W0 := by rw [← hW0]; exact (Below.refl _ _).alloc (Nat.le_refl _) _
  have Y0 : W0.heap[w.heap.size]? = some (.cells #[.int .i64 xt, .int .i64 xk] 33 (0, 0)) := by rw [← hW0]; exact heap_alloc_new _ _
  have bY := (Array.getElem?_eq_some_iff.1 Y0).1
  have KK : Hid (∀ w', Below W0.heap.size W0 w' → w'.heap[A]? = some (.cells #[.int .i64 t] 2 (0, 0)) ∧ w'.heap[B]? = some (.cells #[.int .i64 v] 2 (0, 0)) ∧ w'.heap[w.heap.size]? = some (.cells #[.int .i64 xt, .int .i64 xk] 33 (0, 0))) := fun w' k =>
    ⟨(k.block A (Nat.lt_of_lt_of_le bA L0.size)).trans ((L0.block A bA).trans hA), (k.block B (Nat.lt_of_lt_of_le bB L0.size)).trans ((L0.block B bB).trans hB), (k.block _ bY).trans Y0⟩
  have KC : Hid (∀ w', Below W0.heap.size W0 w' → w'.cell? ⟨A, 0, none⟩ = some (.int .i64 t) ∧ w'.cell? ⟨w.heap.size, 0, none⟩ = some (.int .i64 xt) ∧ w'.cell? ⟨w.heap.size, 1, none⟩ = some (.int .i64 xk)) := fun w' k =>
    ⟨blk_cell (KK.out w' k).1, blk_cell (KK.out w' k).2.2, blk_cell (KK.out w' k).2.2⟩
  have LB := Lib.hid L0
  have SB := Lib.hid bB
  have HB0 : Below W0.heap.size W0 W0.drew := (Below.refl _ _).drew
  have W0' := Lib.hid hW0
  clear hA hB hx hv hs sb bA bB bY L0 Y0 cb sg hq qb rb hf
  go_enter Try.func56, Try.ntmps56
  go_wp2_with fail
  clear hW0
  /- hand: begin -/
  refine wp_region_held_drew (S := fun w' => w'.cell? ⟨A, 0, none⟩ = some (.int .i64 t) ∧ w'.cell? ⟨w.heap.size, 0, none⟩ = some (.int .i64 xt) ∧ w'.cell? ⟨w.heap.size, 1, none⟩ = some (.int .i64 xk)) (by kernel_rfl) (KC.out _ HB0) (fun hHeld => ?_)
  refine wpAnyH_take (i := 0) (v := ?_) (by (simp only [List.getElem?_toArray, List.getElem?_cons_zero]; exact rfl)) (by kernel_rfl) (by kernel_rfl) (by kernel_rfl) (by exact fun _ _ _ h => h) (Or.inl ⟨by rfl, ?_⟩) (by assumption) ?_
  rotate_left
  · (intro w hSw; (try dsimp only at hSw); first | (go_simp; done) | (go_simp; with_reducible rfl))
  try simp only [Act.put, List.setIfInBounds_toArray, List.set_cons_zero, List.set_cons_succ]
  refine wpAnyH_take (i := 2) (v := ?_) (by (simp only [List.getElem?_toArray, List.getElem?_cons_zero, List.getElem?_cons_succ]; exact rfl)) (by kernel_rfl) (by kernel_rfl) (by kernel_rfl) (by exact fun _ _ _ h => h) (Or.inl ⟨by rfl, ?_⟩) (by assumption) ?_
  rotate_left
  · (intro w hSw; (try dsimp only at hSw); first | (go_simp; done) | (go_simp; with_reducible rfl))
  try simp only [Act.put, List.setIfInBounds_toArray, List.set_cons_zero, List.set_cons_succ]
  refine wpAnyH_ready (rs := [1]) (by kernel_rfl) (by simp) ?_
  refine AllReadyH.cons (by (simp only [List.getElem?_toArray, List.getElem?_cons_zero, List.getElem?_cons_succ]; exact rfl)) (fun K hK => ?_) AllReadyH.nil
  go_simp
  go_at_call 50; refine (NN.out _).mono ?_; rintro e w5 ⟨rfl, rfl⟩
  go_wp2_with fail
  refine hK.out _ _ (KC.out _ HB0) (fun hHeld => ?_)
  clear hK K
  try simp only [Act.put, List.setIfInBounds_toArray, List.set_cons_zero, List.set_cons_succ]
  refine wpAnyH_ready (rs := [3]) (by kernel_rfl) (by simp) ?_
  refine AllReadyH.cons (by (simp only [List.getElem?_toArray, List.getElem?_cons_zero, List.getElem?_cons_succ]; exact rfl)) (fun K hK => ?_) AllReadyH.nil
  go_simp
  go_at_call 53; refine (BG.out _).mono ?_; rintro e w5 ⟨rfl, b5⟩; have HB1 : Below W0.heap.size W0 w5 := HB0.trans (b5.mono HB0.size)
  go_wp2_with fail
  refine hK.out _ _ (KC.out _ HB1) (fun hHeld => ?_)
  clear hK K
  try simp only [Act.put, List.setIfInBounds_toArray, List.set_cons_zero, List.set_cons_succ]
  refine wpAnyH_take (i := 4) (v := ?_) (by (simp only [List.getElem?_toArray, List.getElem?_cons_zero, List.getElem?_cons_succ]; exact rfl)) (by kernel_rfl) (by kernel_rfl) (by kernel_rfl) (by exact fun _ _ _ h => h) (Or.inl ⟨by rfl, ?_⟩) (by assumption) ?_
  rotate_left
  · (intro w hSw; (try dsimp only at hSw); first | (go_simp; done) | (go_simp; with_reducible rfl))
  try simp only [Act.put, List.setIfInBounds_toArray, List.set_cons_zero, List.set_cons_succ]
  refine wpAnyH_ready (rs := [5]) (by kernel_rfl) (by simp) ?_
  refine AllReadyH.cons (by (simp only [List.getElem?_toArray, List.getElem?_cons_zero, List.getElem?_cons_succ]; exact rfl)) (fun K hK => ?_) AllReadyH.nil
  go_simp
  go_at_call 55; refine (CL.out _).mono ?_; rintro e w6 ⟨rfl, rfl⟩
  go_wp2_with fail
  refine hK.out _ _ (KC.out _ HB1) (fun hHeld => ?_)
  clear hK K
  try simp only [Act.put, List.setIfInBounds_toArray, List.set_cons_zero, List.set_cons_succ]
  refine wpAnyH_take (i := 6) (v := ?_) (by (simp only [List.getElem?_toArray, List.getElem?_cons_zero, List.getElem?_cons_succ]; exact rfl)) (by kernel_rfl) (by kernel_rfl) (by kernel_rfl) (by exact fun _ _ _ h => h) (Or.inl ⟨by rfl, ?_⟩) (by assumption) ?_
  rotate_left
  · (intro w hSw; (try dsimp only at hSw); first | (go_simp; done) | (go_simp; with_reducible rfl))
  try simp only [Act.put, List.setIfInBounds_toArray, List.set_cons_zero, List.set_cons_succ]
  refine wpAnyH_done (by kernel_rfl) ?_ _
  /- hand: end -/
  go_wp2_with fail
  refine (MD.out _).mono ?_; rintro e w7 ⟨rfl, b7⟩
  have B7 : Below W0.heap.size W0 w7 := HB1.trans (b7.mono HB1.size)
  have K7 := Lib.hid (KK.out w7 B7)
  have x0 := blk_cell (o := 0) K7.out.2.1
  have x1 := blk_cell (o := 1) K7.out.2.2
  have fz := blk_free (o := 0) K7.out.2.1
  simp only [List.getElem?_toArray, List.getElem?_cons_zero, List.getElem?_cons_succ] at x0 x1
  have F : Hid (TkP w B v2 (w7.setCell ⟨B, 0, none⟩ (.int .i64 v2))) := ⟨blk_set K7.out.2.1, (Turn.of_below (LB.out.trans (B7.mono LB.out.size))).set _⟩
  clear b7 B7 K7 HB1 b5 HB0 KK KC MD CL BG NN
  go_wp2
  go_end0
  exact ⟨rfl, F.out⟩

