/- HeapAhead: the walk. -/
import Derived.Test.YtlfbenlojiiknaaHeapAheadW
set_option maxRecDepth 100000
namespace Go.Proofs.Ytlfbenlojiiknaa
open Go.ChangeShapes Go.WideShapes Go.ChangeAt Go.RowKit HeapM

/-- Three items, each in a box. -/
structure Box3 (w wr : World) (b0 b1 b2 : Nat) (a b c : It) : Prop where
  a : wr.heap[b0]? = some (.cells (itC a) 34 (0, 0))
  b : wr.heap[b1]? = some (.cells (itC b) 34 (0, 0))
  c : wr.heap[b2]? = some (.cells (itC c) 34 (0, 0))
  low : Below w.heap.size w wr
theorem Box3.below {w wr w' : World} {b0 b1 b2 : Nat} {a b c : It} (h : Box3 w wr b0 b1 b2 a b c) (k : Below wr.heap.size wr w') : Box3 w w' b0 b1 b2 a b c :=
  ⟨(k.block _ (Array.getElem?_eq_some_iff.1 h.a).1).trans h.a, (k.block _ (Array.getElem?_eq_some_iff.1 h.b).1).trans h.b, (k.block _ (Array.getElem?_eq_some_iff.1 h.c).1).trans h.c, h.low.trans (k.mono h.low.size)⟩
theorem box3_new (w : World) (a b c : It) (T : TypeId) : ∃ v, v = ((w.alloc (.cells (itC a) T)).alloc (.cells (itC b) T)).alloc (.cells (itC c) T) ∧ v.heap[w.heap.size]? = some (.cells (itC a) T (0, 0)) ∧ v.heap[w.heap.size + 1]? = some (.cells (itC b) T (0, 0)) ∧ v.heap[w.heap.size + 1 + 1]? = some (.cells (itC c) T (0, 0)) ∧ Below w.heap.size w v := by
  obtain ⟨l, h1, h2, s⟩ := two_blocks w (itC a) (itC b) T T
  refine ⟨_, rfl, ?_, ?_, ?_, l.alloc l.size _⟩
  · exact (Go.Deep.blk_alloc_lt _ _ _ (by omega)).trans h1
  · exact (Go.Deep.blk_alloc_lt _ _ _ (by omega)).trans h2
  · have := heap_alloc_new ((w.alloc (.cells (itC a) T)).alloc (.cells (itC b) T)) (.cells (itC c) T)
    rw [s] at this
    exact this

section
attribute [local go_sem ↓] neqI_eq
set_option maxHeartbeats 4000000 in
theorem ahead13_walk (C : HCode) (w : World) (a b c : It) :
    Calls Try.prog 6 #[itV a, itV b, itV c] w fun e w' => e = .returned (.bool true) ∧ Below w.heap.size w w' := by
  obtain ⟨v, hv, B1, B2, B3, LV⟩ := box3_new w a b c 34
  have BX : Hid (Box3 w v w.heap.size (w.heap.size + 1) (w.heap.size + 1 + 1) a b c) := ⟨B1, B2, B3, LV⟩
  have AA : Hid (∀ w', Box3 w w' w.heap.size (w.heap.size + 1) (w.heap.size + 1 + 1) a b c → Calls Try.prog 27 #[itV a, itV a] w' fun e w'' => e = .returned (.bool false) ∧ Box3 w w'' w.heap.size (w.heap.size + 1) (w.heap.size + 1 + 1) a b c) := fun w' h => (C.ahead w' a a).mono fun e w'' ⟨k, l⟩ => ⟨by rw [k, ahd_irrefl], h.below l⟩
  have AB : Hid (∀ w', Box3 w w' w.heap.size (w.heap.size + 1) (w.heap.size + 1 + 1) a b c → Calls Try.prog 27 #[itV a, itV b] w' fun e w'' => e = .returned (.bool (ahd a b)) ∧ Box3 w w'' w.heap.size (w.heap.size + 1) (w.heap.size + 1 + 1) a b c) := fun w' h => (C.ahead w' a b).mono fun e w'' ⟨k, l⟩ => ⟨k, h.below l⟩
  have BA : Hid (∀ w', Box3 w w' w.heap.size (w.heap.size + 1) (w.heap.size + 1 + 1) a b c → Calls Try.prog 27 #[itV b, itV a] w' fun e w'' => e = .returned (.bool (ahd b a)) ∧ Box3 w w'' w.heap.size (w.heap.size + 1) (w.heap.size + 1 + 1) a b c) := fun w' h => (C.ahead w' b a).mono fun e w'' ⟨k, l⟩ => ⟨k, h.below l⟩
  have BC : Hid (∀ w', Box3 w w' w.heap.size (w.heap.size + 1) (w.heap.size + 1 + 1) a b c → Calls Try.prog 27 #[itV b, itV c] w' fun e w'' => e = .returned (.bool (ahd b c)) ∧ Box3 w w'' w.heap.size (w.heap.size + 1) (w.heap.size + 1 + 1) a b c) := fun w' h => (C.ahead w' b c).mono fun e w'' ⟨k, l⟩ => ⟨k, h.below l⟩
  have AC : Hid (∀ w', Box3 w w' w.heap.size (w.heap.size + 1) (w.heap.size + 1 + 1) a b c → Calls Try.prog 27 #[itV a, itV c] w' fun e w'' => e = .returned (.bool (ahd a c)) ∧ Box3 w w'' w.heap.size (w.heap.size + 1) (w.heap.size + 1 + 1) a b c) := fun w' h => (C.ahead w' a c).mono fun e w'' ⟨k, l⟩ => ⟨k, h.below l⟩
  have AW : Hid (∀ w', Box3 w w' w.heap.size (w.heap.size + 1) (w.heap.size + 1 + 1) a b c → Calls Try.prog 11 #[] w' fun e w'' => e = .returned (.bool true) ∧ Box3 w w'' w.heap.size (w.heap.size + 1) (w.heap.size + 1 + 1) a b c) := fun w' h => (awake13_any C w').mono fun e w'' ⟨k, l⟩ => ⟨k, h.below l⟩
  obtain ⟨g1, hg1⟩ : ∃ g, ahd a b = g := ⟨_, rfl⟩
  obtain ⟨g0, hg0⟩ : ∃ g, ahd b a = g := ⟨_, rfl⟩
  obtain ⟨g2, hg2⟩ : ∃ g, ahd b c = g := ⟨_, rfl⟩
  obtain ⟨g3, hg3⟩ : ∃ g, ahd a c = g := ⟨_, rfl⟩
  have TR : Hid (g1 = true → g2 = true → g3 = true) := fun h1 h2 => by rw [← hg3]; exact ahd_trans (by rw [hg1]; exact h1) (by rw [hg2]; exact h2)
  have OP : Hid (a ≠ b → (g1 == g0) = false) := fun h => by
    have := ahd_total h
    rw [hg1, hg0] at this
    rw [this]
    cases g0 <;> rfl
  have TT : Hid (a.t < b.t → g1 = true) := fun h => by rw [← hg1, ahd_iff]; exact .inl h
  rw [hg1] at AB
  rw [hg0] at BA
  rw [hg2] at BC
  rw [hg3] at AC
  have KC : Hid (∀ w', Box3 w w' w.heap.size (w.heap.size + 1) (w.heap.size + 1 + 1) a b c → (w'.cell? ⟨w.heap.size, 0, none⟩ = some (.int .u64 (a.id : Nat)) ∧ w'.cell? ⟨w.heap.size, 1, none⟩ = some (.int .u64 (a.seq : Nat)) ∧ w'.cell? ⟨w.heap.size, 2, none⟩ = some (.int .i64 a.t)) ∧
      (w'.cell? ⟨w.heap.size + 1, 0, none⟩ = some (.int .u64 (b.id : Nat)) ∧ w'.cell? ⟨w.heap.size + 1, 1, none⟩ = some (.int .u64 (b.seq : Nat)) ∧ w'.cell? ⟨w.heap.size + 1, 2, none⟩ = some (.int .i64 b.t)) ∧
      (w'.cell? ⟨w.heap.size + 1 + 1, 0, none⟩ = some (.int .u64 (c.id : Nat)) ∧ w'.cell? ⟨w.heap.size + 1 + 1, 1, none⟩ = some (.int .u64 (c.seq : Nat)) ∧ w'.cell? ⟨w.heap.size + 1 + 1, 2, none⟩ = some (.int .i64 c.t))) := fun w' h =>
    ⟨⟨blk_cell h.a, blk_cell h.a, blk_cell h.a⟩, ⟨blk_cell h.b, blk_cell h.b, blk_cell h.b⟩, ⟨blk_cell h.c, blk_cell h.c, blk_cell h.c⟩⟩
  obtain ⟨z, hz⟩ : ∃ z, decide (a = b) = z := ⟨_, rfl⟩
  have NE := fun W => neq_it W a b z hz
  have HZ : Hid (z = true ∨ (z = false ∧ (g1 == g0) = false)) := by
    unfold Hid
    by_cases e : a = b
    · left; rw [← hz]; exact decide_eq_true e
    · right; exact ⟨by rw [← hz]; exact decide_eq_false e, OP.out e⟩
  clear B1 B2 B3 LV hg1 hg0 hg2 hg3 hz OP
  obtain ⟨ai, aq, at_⟩ := a
  obtain ⟨bi, bq, bt⟩ := b
  obtain ⟨ci, cq, ct⟩ := c
  unfold itC at hv
  unfold itV at AA AB BA BC AC ⊢
  dsimp only at hv AA AB BA BC AC KC NE TT ⊢
  go_enter Try.func6, Try.ntmps6
  go_upto_region 1 with (fail)
  rw [← hv]
  clear hv
  obtain ⟨b0, hb0⟩ : ∃ b, w.heap.size = b := ⟨_, rfl⟩
  obtain ⟨b1, hb1⟩ : ∃ b, b0 + 1 = b := ⟨_, rfl⟩
  obtain ⟨b2, hb2⟩ : ∃ b, b1 + 1 = b := ⟨_, rfl⟩
  simp only [hb0, hb1, hb2] at AA AB BA BC AC AW KC BX ⊢
  clear hb0 hb1 hb2
  go_cut [23] (fun o wx => o = .bool false ∧ Hid (Box3 w wx b0 b1 b2 ⟨ai, aq, at_⟩ ⟨bi, bq, bt⟩ ⟨ci, cq, ct⟩))
  case first =>
    have HB := BX.out
    rcases HZ.out with rfl | ⟨rfl, hgg⟩
    · go_upto_region 1 with fail
      /- equal: begin -/
      refine wp_region_held_drew (S := fun w' => (w'.cell? ⟨b0, 0, none⟩ = some (.int .u64 (ai : Nat)) ∧ w'.cell? ⟨b0, 1, none⟩ = some (.int .u64 (aq : Nat)) ∧ w'.cell? ⟨b0, 2, none⟩ = some (.int .i64 at_)) ∧ (w'.cell? ⟨b1, 0, none⟩ = some (.int .u64 (bi : Nat)) ∧ w'.cell? ⟨b1, 1, none⟩ = some (.int .u64 (bq : Nat)) ∧ w'.cell? ⟨b1, 2, none⟩ = some (.int .i64 bt)) ∧ (w'.cell? ⟨b2, 0, none⟩ = some (.int .u64 (ci : Nat)) ∧ w'.cell? ⟨b2, 1, none⟩ = some (.int .u64 (cq : Nat)) ∧ w'.cell? ⟨b2, 2, none⟩ = some (.int .i64 ct))) (by kernel_rfl) (KC.out _ (HB.below (Below.refl _ _).drew)) (fun hHeld => ?_)
      refine wpAnyH_take (i := 0) (v := ?_) (by (simp only [List.getElem?_toArray, List.getElem?_cons_zero]; exact rfl)) (by kernel_rfl) (by kernel_rfl) (by kernel_rfl) (by exact fun _ _ _ h => h) (Or.inl ⟨by rfl, ?_⟩) (by assumption) ?_
      rotate_left
      · (intro w hSw; (try dsimp only at hSw); first | (go_simp; done) | (go_simp; with_reducible rfl))
      try simp only [Act.put, List.setIfInBounds_toArray, List.set_cons_zero, List.set_cons_succ]
      refine wpAnyH_take (i := 1) (v := ?_) (by (simp only [List.getElem?_toArray, List.getElem?_cons_zero, List.getElem?_cons_succ]; exact rfl)) (by kernel_rfl) (by kernel_rfl) (by kernel_rfl) (by exact fun _ _ _ h => h) (Or.inl ⟨by rfl, ?_⟩) (by assumption) ?_
      rotate_left
      · (intro w hSw; (try dsimp only at hSw); first | (go_simp; done) | (go_simp; with_reducible rfl))
      try simp only [Act.put, List.setIfInBounds_toArray, List.set_cons_zero, List.set_cons_succ]
      refine wpAnyH_ready (rs := [2]) (by kernel_rfl) (by simp) ?_
      refine AllReadyH.cons (by (simp only [List.getElem?_toArray, List.getElem?_cons_zero, List.getElem?_cons_succ]; exact rfl)) (fun K hK => ?_) AllReadyH.nil
      go_simp
      refine (AA.out _ (by first | exact HB | exact HB.below (Below.refl _ _).drew)).mono ?_; rintro e wq ⟨rfl, HB⟩
      go_wp2_with fail
      refine hK.out _ _ (KC.out _ HB) (fun hHeld => ?_)
      clear hK K
      try simp only [Act.put, List.setIfInBounds_toArray, List.set_cons_zero, List.set_cons_succ]
      refine wpAnyH_take (i := 3) (v := ?_) (by (simp only [List.getElem?_toArray, List.getElem?_cons_zero, List.getElem?_cons_succ]; exact rfl)) (by kernel_rfl) (by kernel_rfl) (by kernel_rfl) (by exact fun _ _ _ h => h) (Or.inl ⟨by rfl, ?_⟩) (by assumption) ?_
      rotate_left
      · (intro w hSw; (try dsimp only at hSw); first | (go_simp; done) | (go_simp; with_reducible rfl))
      try simp only [Act.put, List.setIfInBounds_toArray, List.set_cons_zero, List.set_cons_succ]
      refine wpAnyH_take (i := 4) (v := ?_) (by (simp only [List.getElem?_toArray, List.getElem?_cons_zero, List.getElem?_cons_succ]; exact rfl)) (by kernel_rfl) (by kernel_rfl) (by kernel_rfl) (by exact fun _ _ _ h => h) (Or.inl ⟨by rfl, ?_⟩) (by assumption) ?_
      rotate_left
      · (intro w hSw; (try dsimp only at hSw); first | (go_simp; done) | (go_simp; with_reducible rfl))
      try simp only [Act.put, List.setIfInBounds_toArray, List.set_cons_zero, List.set_cons_succ]
      refine wpAnyH_take (i := 5) (v := ?_) (by (simp only [List.getElem?_toArray, List.getElem?_cons_zero, List.getElem?_cons_succ]; exact rfl)) (by kernel_rfl) (by kernel_rfl) (by kernel_rfl) (by exact fun _ _ _ h => h) (Or.inl ⟨by rfl, ?_⟩) (by assumption) ?_
      rotate_left
      · (intro w hSw; (try dsimp only at hSw); first | (go_simp; done) | (go_simp; with_reducible rfl))
      try simp only [Act.put, List.setIfInBounds_toArray, List.set_cons_zero, List.set_cons_succ]
      refine wpAnyH_take (i := 6) (v := ?_) (by (simp only [List.getElem?_toArray, List.getElem?_cons_zero, List.getElem?_cons_succ]; exact rfl)) (by kernel_rfl) (by kernel_rfl) (by kernel_rfl) (by exact fun _ _ _ h => h) (Or.inl ⟨by rfl, ?_⟩) (by assumption) ?_
      rotate_left
      · (intro w hSw; (try dsimp only at hSw); first | (go_simp; done) | (go_simp; with_reducible rfl))
      try simp only [Act.put, List.setIfInBounds_toArray, List.set_cons_zero, List.set_cons_succ]
      refine wpAnyH_take (i := 7) (v := ?_) (by (simp only [List.getElem?_toArray, List.getElem?_cons_zero, List.getElem?_cons_succ]; exact rfl)) (by kernel_rfl) (by kernel_rfl) (by kernel_rfl) (by exact fun _ _ _ h => h) (Or.inl ⟨by rfl, ?_⟩) (by assumption) ?_
      rotate_left
      · (intro w hSw; (try dsimp only at hSw); first | (go_simp; done) | (go_simp; with_reducible rfl))
      try simp only [Act.put, List.setIfInBounds_toArray, List.set_cons_zero, List.set_cons_succ]
      refine wpAnyH_take (i := 8) (v := undef) (by (simp only [List.getElem?_toArray, List.getElem?_cons_zero, List.getElem?_cons_succ]; exact rfl)) (by kernel_rfl) (by kernel_rfl) (by kernel_rfl) (by exact fun _ _ _ h => h) (Or.inr ⟨by rfl, by rfl⟩) (by assumption) ?_
      try simp only [Act.put, List.setIfInBounds_toArray, List.set_cons_zero, List.set_cons_succ]
      refine wpAnyH_take (i := 9) (v := undef) (by (simp only [List.getElem?_toArray, List.getElem?_cons_zero, List.getElem?_cons_succ]; exact rfl)) (by kernel_rfl) (by kernel_rfl) (by kernel_rfl) (by exact fun _ _ _ h => h) (Or.inr ⟨by rfl, by rfl⟩) (by assumption) ?_
      try simp only [Act.put, List.setIfInBounds_toArray, List.set_cons_zero, List.set_cons_succ]
      refine wpAnyH_take (i := 10) (v := undef) (by (simp only [List.getElem?_toArray, List.getElem?_cons_zero, List.getElem?_cons_succ]; exact rfl)) (by kernel_rfl) (by kernel_rfl) (by kernel_rfl) (by exact fun _ _ _ h => h) (Or.inr ⟨by rfl, by rfl⟩) (by assumption) ?_
      try simp only [Act.put, List.setIfInBounds_toArray, List.set_cons_zero, List.set_cons_succ]
      refine wpAnyH_take (i := 11) (v := undef) (by (simp only [List.getElem?_toArray, List.getElem?_cons_zero, List.getElem?_cons_succ]; exact rfl)) (by kernel_rfl) (by kernel_rfl) (by kernel_rfl) (by exact fun _ _ _ h => h) (Or.inr ⟨by rfl, by rfl⟩) (by assumption) ?_
      try simp only [Act.put, List.setIfInBounds_toArray, List.set_cons_zero, List.set_cons_succ]
      refine wpAnyH_take (i := 12) (v := undef) (by (simp only [List.getElem?_toArray, List.getElem?_cons_zero, List.getElem?_cons_succ]; exact rfl)) (by kernel_rfl) (by kernel_rfl) (by kernel_rfl) (by exact fun _ _ _ h => h) (Or.inr ⟨by rfl, by rfl⟩) (by assumption) ?_
      try simp only [Act.put, List.setIfInBounds_toArray, List.set_cons_zero, List.set_cons_succ]
      refine wpAnyH_take (i := 13) (v := undef) (by (simp only [List.getElem?_toArray, List.getElem?_cons_zero, List.getElem?_cons_succ]; exact rfl)) (by kernel_rfl) (by kernel_rfl) (by kernel_rfl) (by exact fun _ _ _ h => h) (Or.inr ⟨by rfl, by rfl⟩) (by assumption) ?_
      try simp only [Act.put, List.setIfInBounds_toArray, List.set_cons_zero, List.set_cons_succ]
      refine wpAnyH_take (i := 14) (v := undef) (by (simp only [List.getElem?_toArray, List.getElem?_cons_zero, List.getElem?_cons_succ]; exact rfl)) (by kernel_rfl) (by kernel_rfl) (by kernel_rfl) (by exact fun _ _ _ h => h) (Or.inr ⟨by rfl, by rfl⟩) (by assumption) ?_
      try simp only [Act.put, List.setIfInBounds_toArray, List.set_cons_zero, List.set_cons_succ]
      refine wpAnyH_take (i := 15) (v := ?_) (by (simp only [List.getElem?_toArray, List.getElem?_cons_zero, List.getElem?_cons_succ]; exact rfl)) (by kernel_rfl) (by kernel_rfl) (by kernel_rfl) (by exact fun _ _ _ h => h) (Or.inl ⟨by rfl, ?_⟩) (by assumption) ?_
      rotate_left
      · (intro w hSw; (try dsimp only at hSw); first | (go_simp; done) | (go_simp; with_reducible rfl))
      try simp only [Act.put, List.setIfInBounds_toArray, List.set_cons_zero, List.set_cons_succ]
      refine wpAnyH_take (i := 16) (v := ?_) (by (simp only [List.getElem?_toArray, List.getElem?_cons_zero, List.getElem?_cons_succ]; exact rfl)) (by kernel_rfl) (by kernel_rfl) (by kernel_rfl) (by exact fun _ _ _ h => h) (Or.inl ⟨by rfl, ?_⟩) (by assumption) ?_
      rotate_left
      · (intro w hSw; (try dsimp only at hSw); first | (go_simp; done) | (go_simp; with_reducible rfl))
      try simp only [Act.put, List.setIfInBounds_toArray, List.set_cons_zero, List.set_cons_succ]
      refine wpAnyH_done (by kernel_rfl) ?_ _
      go_wp2_with fail
      go_meet
      exact ⟨rfl, Lib.hid HB⟩
      /- equal: end -/
    · go_upto_region 1 with fail
      /- other: begin -/
      refine wp_region_held_drew (S := fun w' => (w'.cell? ⟨b0, 0, none⟩ = some (.int .u64 (ai : Nat)) ∧ w'.cell? ⟨b0, 1, none⟩ = some (.int .u64 (aq : Nat)) ∧ w'.cell? ⟨b0, 2, none⟩ = some (.int .i64 at_)) ∧ (w'.cell? ⟨b1, 0, none⟩ = some (.int .u64 (bi : Nat)) ∧ w'.cell? ⟨b1, 1, none⟩ = some (.int .u64 (bq : Nat)) ∧ w'.cell? ⟨b1, 2, none⟩ = some (.int .i64 bt)) ∧ (w'.cell? ⟨b2, 0, none⟩ = some (.int .u64 (ci : Nat)) ∧ w'.cell? ⟨b2, 1, none⟩ = some (.int .u64 (cq : Nat)) ∧ w'.cell? ⟨b2, 2, none⟩ = some (.int .i64 ct))) (by kernel_rfl) (KC.out _ (HB.below (Below.refl _ _).drew)) (fun hHeld => ?_)
      refine wpAnyH_take (i := 0) (v := ?_) (by (simp only [List.getElem?_toArray, List.getElem?_cons_zero]; exact rfl)) (by kernel_rfl) (by kernel_rfl) (by kernel_rfl) (by exact fun _ _ _ h => h) (Or.inl ⟨by rfl, ?_⟩) (by assumption) ?_
      rotate_left
      · (intro w hSw; (try dsimp only at hSw); first | (go_simp; done) | (go_simp; with_reducible rfl))
      try simp only [Act.put, List.setIfInBounds_toArray, List.set_cons_zero, List.set_cons_succ]
      refine wpAnyH_take (i := 1) (v := ?_) (by (simp only [List.getElem?_toArray, List.getElem?_cons_zero, List.getElem?_cons_succ]; exact rfl)) (by kernel_rfl) (by kernel_rfl) (by kernel_rfl) (by exact fun _ _ _ h => h) (Or.inl ⟨by rfl, ?_⟩) (by assumption) ?_
      rotate_left
      · (intro w hSw; (try dsimp only at hSw); first | (go_simp; done) | (go_simp; with_reducible rfl))
      try simp only [Act.put, List.setIfInBounds_toArray, List.set_cons_zero, List.set_cons_succ]
      refine wpAnyH_ready (rs := [2]) (by kernel_rfl) (by simp) ?_
      refine AllReadyH.cons (by (simp only [List.getElem?_toArray, List.getElem?_cons_zero, List.getElem?_cons_succ]; exact rfl)) (fun K hK => ?_) AllReadyH.nil
      go_simp
      refine (AA.out _ (by first | exact HB | exact HB.below (Below.refl _ _).drew)).mono ?_; rintro e wq ⟨rfl, HB⟩
      go_wp2_with fail
      refine hK.out _ _ (KC.out _ HB) (fun hHeld => ?_)
      clear hK K
      try simp only [Act.put, List.setIfInBounds_toArray, List.set_cons_zero, List.set_cons_succ]
      refine wpAnyH_take (i := 3) (v := ?_) (by (simp only [List.getElem?_toArray, List.getElem?_cons_zero, List.getElem?_cons_succ]; exact rfl)) (by kernel_rfl) (by kernel_rfl) (by kernel_rfl) (by exact fun _ _ _ h => h) (Or.inl ⟨by rfl, ?_⟩) (by assumption) ?_
      rotate_left
      · (intro w hSw; (try dsimp only at hSw); first | (go_simp; done) | (go_simp; with_reducible rfl))
      try simp only [Act.put, List.setIfInBounds_toArray, List.set_cons_zero, List.set_cons_succ]
      refine wpAnyH_take (i := 4) (v := ?_) (by (simp only [List.getElem?_toArray, List.getElem?_cons_zero, List.getElem?_cons_succ]; exact rfl)) (by kernel_rfl) (by kernel_rfl) (by kernel_rfl) (by exact fun _ _ _ h => h) (Or.inl ⟨by rfl, ?_⟩) (by assumption) ?_
      rotate_left
      · (intro w hSw; (try dsimp only at hSw); first | (go_simp; done) | (go_simp; with_reducible rfl))
      try simp only [Act.put, List.setIfInBounds_toArray, List.set_cons_zero, List.set_cons_succ]
      refine wpAnyH_take (i := 5) (v := ?_) (by (simp only [List.getElem?_toArray, List.getElem?_cons_zero, List.getElem?_cons_succ]; exact rfl)) (by kernel_rfl) (by kernel_rfl) (by kernel_rfl) (by exact fun _ _ _ h => h) (Or.inl ⟨by rfl, ?_⟩) (by assumption) ?_
      rotate_left
      · (intro w hSw; (try dsimp only at hSw); first | (go_simp; done) | (go_simp; with_reducible rfl))
      try simp only [Act.put, List.setIfInBounds_toArray, List.set_cons_zero, List.set_cons_succ]
      refine wpAnyH_take (i := 6) (v := ?_) (by (simp only [List.getElem?_toArray, List.getElem?_cons_zero, List.getElem?_cons_succ]; exact rfl)) (by kernel_rfl) (by kernel_rfl) (by kernel_rfl) (by exact fun _ _ _ h => h) (Or.inl ⟨by rfl, ?_⟩) (by assumption) ?_
      rotate_left
      · (intro w hSw; (try dsimp only at hSw); first | (go_simp; done) | (go_simp; with_reducible rfl))
      try simp only [Act.put, List.setIfInBounds_toArray, List.set_cons_zero, List.set_cons_succ]
      refine wpAnyH_take (i := 7) (v := ?_) (by (simp only [List.getElem?_toArray, List.getElem?_cons_zero, List.getElem?_cons_succ]; exact rfl)) (by kernel_rfl) (by kernel_rfl) (by kernel_rfl) (by exact fun _ _ _ h => h) (Or.inl ⟨by rfl, ?_⟩) (by assumption) ?_
      rotate_left
      · (intro w hSw; (try dsimp only at hSw); first | (go_simp; done) | (go_simp; with_reducible rfl))
      try simp only [Act.put, List.setIfInBounds_toArray, List.set_cons_zero, List.set_cons_succ]
      refine wpAnyH_take (i := 8) (v := ?_) (by (simp only [List.getElem?_toArray, List.getElem?_cons_zero, List.getElem?_cons_succ]; exact rfl)) (by kernel_rfl) (by kernel_rfl) (by kernel_rfl) (by exact fun _ _ _ h => h) (Or.inl ⟨by rfl, ?_⟩) (by assumption) ?_
      rotate_left
      · (intro w hSw; (try dsimp only at hSw); first | (go_simp; done) | (go_simp; with_reducible rfl))
      try simp only [Act.put, List.setIfInBounds_toArray, List.set_cons_zero, List.set_cons_succ]
      refine wpAnyH_take (i := 9) (v := ?_) (by (simp only [List.getElem?_toArray, List.getElem?_cons_zero, List.getElem?_cons_succ]; exact rfl)) (by kernel_rfl) (by kernel_rfl) (by kernel_rfl) (by exact fun _ _ _ h => h) (Or.inl ⟨by rfl, ?_⟩) (by assumption) ?_
      rotate_left
      · (intro w hSw; (try dsimp only at hSw); first | (go_simp; done) | (go_simp; with_reducible rfl))
      try simp only [Act.put, List.setIfInBounds_toArray, List.set_cons_zero, List.set_cons_succ]
      refine wpAnyH_take (i := 11) (v := ?_) (by (simp only [List.getElem?_toArray, List.getElem?_cons_zero, List.getElem?_cons_succ]; exact rfl)) (by kernel_rfl) (by kernel_rfl) (by kernel_rfl) (by exact fun _ _ _ h => h) (Or.inl ⟨by rfl, ?_⟩) (by assumption) ?_
      rotate_left
      · (intro w hSw; (try dsimp only at hSw); first | (go_simp; done) | (go_simp; with_reducible rfl))
      try simp only [Act.put, List.setIfInBounds_toArray, List.set_cons_zero, List.set_cons_succ]
      refine wpAnyH_take (i := 12) (v := ?_) (by (simp only [List.getElem?_toArray, List.getElem?_cons_zero, List.getElem?_cons_succ]; exact rfl)) (by kernel_rfl) (by kernel_rfl) (by kernel_rfl) (by exact fun _ _ _ h => h) (Or.inl ⟨by rfl, ?_⟩) (by assumption) ?_
      rotate_left
      · (intro w hSw; (try dsimp only at hSw); first | (go_simp; done) | (go_simp; with_reducible rfl))
      try simp only [Act.put, List.setIfInBounds_toArray, List.set_cons_zero, List.set_cons_succ]
      refine wpAnyH_ready (rs := [10]) (by kernel_rfl) (by simp) ?_
      refine AllReadyH.cons (by (simp only [List.getElem?_toArray, List.getElem?_cons_zero, List.getElem?_cons_succ]; exact rfl)) (fun K hK => ?_) AllReadyH.nil
      go_simp
      refine (AB.out _ (by first | exact HB | exact HB.below (Below.refl _ _).drew)).mono ?_; rintro e wq ⟨rfl, HB⟩
      go_wp2_with fail
      refine hK.out _ _ (KC.out _ HB) (fun hHeld => ?_)
      clear hK K
      try simp only [Act.put, List.setIfInBounds_toArray, List.set_cons_zero, List.set_cons_succ]
      refine wpAnyH_ready (rs := [13]) (by kernel_rfl) (by simp) ?_
      refine AllReadyH.cons (by (simp only [List.getElem?_toArray, List.getElem?_cons_zero, List.getElem?_cons_succ]; exact rfl)) (fun K hK => ?_) AllReadyH.nil
      go_simp
      refine (BA.out _ (by first | exact HB | exact HB.below (Below.refl _ _).drew)).mono ?_; rintro e wq ⟨rfl, HB⟩
      go_wp2_with fail
      refine hK.out _ _ (KC.out _ HB) (fun hHeld => ?_)
      clear hK K
      try simp only [Act.put, List.setIfInBounds_toArray, List.set_cons_zero, List.set_cons_succ]
      refine wpAnyH_take (i := 14) (v := ?_) (by (simp only [List.getElem?_toArray, List.getElem?_cons_zero, List.getElem?_cons_succ]; exact rfl)) (by kernel_rfl) (by kernel_rfl) (by kernel_rfl) (by exact fun _ _ _ h => h) (Or.inl ⟨by rfl, ?_⟩) (by assumption) ?_
      rotate_left
      · (intro w hSw; (try dsimp only at hSw); first | (go_simp; done) | (go_simp; with_reducible rfl))
      try simp only [Act.put, List.setIfInBounds_toArray, List.set_cons_zero, List.set_cons_succ]
      refine wpAnyH_take (i := 15) (v := ?_) (by (simp only [List.getElem?_toArray, List.getElem?_cons_zero, List.getElem?_cons_succ]; exact rfl)) (by kernel_rfl) (by kernel_rfl) (by kernel_rfl) (by exact fun _ _ _ h => h) (Or.inl ⟨by rfl, ?_⟩) (by assumption) ?_
      rotate_left
      · (intro w hSw; (try dsimp only at hSw); first | (go_simp; done) | (go_simp; with_reducible rfl))
      try simp only [Act.put, List.setIfInBounds_toArray, List.set_cons_zero, List.set_cons_succ]
      refine wpAnyH_take (i := 16) (v := ?_) (by (simp only [List.getElem?_toArray, List.getElem?_cons_zero, List.getElem?_cons_succ]; exact rfl)) (by kernel_rfl) (by kernel_rfl) (by kernel_rfl) (by exact fun _ _ _ h => h) (Or.inl ⟨by rfl, ?_⟩) (by assumption) ?_
      rotate_left
      · (intro w hSw; (try dsimp only at hSw); first | (go_simp; done) | (go_simp; with_reducible rfl))
      try simp only [Act.put, List.setIfInBounds_toArray, List.set_cons_zero, List.set_cons_succ]
      refine wpAnyH_done (by kernel_rfl) ?_ _
      go_wp2_with fail
      go_meet
      exact ⟨rfl, Lib.hid HB⟩
      /- other: end -/
  case rest =>
    obtain ⟨rfl, HX⟩ := hcut
    have HB := HX.out
    clear BX HX HZ AA BA NE
    go_upto_region 3 with fail
    have L1 : at_ < bt → (¬ bt ≤ at_) ∧ decide (bt ≤ at_) = false ∧ decide (at_ < bt) = true := fun h => ⟨by omega, decide_eq_false (by omega), decide_eq_true h⟩
    have L0 : ¬ at_ < bt → bt ≤ at_ ∧ decide (bt ≤ at_) = true ∧ decide (at_ < bt) = false := fun h => ⟨by omega, decide_eq_true (by omega), decide_eq_false h⟩
    by_cases hlt : at_ < bt
    · have e1 := TT.out hlt
      subst e1
      obtain ⟨n1, n2, n3⟩ := L1 hlt
      cases g2
      · obtain ⟨⟨k1, k2, k3⟩, ⟨k4, k5, k6⟩, ⟨k7, k8, k9⟩⟩ := KC.out _ HB
        go_wp2_with fail
        refine (AW.out _ HB).mono ?_; clear HB; rintro e w5 ⟨rfl, HB⟩
        clear k1 k2 k3 k4 k5 k6 k7 k8 k9
        obtain ⟨⟨k1, k2, k3⟩, ⟨k4, k5, k6⟩, ⟨k7, k8, k9⟩⟩ := KC.out _ HB
        go_wp2_with fail
        refine (AB.out _ HB).mono ?_; clear HB; rintro e w5 ⟨rfl, HB⟩
        clear k1 k2 k3 k4 k5 k6 k7 k8 k9
        obtain ⟨⟨k1, k2, k3⟩, ⟨k4, k5, k6⟩, ⟨k7, k8, k9⟩⟩ := KC.out _ HB
        go_wp2_with fail
        refine (BC.out _ HB).mono ?_; clear HB; rintro e w5 ⟨rfl, HB⟩
        clear k1 k2 k3 k4 k5 k6 k7 k8 k9
        obtain ⟨⟨k1, k2, k3⟩, ⟨k4, k5, k6⟩, ⟨k7, k8, k9⟩⟩ := KC.out _ HB
        go_wp2_with fail
        refine (AB.out _ HB).mono ?_; clear HB; rintro e w5 ⟨rfl, HB⟩
        clear k1 k2 k3 k4 k5 k6 k7 k8 k9
        obtain ⟨⟨k1, k2, k3⟩, ⟨k4, k5, k6⟩, ⟨k7, k8, k9⟩⟩ := KC.out _ HB
        go_wp2_with fail
        go_ret
        exact ⟨rfl, HB.low⟩
      · have e3 := TR.out rfl rfl
        subst e3
        obtain ⟨⟨k1, k2, k3⟩, ⟨k4, k5, k6⟩, ⟨k7, k8, k9⟩⟩ := KC.out _ HB
        go_wp2_with fail
        refine (AW.out _ HB).mono ?_; clear HB; rintro e w5 ⟨rfl, HB⟩
        clear k1 k2 k3 k4 k5 k6 k7 k8 k9
        obtain ⟨⟨k1, k2, k3⟩, ⟨k4, k5, k6⟩, ⟨k7, k8, k9⟩⟩ := KC.out _ HB
        go_wp2_with fail
        refine (AB.out _ HB).mono ?_; clear HB; rintro e w5 ⟨rfl, HB⟩
        clear k1 k2 k3 k4 k5 k6 k7 k8 k9
        obtain ⟨⟨k1, k2, k3⟩, ⟨k4, k5, k6⟩, ⟨k7, k8, k9⟩⟩ := KC.out _ HB
        go_wp2_with fail
        refine (BC.out _ HB).mono ?_; clear HB; rintro e w5 ⟨rfl, HB⟩
        clear k1 k2 k3 k4 k5 k6 k7 k8 k9
        obtain ⟨⟨k1, k2, k3⟩, ⟨k4, k5, k6⟩, ⟨k7, k8, k9⟩⟩ := KC.out _ HB
        go_wp2_with fail
        refine (AC.out _ HB).mono ?_; clear HB; rintro e w5 ⟨rfl, HB⟩
        clear k1 k2 k3 k4 k5 k6 k7 k8 k9
        obtain ⟨⟨k1, k2, k3⟩, ⟨k4, k5, k6⟩, ⟨k7, k8, k9⟩⟩ := KC.out _ HB
        go_wp2_with fail
        refine (AB.out _ HB).mono ?_; clear HB; rintro e w5 ⟨rfl, HB⟩
        clear k1 k2 k3 k4 k5 k6 k7 k8 k9
        obtain ⟨⟨k1, k2, k3⟩, ⟨k4, k5, k6⟩, ⟨k7, k8, k9⟩⟩ := KC.out _ HB
        go_wp2_with fail
        go_ret
        exact ⟨rfl, HB.low⟩
    · obtain ⟨n1, n2, n3⟩ := L0 hlt
      cases g1
      · obtain ⟨⟨k1, k2, k3⟩, ⟨k4, k5, k6⟩, ⟨k7, k8, k9⟩⟩ := KC.out _ HB
        go_wp2_with fail
        refine (AW.out _ HB).mono ?_; clear HB; rintro e w5 ⟨rfl, HB⟩
        clear k1 k2 k3 k4 k5 k6 k7 k8 k9
        obtain ⟨⟨k1, k2, k3⟩, ⟨k4, k5, k6⟩, ⟨k7, k8, k9⟩⟩ := KC.out _ HB
        go_wp2_with fail
        refine (AB.out _ HB).mono ?_; clear HB; rintro e w5 ⟨rfl, HB⟩
        clear k1 k2 k3 k4 k5 k6 k7 k8 k9
        obtain ⟨⟨k1, k2, k3⟩, ⟨k4, k5, k6⟩, ⟨k7, k8, k9⟩⟩ := KC.out _ HB
        go_wp2_with fail
        go_ret
        exact ⟨rfl, HB.low⟩
      · cases g2
        · obtain ⟨⟨k1, k2, k3⟩, ⟨k4, k5, k6⟩, ⟨k7, k8, k9⟩⟩ := KC.out _ HB
          go_wp2_with fail
          refine (AW.out _ HB).mono ?_; clear HB; rintro e w5 ⟨rfl, HB⟩
          clear k1 k2 k3 k4 k5 k6 k7 k8 k9
          obtain ⟨⟨k1, k2, k3⟩, ⟨k4, k5, k6⟩, ⟨k7, k8, k9⟩⟩ := KC.out _ HB
          go_wp2_with fail
          refine (AB.out _ HB).mono ?_; clear HB; rintro e w5 ⟨rfl, HB⟩
          clear k1 k2 k3 k4 k5 k6 k7 k8 k9
          obtain ⟨⟨k1, k2, k3⟩, ⟨k4, k5, k6⟩, ⟨k7, k8, k9⟩⟩ := KC.out _ HB
          go_wp2_with fail
          refine (BC.out _ HB).mono ?_; clear HB; rintro e w5 ⟨rfl, HB⟩
          clear k1 k2 k3 k4 k5 k6 k7 k8 k9
          obtain ⟨⟨k1, k2, k3⟩, ⟨k4, k5, k6⟩, ⟨k7, k8, k9⟩⟩ := KC.out _ HB
          go_wp2_with fail
          go_ret
          exact ⟨rfl, HB.low⟩
        · have e3 := TR.out rfl rfl
          subst e3
          obtain ⟨⟨k1, k2, k3⟩, ⟨k4, k5, k6⟩, ⟨k7, k8, k9⟩⟩ := KC.out _ HB
          go_wp2_with fail
          refine (AW.out _ HB).mono ?_; clear HB; rintro e w5 ⟨rfl, HB⟩
          clear k1 k2 k3 k4 k5 k6 k7 k8 k9
          obtain ⟨⟨k1, k2, k3⟩, ⟨k4, k5, k6⟩, ⟨k7, k8, k9⟩⟩ := KC.out _ HB
          go_wp2_with fail
          refine (AB.out _ HB).mono ?_; clear HB; rintro e w5 ⟨rfl, HB⟩
          clear k1 k2 k3 k4 k5 k6 k7 k8 k9
          obtain ⟨⟨k1, k2, k3⟩, ⟨k4, k5, k6⟩, ⟨k7, k8, k9⟩⟩ := KC.out _ HB
          go_wp2_with fail
          refine (BC.out _ HB).mono ?_; clear HB; rintro e w5 ⟨rfl, HB⟩
          clear k1 k2 k3 k4 k5 k6 k7 k8 k9
          obtain ⟨⟨k1, k2, k3⟩, ⟨k4, k5, k6⟩, ⟨k7, k8, k9⟩⟩ := KC.out _ HB
          go_wp2_with fail
          refine (AC.out _ HB).mono ?_; clear HB; rintro e w5 ⟨rfl, HB⟩
          clear k1 k2 k3 k4 k5 k6 k7 k8 k9
          obtain ⟨⟨k1, k2, k3⟩, ⟨k4, k5, k6⟩, ⟨k7, k8, k9⟩⟩ := KC.out _ HB
          go_wp2_with fail
          go_ret
          exact ⟨rfl, HB.low⟩
end
end Go.Proofs.Ytlfbenlojiiknaa
