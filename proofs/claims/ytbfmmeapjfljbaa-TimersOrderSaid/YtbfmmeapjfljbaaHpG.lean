/- Layer 13 (heap), the program's own: Push. -/
import Derived.Test.YtbfmmeapjfljbaaHpF
import Derived.Deep.AppendLies
set_option maxRecDepth 100000
namespace Go.Proofs.Ytbfmmeapjfljbaa
open Go.ChangeShapes Go.WideShapes Go.ChangeAt Go.RowKit Go.Maps HeapM

/-- What a call makes of a heap. -/
def PR (w : World) (N b : Nat) (p : Option Addr) (sz : Nat) (l : List It) (w' : World) : Prop := ∃ p' c', PHp w' N b p' c' sz l ∧ FT (HF N b p) w w' ∧ (p' = p ∨ ∀ a, p' = some a → w.heap.size ≤ a.block)
theorem PR.same {w w' : World} {N b c sz : Nat} {p : Option Addr} {l : List It} (h : PHp w N b p c sz l) (k : Below w.heap.size w w') : PR w N b p sz l w' := ⟨p, c, h.below k, FT.of_below k, .inl rfl⟩
theorem PR.of {w w' : World} {N b c sz : Nat} {p : Option Addr} {l : List It} (h : PQ w N b p c sz l w') : PR w N b p sz l w' := ⟨p, c, h.1, h.2, .inl rfl⟩
theorem infoP : (Try.prog.info? 55).map (fun i => (i.zero, i.size, i.bytes)) = some (some (.agg #[.int .u64 0, .int .u64 0, .int .i64 0]), 3, 24) := by kernel_rfl

/-- Behind the append, ahead of the map. -/
structure MidP (w wx : World) (N b bx : Nat) (p : Option Addr) (n cap sz : Nat) (gg : Nat) (l : List It) (x : It) (D : DataW Unit) : Prop where
  bk : wx.heap[N]? = some (.cells (hpC sz (n + 1) cap b (some ⟨gg, 0, none⟩)) 67 (0, 0))
  o : OwnI wx 55 0 (some ⟨gg, 0, none⟩) (n + 1) cap (l ++ [x])
  m : MapP wx b n D
  bx : wx.heap[bx]? = some (.cells (itC x) 55 (0, 0))
  ft : FT (HF N b p) w wx
  new : (some ⟨gg, 0, none⟩ = p ∨ w.heap.size ≤ gg)
  far : gg ≠ N ∧ gg ≠ b
theorem map_ne {w : World} {b n K : Nat} {D : DataW Unit} {cs : Array Value} {T : TypeId} {f : Nat × Nat} (h : MapP w b n D) (k : w.heap[K]? = some (.cells cs T f)) : K ≠ b := by
  obtain ⟨es, q, e⟩ := h.blk
  intro e2
  rw [e2, e] at k
  cases k

set_option maxHeartbeats 8000000 in
theorem ppush13 (w : World) (N b : Nat) (p : Option Addr) (c sz : Nat) (l : List It) (x : It) (h : PHp w N b p c sz l) (hx : ItOk x) :
    Calls Try.prog 16 #[.pointer (some ⟨N, 0, none⟩), itV x] w fun e w' => e = .returned (.int .i64 (pushE (sz : Nat) l x)) ∧ PR w N b p sz (pushR (sz : Nat) l x) w' := by
  have AL : Below w.heap.size w (w.alloc (.cells (itC x) 55)) := (Below.refl _ _).alloc (Nat.le_refl _) _
  have BX : Hid ((w.alloc (.cells (itC x) 55)).heap[w.heap.size]? = some (.cells (itC x) 55 (0, 0))) := heap_alloc_new _ _
  have H1 := Lib.hid (h.below AL)
  have L1 := Lib.hid AL
  have NX : Hid (N < w.heap.size ∧ b < w.heap.size) := ⟨h.lt _ (.inl rfl), h.lt _ (.inr (.inl rfl))⟩
  have fit := h.fit
  have H0 := Lib.hid h
  have OKX := Lib.hid hx
  obtain ⟨D, MD, PD⟩ := H1.out.m
  have MM := Lib.hid (And.intro MD PD)
  clear h AL MD PD
  cases hp : place l x.id with
  | some k =>
    have F : Hid (∀ w', Below w.heap.size w w' → Ending.returned (.int .i64 9) = .returned (.int .i64 (pushE (sz : Nat) l x)) ∧ PR w N b p sz (pushR (sz : Nat) l x) w') := fun w' b => by
      rw [(push_there hp).1, (push_there hp).2]
      exact ⟨rfl, PR.same H0.out b⟩
    obtain ⟨e1, e2⟩ := MM.out.2.find hp (dk 0)
    have LK := Lib.hid (MapP.look (w := (w.alloc (.cells (itC x) 55)).drew) MM.out.1 OKX.out.a e2 e1)
    obtain ⟨xi, xs, xt⟩ := x
    unfold itC at BX L1 H1 LK
    unfold itV
    dsimp only at BX L1 H1 LK ⊢
    have M := Lib.hid (pmade13 H1.out)
    have x0 := blk_cell (o := 0) BX.out
    simp only [List.getElem?_toArray, List.getElem?_cons_zero] at x0
    have c2 := H1.out.c2
    have L2 := Lib.hid L1.out.drew
    clear hp e1 e2 H0 fit MM OKX NX BX
    go_enter Try.func16, Try.ntmps16
    go_wp2_with (go_at_call 22; refine M.out.mono ?_; rintro e w1 ⟨rfl, rfl⟩)
    generalize w.alloc (.cells #[.int .u64 (xi : Nat), .int .u64 (xs : Nat), .int .i64 xt] 55) = v at *
    have LK := LK.out
    go_region
    go_wp2
    go_ret
    exact F.out _ L2.out
  | none =>
    obtain ⟨n, hn⟩ : ∃ n, l.length = n := ⟨_, rfl⟩
    have HN := Lib.hid hn
    rw [hn] at fit
    have nb : (n : Int) ≤ 1048576 := by omega
    obtain ⟨e1, e2⟩ := MM.out.2.none hp (dk 0)
    have LK := Lib.hid (MapP.look (w := (w.alloc (.cells (itC x) 55)).drew) MM.out.1 OKX.out.a e2 e1)
    have c1 := H1.out.c1
    have c0 := H1.out.c0
    have c2 := H1.out.c2
    rw [hn] at c1
    by_cases full : (sz : Int) ≤ l.length
    · have F : Hid (∀ w', Below w.heap.size w w' → Ending.returned (.int .i64 7) = .returned (.int .i64 (pushE (sz : Nat) l x)) ∧ PR w N b p sz (pushR (sz : Nat) l x) w') := fun w' b => by
        rw [(push_full hp full).1, (push_full hp full).2]
        exact ⟨rfl, PR.same H0.out b⟩
      obtain rfl : n = sz := by omega
      obtain ⟨xi, xs, xt⟩ := x
      unfold itC at BX L1 H1 LK c0 c1 c2
      unfold itV
      dsimp only at BX L1 H1 LK c0 c1 c2 ⊢
      have M := Lib.hid (pmade13 H1.out)
      have x0 := blk_cell (o := 0) BX.out
      simp only [List.getElem?_toArray, List.getElem?_cons_zero] at x0
      have L2 := Lib.hid L1.out.drew
      clear hp e1 e2 H0 fit MM OKX NX BX hn full
      go_enter Try.func16, Try.ntmps16
      go_wp2_with (go_at_call 22; refine M.out.mono ?_; rintro e w1 ⟨rfl, rfl⟩)
      generalize w.alloc (.cells #[.int .u64 (xi : Nat), .int .u64 (xs : Nat), .int .i64 xt] 55) = v at *
      have LK := LK.out
      go_region
      go_wp2
      go_ret
      exact F.out _ L2.out
    · have F : Hid (∀ w', PR w N b p sz (pushL l x) w' → Ending.returned (.int .i64 0) = .returned (.int .i64 (pushE (sz : Nat) l x)) ∧ PR w N b p sz (pushR (sz : Nat) l x) w') := fun w' b => by
        rw [(push_in hp full).1, (push_in hp full).2]
        exact ⟨rfl, b⟩
      have d1 : (n : Int) < (sz : Int) := by omega
      have d2 : ((n : Int) == (sz : Int)) = false := by rw [beq_eq_false_iff_ne]; omega
      have d3 : (n == sz) = false := by rw [beq_eq_false_iff_ne]; omega
      have d4 : ¬ (n : Int) = (sz : Int) := by omega
      have NI : Hid (∀ q, x.id = q → q ∉ l.map It.id) := fun q hq m => by
        obtain ⟨j, hj, e⟩ := id_mem m
        exact place_none hp hj (by rw [e, hq])
      obtain ⟨xi, xs, xt⟩ := x
      unfold itC at BX L1 H1 LK MM c0 c1 c2
      unfold itV
      dsimp only at BX L1 H1 LK MM c0 c1 c2 ⊢
      have M := Lib.hid (pmade13 H1.out)
      have x0 := blk_cell (o := 0) BX.out
      simp only [List.getElem?_toArray, List.getElem?_cons_zero] at x0
      obtain ⟨iI, hi, hz0, hz1, hz2⟩ := infoI_of infoP
      clear hp e1 e2 hn full
      go_enter Try.func16, Try.ntmps16
      go_wp2_with (go_at_call 22; refine M.out.mono ?_; rintro e w1 ⟨rfl, rfl⟩)
      clear M
      generalize w.alloc (.cells #[.int .u64 (xi : Nat), .int .u64 (xs : Nat), .int .i64 xt] 55) = v at *
      obtain ⟨bx, hbx⟩ : ∃ b, w.heap.size = b := ⟨_, rfl⟩
      have HX := Lib.hid hbx
      rw [hbx] at BX NX L1 x0 ⊢
      clear hbx
      have LK := LK.out
      go_region
      have H2 : Hid (PHp v.drew N b p c sz l) := H1.out.below (Below.refl _ _).drew
      have M2 : Hid (MapP v.drew b l.length D ∧ PlD D l) := MM.out
      have B2 : Hid (v.drew.heap[bx]? = some (.cells #[.int .u64 (xi : Nat), .int .u64 (xs : Nat), .int .i64 xt] 55 (0, 0))) := BX.out
      have L2 : Hid (Below bx w v.drew) := L1.out.drew
      have c0' : v.drew.cell? ⟨N, 0, none⟩ = some (.int .i64 (sz : Nat)) := H2.out.c0
      have c1' : v.drew.cell? ⟨N, 1, none⟩ = some (.slice p n c) := by have := H2.out.c1; rw [HN.out] at this; exact this
      generalize v.drew = v1 at *
      clear x0 c0 c1 c2 H1 BX L1 LK MM
      go_upto_region 9 with (fail)
      go_cut [42] (fun _ wx => ∃ gg cap, Hid (MidP w wx N b bx p n cap sz gg l ⟨xi, xs, xt⟩ D))
      case first =>
        have x0 := blk_cell (o := 0) B2.out
        have x1 := blk_cell (o := 1) B2.out
        have x2 := blk_cell (o := 2) B2.out
        have f0 := blk_free (o := 1) H2.out.bk
        simp only [List.getElem?_toArray, List.getElem?_cons_zero, List.getElem?_cons_succ] at x0 x1 x2
        clear c0'
        have AL : Below v1.heap.size v1 (v1.alloc (.cells #[.int .u64 (xi : Nat), .int .u64 (xs : Nat), .int .i64 xt] 55)) := (Below.refl _ _).alloc (Nat.le_refl _) _
        have H3 := Lib.hid (H2.out.below AL)
        have c1 := H3.out.c1
        rw [HN.out] at c1
        have B3 : Hid ((v1.alloc (.cells #[.int .u64 (xi : Nat), .int .u64 (xs : Nat), .int .i64 xt] 55)).heap[bx]? = some (.cells #[.int .u64 (xi : Nat), .int .u64 (xs : Nat), .int .i64 xt] 55 (0, 0))) := (AL.block _ (Array.getElem?_eq_some_iff.1 B2.out).1).trans B2.out
        have KX : Hid (∀ w' : World, w'.heap[bx]? = some (.cells #[.int .u64 (xi : Nat), .int .u64 (xs : Nat), .int .i64 xt] 55 (0, 0)) → w'.cell? ⟨bx, 0, none⟩ = some (.int .u64 (xi : Nat)) ∧ w'.cell? ⟨bx, 1, none⟩ = some (.int .u64 (xs : Nat)) ∧ w'.cell? ⟨bx, 2, none⟩ = some (.int .i64 xt)) := fun w' h => ⟨blk_cell h, blk_cell h, blk_cell h⟩
        have ONE : Hid (∀ u ∈ ([.int .u64 (xi : Nat), .int .u64 (xs : Nat), .int .i64 xt] : List Value), u.oneCell' = true) := by
          intro u hu
          simp only [List.mem_cons, List.not_mem_nil, or_false] at hu
          rcases hu with rfl | rfl | rfl <;> rfl
        have BM : Hid (n + 1 ≤ maxLen) := by unfold Hid maxLen; omega
        have BY : Hid ((n + 1) * 24 ≤ 140737488355328) := by unfold Hid; omega
        have OW : Hid ((v1.alloc (.cells #[.int .u64 (xi : Nat), .int .u64 (xs : Nat), .int .i64 xt] 55)).drew.ownsRow 0 55 3 (.slice p n c) n (cellsI l)) := by
          have o := H3.out.o.below (Below.refl _ _).drew
          unfold OwnI at o
          rw [HN.out] at o
          exact o
        have x3 := (KX.out _ B3.out).1
        have x4 := (KX.out _ B3.out).2.1
        have x5 := (KX.out _ B3.out).2.2
        have AF : Hid (∀ gg cap w3, w3.ownsRow 0 55 3 (.slice (some ⟨gg, 0, none⟩) (n + 1) cap) (n + 1) (cellsI l ++ [.int .u64 (xi : Nat), .int .u64 (xs : Nat), .int .i64 xt]) →
            (v1.alloc (.cells #[.int .u64 (xi : Nat), .int .u64 (xs : Nat), .int .i64 xt] 55)).drew.grownBy w3 (Value.slice p n c).ownBlock → ((Value.slice p n c).ownBlock = some gg ∨ gg = (v1.alloc (.cells #[.int .u64 (xi : Nat), .int .u64 (xs : Nat), .int .i64 xt] 55)).drew.heap.size) →
            w3.heap[bx]? = some (.cells #[.int .u64 (xi : Nat), .int .u64 (xs : Nat), .int .i64 xt] 55 (0, 0)) ∧ w3.cell? ⟨N, 1, none⟩ = some (.slice p n c) ∧ w3.frozen? ⟨N, 1, none⟩ = false ∧
            ((w3.setCell ⟨N, 1, none⟩ (.slice (some ⟨gg, 0, none⟩) (n + 1) cap)).heap[bx]? = some (.cells #[.int .u64 (xi : Nat), .int .u64 (xs : Nat), .int .i64 xt] 55 (0, 0)) ∧
              MidP w (w3.setCell ⟨N, 1, none⟩ (.slice (some ⟨gg, 0, none⟩) (n + 1) cap)) N b bx p n cap sz gg l ⟨xi, xs, xt⟩ D)) := by
          intro gg cap w3 o3 g3 m3
          have AD : Below v1.heap.size v1 (v1.alloc (.cells #[.int .u64 (xi : Nat), .int .u64 (xs : Nat), .int .i64 xt] 55)).drew := AL.drew
          have N2 := (AD.block N (Array.getElem?_eq_some_iff.1 H2.out.bk).1).trans H2.out.bk
          have S2 : v1.heap.size ≤ (v1.alloc (.cells #[.int .u64 (xi : Nat), .int .u64 (xs : Nat), .int .i64 xt] 55)).drew.heap.size := AD.size
          have X2 := (AD.block bx (Array.getElem?_eq_some_iff.1 B2.out).1).trans B2.out
          have W2 : Below w.heap.size w (v1.alloc (.cells #[.int .u64 (xi : Nat), .int .u64 (xs : Nat), .int .i64 xt] 55)).drew := by
            rw [HX.out]
            have := L2.out.size
            exact L2.out.trans (AD.mono (by have := HX.out; omega))
          have NV : N < v1.heap.size := (Array.getElem?_eq_some_iff.1 H2.out.bk).1
          have XV : bx < v1.heap.size := (Array.getElem?_eq_some_iff.1 B2.out).1
          have BV : b < v1.heap.size := World.ownsMap.lt M2.out.1
          have rowB : ∀ k, (Value.slice p n c).ownBlock = some k → ∃ a, p = some a ∧ a.block = k ∧ a = ⟨k, 0, none⟩ ∧ k < bx ∧ k ≠ N ∧ k ≠ b := by
            intro k hk
            cases p with
            | none => cases hk
            | some a =>
              injection hk with hk
              have e := own_base0 H0.out.o
              have lt := H0.out.o.lt
              have fa := H0.out.far a rfl
              have fb := H0.out.ab rfl
              exact ⟨a, rfl, hk, by rw [← hk]; exact e.1, by rw [← hk, ← HX.out]; exact lt, by rw [← hk]; exact fa, by rw [← hk]; exact fb⟩
          have N3 : w3.heap[N]? = some (.cells (hpC sz n c b p) 67 (0, 0)) := by
            rw [g3.block N (Nat.lt_of_lt_of_le NV S2) (fun e => by obtain ⟨a, -, -, -, -, ne, -⟩ := rowB N e.symm; exact ne rfl), N2, HN.out]
          have X3 := (g3.block bx (Nat.lt_of_lt_of_le XV S2) (fun e => by obtain ⟨a, -, -, -, lt, -⟩ := rowB bx e.symm; omega)).trans X2
          have b3 : w3.heap[b]? = v1.heap[b]? := (g3.block b (Nat.lt_of_lt_of_le BV S2) (fun e => by obtain ⟨a, -, -, -, -, -, ne⟩ := rowB b e.symm; exact ne rfl)).trans (AD.block b BV)
          have gm : gg ≠ N ∧ gg ≠ b := by
            rcases m3 with e | e
            · obtain ⟨a, -, -, -, -, ne, ne2⟩ := rowB gg e; exact ⟨ne, ne2⟩
            · rw [e]; omega
          have NB := H0.out.nb
          refine ⟨X3, blk_cell (o := 1) N3, blk_free (o := 1) N3, (Go.Deep.blk_setCell_other _ _ _ _ (show bx ≠ N by have := NX.out.1; omega)).trans X3, ⟨blk_set (o := 1) (u := .slice (some ⟨gg, 0, none⟩) (n + 1) cap) N3, ?_, ?_, (Go.Deep.blk_setCell_other _ _ _ _ (show bx ≠ N by have := NX.out.1; omega)).trans X3, ?_, ?_, gm⟩⟩
          · have o : OwnI w3 55 0 (some ⟨gg, 0, none⟩) (n + 1) cap (l ++ [⟨xi, xs, xt⟩]) := by
              unfold OwnI
              rw [cellsI_app]
              exact o3
            refine o.keep fun a ha => ?_
            injection ha with ha
            rw [← ha]
            exact Go.Deep.blk_setCell_other _ _ _ _ gm.1
          · have m := M2.out.1
            rw [HN.out] at m
            exact m.same ((Go.Deep.blk_setCell_other _ _ _ _ (Ne.symm NB)).trans b3)
          · refine FT.set (a := ⟨N, 1, none⟩) ((FT.of_below W2).grown g3 fun k hk => ?_) (.inl rfl) _
            obtain ⟨a, ea, ek, -⟩ := rowB k hk
            exact .inr (.inr ⟨a, ea, ek.symm⟩)
          · rcases m3 with e | e
            · obtain ⟨a, ea, -, e3, -, -⟩ := rowB gg e
              left
              rw [ea, e3]
            · right
              rw [e, HX.out]
              exact Nat.le_trans (Nat.le_of_lt XV) S2
        go_wp2_with fail
        /- the region: begin -/
        refine wp_region_held_drew (S := fun w' => w'.cell? ⟨bx, 0, none⟩ = some (.int .u64 (xi : Nat)) ∧ w'.cell? ⟨bx, 1, none⟩ = some (.int .u64 (xs : Nat)) ∧ w'.cell? ⟨bx, 2, none⟩ = some (.int .i64 xt)) (by kernel_rfl) (KX.out _ B2.out) (fun hHeld => ?_)
        refine wpAnyH_take (i := 0) (v := ?_) (by (simp only [List.getElem?_toArray, List.getElem?_cons_zero]; exact rfl)) (by kernel_rfl) (by kernel_rfl) (by kernel_rfl) (by exact fun _ _ _ h => h) (Or.inl ⟨by rfl, ?_⟩) (by assumption) ?_
        rotate_left
        · (intro w hSw; (try dsimp only at hSw); first | (go_simp; done) | (go_simp; with_reducible rfl))
        try simp only [Act.put, List.setIfInBounds_toArray, List.set_cons_zero, List.set_cons_succ]
        refine wpAnyH_take (i := 1) (v := ?_) (by (simp only [List.getElem?_toArray, List.getElem?_cons_zero, List.getElem?_cons_succ]; exact rfl)) (by kernel_rfl) (by kernel_rfl) (by kernel_rfl) (by exact fun _ _ _ h => h) (Or.inl ⟨by rfl, ?_⟩) (by assumption) ?_
        rotate_left
        · (intro w hSw; (try dsimp only at hSw); first | (go_simp; done) | (go_simp; with_reducible rfl))
        try simp only [Act.put, List.setIfInBounds_toArray, List.set_cons_zero, List.set_cons_succ]
        refine wpAnyH_take (i := 2) (v := ?_) (by (simp only [List.getElem?_toArray, List.getElem?_cons_zero, List.getElem?_cons_succ]; exact rfl)) (by kernel_rfl) (by kernel_rfl) (by kernel_rfl) (by exact fun _ _ _ h => h) (Or.inl ⟨by rfl, ?_⟩) (by assumption) ?_
        rotate_left
        · (intro w hSw; (try dsimp only at hSw); first | (go_simp; done) | (go_simp; with_reducible rfl))
        try simp only [Act.put, List.setIfInBounds_toArray, List.set_cons_zero, List.set_cons_succ]
        refine wpAnyH_take (i := 3) (v := ?_) (by (simp only [List.getElem?_toArray, List.getElem?_cons_zero, List.getElem?_cons_succ]; exact rfl)) (by kernel_rfl) (by kernel_rfl) (by kernel_rfl) (by exact fun _ _ _ h => h) (Or.inl ⟨by rfl, ?_⟩) (by assumption) ?_
        rotate_left
        · (intro w hSw; (try dsimp only at hSw); first | (go_simp; done) | (go_simp; with_reducible rfl))
        try simp only [Act.put, List.setIfInBounds_toArray, List.set_cons_zero, List.set_cons_succ]
        refine wpAnyH_take (i := 5) (v := ?_) (by (simp only [List.getElem?_toArray, List.getElem?_cons_zero, List.getElem?_cons_succ]; exact rfl)) (by kernel_rfl) (by kernel_rfl) (by kernel_rfl) (by exact fun _ _ _ h => h) (Or.inl ⟨by rfl, ?_⟩) (by assumption) ?_
        rotate_left
        · (intro w hSw; (try dsimp only at hSw); first | (go_simp; done) | (go_simp; with_reducible rfl))
        try simp only [Act.put, List.setIfInBounds_toArray, List.set_cons_zero, List.set_cons_succ]
        refine wpAnyH_ready (rs := [4, 6]) (by kernel_rfl) (by simp) ?_
        refine AllReadyH.cons (by (simp only [List.getElem?_toArray, List.getElem?_cons_zero, List.getElem?_cons_succ]; exact rfl)) (fun K hK => ?_) (AllReadyH.cons (by (simp only [List.getElem?_toArray, List.getElem?_cons_zero, List.getElem?_cons_succ]; exact rfl)) (fun K hK => ?_) AllReadyH.nil)
        · go_simp
          refine hK.out _ _ (KX.out _ B2.out) (fun hHeld => ?_)
          clear hK K
          try simp only [Act.put, List.setIfInBounds_toArray, List.set_cons_zero, List.set_cons_succ]
          refine wpAnyH_ready (rs := [6]) (by kernel_rfl) (by simp) ?_
          refine AllReadyH.cons (by (simp only [List.getElem?_toArray, List.getElem?_cons_zero, List.getElem?_cons_succ]; exact rfl)) (fun K hK => ?_) AllReadyH.nil
          go_simp
          refine hK.out _ _ (KX.out _ B3.out) (fun hHeld => ?_)
          clear hK K
          try simp only [Act.put, List.setIfInBounds_toArray, List.set_cons_zero, List.set_cons_succ]
          refine wpAnyH_ready (rs := [7]) (by kernel_rfl) (by simp) ?_
          refine AllReadyH.cons (by (simp only [List.getElem?_toArray, List.getElem?_cons_zero, List.getElem?_cons_succ]; exact rfl)) (fun K hK => ?_) AllReadyH.nil
          refine step_append_lies _ (by rfl) _ _ _ (by rfl) 0 55 iI (.agg #[.int .u64 0, .int .u64 0, .int .i64 0]) 3 24 Try.underlying65 hi hz0 hz1 hz2 (by rfl) (by decide) (.slice p n c) n (cellsI l) (by rfl) OW.out ⟨v1.heap.size, 0, none⟩ 1 1 [.int .u64 (xi : Nat), .int .u64 (xs : Nat), .int .i64 xt] (by rfl) (by rfl) (World.news_of_block (heap_alloc_new v1 _)) ONE.out (by decide) BM.out BY.out (Nat.zero_le _) _ rfl ?_
          intro gg cap w3 o3 g3 m3 lt3
          obtain ⟨B4, M4, F4, H4⟩ := AF.out gg cap w3 o3 g3 m3
          refine hK.out _ _ (KX.out _ B4) (fun hHeld => ?_)
          clear hK K
          try simp only [Act.put, List.setIfInBounds_toArray, List.set_cons_zero, List.set_cons_succ]
          refine wpAnyH_take (i := 8) (v := ?_) (by (simp only [List.getElem?_toArray, List.getElem?_cons_zero, List.getElem?_cons_succ]; exact rfl)) (by kernel_rfl) (by kernel_rfl) (by kernel_rfl) (by exact fun _ _ _ h => h) (Or.inl ⟨by rfl, ?_⟩) (by assumption) ?_
          rotate_left
          · (intro w hSw; (try dsimp only at hSw); first | (go_simp; done) | (go_simp; with_reducible rfl))
          try simp only [Act.put, List.setIfInBounds_toArray, List.set_cons_zero, List.set_cons_succ]
          refine wpAnyH_take (i := 9) (v := ?_) (by (simp only [List.getElem?_toArray, List.getElem?_cons_zero, List.getElem?_cons_succ]; exact rfl)) (by kernel_rfl) (by kernel_rfl) (by kernel_rfl) (by exact fun _ _ _ h => h) (Or.inl ⟨by rfl, ?_⟩) (by assumption) ?_
          rotate_left
          · (intro w hSw; (try dsimp only at hSw); first | (go_simp; done) | (go_simp; with_reducible rfl))
          try simp only [Act.put, List.setIfInBounds_toArray, List.set_cons_zero, List.set_cons_succ]
          refine wpAnyH_ready (rs := [10]) (by kernel_rfl) (by simp) ?_
          refine AllReadyH.cons (by (simp only [List.getElem?_toArray, List.getElem?_cons_zero, List.getElem?_cons_succ]; exact rfl)) (fun K hK => ?_) AllReadyH.nil
          go_simp
          refine hK.out _ _ (KX.out _ H4.1) (fun hHeld => ?_)
          clear hK K
          try simp only [Act.put, List.setIfInBounds_toArray, List.set_cons_zero, List.set_cons_succ]
          refine wpAnyH_done (by kernel_rfl) ?_ _
          obtain ⟨-, P5⟩ := H4
          go_wp2_with fail
          go_meet
          exact ⟨gg, cap, P5⟩
        · go_simp
          refine hK.out _ _ (KX.out _ B3.out) (fun hHeld => ?_)
          clear hK K
          try simp only [Act.put, List.setIfInBounds_toArray, List.set_cons_zero, List.set_cons_succ]
          refine wpAnyH_ready (rs := [4]) (by kernel_rfl) (by simp) ?_
          refine AllReadyH.cons (by (simp only [List.getElem?_toArray, List.getElem?_cons_zero, List.getElem?_cons_succ]; exact rfl)) (fun K hK => ?_) AllReadyH.nil
          go_simp
          refine hK.out _ _ (KX.out _ B3.out) (fun hHeld => ?_)
          clear hK K
          try simp only [Act.put, List.setIfInBounds_toArray, List.set_cons_zero, List.set_cons_succ]
          refine wpAnyH_ready (rs := [7]) (by kernel_rfl) (by simp) ?_
          refine AllReadyH.cons (by (simp only [List.getElem?_toArray, List.getElem?_cons_zero, List.getElem?_cons_succ]; exact rfl)) (fun K hK => ?_) AllReadyH.nil
          refine step_append_lies _ (by rfl) _ _ _ (by rfl) 0 55 iI (.agg #[.int .u64 0, .int .u64 0, .int .i64 0]) 3 24 Try.underlying65 hi hz0 hz1 hz2 (by rfl) (by decide) (.slice p n c) n (cellsI l) (by rfl) OW.out ⟨v1.heap.size, 0, none⟩ 1 1 [.int .u64 (xi : Nat), .int .u64 (xs : Nat), .int .i64 xt] (by rfl) (by rfl) (World.news_of_block (heap_alloc_new v1 _)) ONE.out (by decide) BM.out BY.out (Nat.zero_le _) _ rfl ?_
          intro gg cap w3 o3 g3 m3 lt3
          obtain ⟨B4, M4, F4, H4⟩ := AF.out gg cap w3 o3 g3 m3
          refine hK.out _ _ (KX.out _ B4) (fun hHeld => ?_)
          clear hK K
          try simp only [Act.put, List.setIfInBounds_toArray, List.set_cons_zero, List.set_cons_succ]
          refine wpAnyH_take (i := 8) (v := ?_) (by (simp only [List.getElem?_toArray, List.getElem?_cons_zero, List.getElem?_cons_succ]; exact rfl)) (by kernel_rfl) (by kernel_rfl) (by kernel_rfl) (by exact fun _ _ _ h => h) (Or.inl ⟨by rfl, ?_⟩) (by assumption) ?_
          rotate_left
          · (intro w hSw; (try dsimp only at hSw); first | (go_simp; done) | (go_simp; with_reducible rfl))
          try simp only [Act.put, List.setIfInBounds_toArray, List.set_cons_zero, List.set_cons_succ]
          refine wpAnyH_take (i := 9) (v := ?_) (by (simp only [List.getElem?_toArray, List.getElem?_cons_zero, List.getElem?_cons_succ]; exact rfl)) (by kernel_rfl) (by kernel_rfl) (by kernel_rfl) (by exact fun _ _ _ h => h) (Or.inl ⟨by rfl, ?_⟩) (by assumption) ?_
          rotate_left
          · (intro w hSw; (try dsimp only at hSw); first | (go_simp; done) | (go_simp; with_reducible rfl))
          try simp only [Act.put, List.setIfInBounds_toArray, List.set_cons_zero, List.set_cons_succ]
          refine wpAnyH_ready (rs := [10]) (by kernel_rfl) (by simp) ?_
          refine AllReadyH.cons (by (simp only [List.getElem?_toArray, List.getElem?_cons_zero, List.getElem?_cons_succ]; exact rfl)) (fun K hK => ?_) AllReadyH.nil
          go_simp
          refine hK.out _ _ (KX.out _ H4.1) (fun hHeld => ?_)
          clear hK K
          try simp only [Act.put, List.setIfInBounds_toArray, List.set_cons_zero, List.set_cons_succ]
          refine wpAnyH_done (by kernel_rfl) ?_ _
          obtain ⟨-, P5⟩ := H4
          go_wp2_with fail
          go_meet
          exact ⟨gg, cap, P5⟩
        /- the region: end -/
      obtain ⟨gg, cap, P⟩ := hcut
      have Y0 : wc.cell? ⟨bx, 0, none⟩ = some (.int .u64 (xi : Nat)) := blk_cell P.out.bx
      have c2 : wc.cell? ⟨N, 2, none⟩ = some (.map (some b)) := blk_cell P.out.bk
      have NM : Hid (n < maxLen) := by unfold Hid maxLen; omega
      have RN : Hid (RP (.int .i64 (n : Nat)) = some (dk n, [])) := RP_mk _
      have KX := Lib.hid (kq_of OKX.out.a)
      clear B2 H2 L2 c0' c1' hi hz0 hz1 hz2
      go_wp2_with fail
      go_still_tail 7, (by kernel_rfl)
      change wpList _ _ _ _ _ wc.drew
      refine wpList_mapUpdate_in _ rfl _ _ _ 64 rfl 28 3 law64 Try.underlying64 RP b n _ rfl (World.ownsMap.drew P.out.m) NM.out _ _ _ rfl rfl KX.out _ [] RN.out ?_
      intro w4 m4 u4
      have Q4 : Hid (PHp w4 N b (some ⟨gg, 0, none⟩) cap sz (l ++ [⟨xi, xs, xt⟩]) ∧ FT (HF N b p) w w4) := by
        have g := u4.grown
        have e : ∀ K o, K ≠ b → wc.heap[K]? = some o → w4.heap[K]? = some o := fun K o hK h => (g.block K (Array.getElem?_eq_some_iff.1 (show wc.drew.heap[K]? = some o from h)).1 (fun e => by injection e with e; exact hK e)).trans h
        have ln : (l ++ [(⟨xi, xs, xt⟩ : It)]).length = n + 1 := by rw [List.length_append, HN.out]; rfl
        have PD := M2.out.2.push ⟨xi, xs, xt⟩ (NI.out xi rfl)
        rw [HN.out] at PD
        have mt : MapP w4 b (n + 1) (D.put (kq xi) (dk n)) := m4
        have ok4 := P.out.o.keep (w' := w4) fun a' ha => by
          injection ha with ha
          subst ha
          obtain ⟨-, cur, hg⟩ := own_base0 P.out.o
          rw [hg]
          exact e _ _ P.out.far.2 hg
        refine ⟨⟨by rw [ln]; exact e N _ H0.out.nb P.out.bk, by rw [ln]; exact ok4, ⟨_, by rw [ln]; exact mt, PD⟩, fun a ha => by injection ha with ha; rw [← ha]; exact P.out.far.1, H0.out.pos, by rw [ln]; have := H0.out.fit; omega, fun y hy => ?_, ?_⟩, (P.out.ft.drew).grown g fun k hk => by injection hk with hk; exact .inr (.inl hk.symm)⟩
        · rcases List.mem_append.1 hy with hy | hy
          · exact H0.out.oks y hy
          · rw [List.mem_singleton.1 hy]; exact OKX.out
        · unfold Nod
          rw [List.map_append, List.nodup_append]
          refine ⟨H0.out.nod, by simp, fun a ha c hc => ?_⟩
          rw [List.map_cons, List.map_nil, List.mem_singleton] at hc
          subst hc
          exact fun e => NI.out _ rfl (e ▸ ha)
      clear m4 u4 Y0 c2
      have LN1 : n < (l ++ [(⟨xi, xs, xt⟩ : It)]).length := by rw [List.length_append, HN.out]; exact Nat.lt_succ_self n
      have UP := Lib.hid (pup13 w4 N b cap sz ⟨gg, 0, none⟩ (l ++ [⟨xi, xs, xt⟩]) n Q4.out.1 LN1)
      have FE : Hid (∀ w6, PQ w4 N b (some ⟨gg, 0, none⟩) cap sz (upL (l ++ [⟨xi, xs, xt⟩]) n) w6 → PR w N b p sz (pushL l ⟨xi, xs, xt⟩) w6) := fun w6 r => by
        have hnew : ∀ M, HF N b (some ⟨gg, 0, none⟩) M → HF N b p M ∨ w.heap.size ≤ M := by
          rintro M (e | e | ⟨a, ea, e⟩)
          · exact .inl (.inl e)
          · exact .inl (.inr (.inl e))
          · injection ea with ea
            subst ea
            rcases P.out.new with q | q
            · exact .inl (.inr (.inr ⟨_, q.symm, e⟩))
            · exact .inr (by rw [e]; exact q)
        refine ⟨_, _, by unfold pushL; rw [HN.out]; exact r.1, Q4.out.2.trans r.2 hnew, ?_⟩
        rcases P.out.new with q | q
        · exact .inl q
        · exact .inr fun a ha => by injection ha with ha; rw [← ha]; exact q
      clear Q4 P KX RN NM NI LN1
      go_wp2_with (go_at_call 23; refine UP.out.mono ?_; rintro e w6 ⟨rfl, r6⟩; have GG := Lib.hid (F.out _ (FE.out w6 r6)); clear r6 FE F UP)
      go_ret
      exact GG.out
end Go.Proofs.Ytbfmmeapjfljbaa

