/- Layer 13 (heap), the program's own: Row, Copy, Pop; none; all calls together. -/
import Derived.Test.YtlfbenlojiiknaaHpJ
import Derived.Test.YtlfbenlojiiknaaShelfG
set_option maxRecDepth 100000
namespace Go.Proofs.Ytlfbenlojiiknaa
open Go.ChangeShapes Go.WideShapes Go.ChangeAt Go.RowKit Go.Maps HeapM

/-- A row of items is cloned. -/
theorem pclone13 (w : World) (p : Option Addr) (n c : Nat) (l : List It) (h : OwnI w 34 0 p n c l) (hn : n ≤ 1048576) :
    Calls Try.prog 40 #[.slice p n c] w fun e w' => ∃ q d, e = .returned (.slice q n d) ∧ OwnI w' 34 w.heap.size q n d l ∧ Below w.heap.size w w' := by
  have hl := h.1
  rw [cellsI_len] at hl
  cases p with
  | none =>
    have c0 := h.holds.bare rfl
    have n0 : n = 0 := by have := h.holds.cap; omega
    subst c0 n0
    obtain rfl : l = [] := List.length_eq_zero_iff.1 (by omega)
    have k := AnyE.slices_Clone_nil Try.cloneItems 0 0 w
    change Calls Try.prog 40 _ _ _ at k
    refine k.mono ?_
    rintro e w' ⟨rfl, rfl⟩
    exact ⟨none, 0, rfl, OwnI.nil _ _ _, Below.refl _ _⟩
  | some a =>
    obtain ⟨i0, hi, hz0, hz1, hz2⟩ := infoI_of infoP
    obtain ⟨ea, -⟩ := own_base0 h
    obtain ⟨g, o, f⟩ := a
    injection ea with _ e1 e2
    subst e1 e2
    have hc : ∀ (j : Nat) (u : Value), (cellsI l)[j]? = some u → w.cell? ⟨g, 0 + j, none⟩ = some u := fun j u hj => by
      rw [Nat.zero_add]
      have := World.ownsRow.cells h (g := g) rfl j u hj
      rw [add_zero'] at this
      exact this
    have k := AnyE.slices_Clone Try.cloneItems i0 (.agg #[.int .u64 0, .int .u64 0, .int .i64 0]) 3 24 hi hz0 hz1 hz2 (by rfl) (by decide) (fun w => Try.sizeOf34 w) g 0 n c (cellsI l) w (by rw [cellsI_len]; omega) (by unfold maxLen; omega) (by omega) hc (cellsI_one l)
    change Calls Try.prog 40 _ _ _ at k
    refine k.mono ?_
    rintro e w' ⟨v', rfl, o, -, b⟩
    have o' := o
    obtain ⟨-, ⟨e, -⟩ | ⟨g', cap, cur, e, -⟩⟩ := o
    · subst e
      refine ⟨none, 0, ?_, ?_, b⟩
      · have : n = 0 := by
          rcases o'.2 with ⟨-, q⟩ | ⟨g', cap, cur, e, -⟩
          · exact q
          · injection e with e1 _ _; cases e1
        rw [this]
      · have : n = 0 := by
          rcases o'.2 with ⟨-, q⟩ | ⟨g', cap, cur, e, -⟩
          · exact q
          · injection e with e1 _ _; cases e1
        subst this
        exact o'
    · subst e
      exact ⟨_, cap, rfl, o', b⟩
theorem own_new {w : World} {T : TypeId} {B n c : Nat} {p : Option Addr} {l : List It} (h : OwnI w T B p n c l) : ∀ a, p = some a → B ≤ a.block := by
  rintro a rfl
  rcases h.2 with ⟨e, -⟩ | ⟨g, cap, cur, e, hb, -⟩
  · injection e with e1 _ _; cases e1
  · injection e with e1 _ _
    injection e1 with e1
    subst e1
    exact hb
theorem prow13 {w : World} {N b c sz : Nat} {p : Option Addr} {l : List It} (h : PHp w N b p c sz l) : Calls Try.prog 26 #[.pointer (some ⟨N, 0, none⟩)] w fun e w' => ∃ q d, e = .returned (.slice q l.length d) ∧ HoldsI w' q l.length d l ∧ (∀ a, q = some a → w.heap.size ≤ a.block) ∧ Below w.heap.size w w' := by
  have M := Lib.hid (pmade13 h)
  have CL := Lib.hid (pclone13 w p l.length c l h.o (by have := h.fit; omega))
  have c1 := h.c1
  have F : Hid (∀ q d w', OwnI w' 34 w.heap.size q l.length d l → Below w.heap.size w w' → ∃ q' d', Ending.returned (.slice q l.length d) = .returned (.slice q' l.length d') ∧ HoldsI w' q' l.length d' l ∧ (∀ a, q' = some a → w.heap.size ≤ a.block) ∧ Below w.heap.size w w') := fun q d w' o b => ⟨q, d, rfl, o.holds, own_new o, b⟩
  obtain ⟨n, hn⟩ : ∃ n, l.length = n := ⟨_, rfl⟩
  rw [hn] at c1 CL F ⊢
  clear h hn
  go_enter Try.func26, Try.ntmps26
  go_wp2_with (first | (go_at_call 33; refine M.out.mono ?_; rintro e w' ⟨rfl, rfl⟩) | (go_at_call 40; refine CL.out.mono ?_; rintro e w2 ⟨q, d, rfl, o2, b2⟩; have F := Lib.hid (F.out _ _ _ o2 b2); clear o2 b2))
  go_ret
  exact F.out

/-- A copy. -/
def PCopyP (w : World) (sz : Nat) (l : List It) (e : Ending) (w' : World) : Prop := ∃ N b p c, e = .returned (.pointer (some ⟨N, 0, none⟩)) ∧ PHp w' N b p c sz l ∧ (∀ M, HF N b p M → w.heap.size ≤ M) ∧ Below w.heap.size w w'
set_option maxHeartbeats 4000000 in
theorem pcopy13 {w : World} {N b c sz : Nat} {p : Option Addr} {l : List It} (h : PHp w N b p c sz l) : Calls Try.prog 21 #[.pointer (some ⟨N, 0, none⟩)] w (PCopyP w sz l) := by
  have M := Lib.hid (pmade13 h)
  obtain ⟨n, hn⟩ : ∃ n, l.length = n := ⟨_, rfl⟩
  have HN := Lib.hid hn
  have HH := Lib.hid h
  have KC : Hid (∀ w', Below w.heap.size w w' → w'.cell? ⟨N, 0, none⟩ = some (.int .i64 (sz : Nat)) ∧ w'.cell? ⟨N, 1, none⟩ = some (.slice p n c) ∧ w'.cell? ⟨N, 2, none⟩ = some (.map (some b))) := fun w' b => by
    have h' := h.below b
    have c1 := h'.c1
    rw [hn] at c1
    exact ⟨h'.c0, c1, h'.c2⟩
  have CL : Hid (∀ w', Below w.heap.size w w' → Calls Try.prog 40 #[.slice p n c] w' fun e w'' => ∃ q d, e = .returned (.slice q n d) ∧ OwnI w'' 34 w.heap.size q n d l ∧ Below w.heap.size w w'') := fun w' b => by
    have o := (h.below b).o
    rw [hn] at o
    exact (pclone13 w' p n c l o (by have := h.fit; omega)).mono fun e w'' ⟨q, d, e1, o1, b1⟩ => ⟨q, d, e1, own_base o1 b.size, b.trans (b1.mono b.size)⟩
  obtain ⟨D, MD, PD⟩ := h.m
  have DD := Lib.hid (And.intro MD PD)
  have CM : Hid (∀ w', Below w.heap.size w w' → ∀ q d, OwnI w' 34 w.heap.size q n d l → Calls Try.prog 41 #[.map (some b)] w' fun e w'' => ∃ b', e = .returned (.map (some b')) ∧ MapP w'' b' n D ∧ OwnI w'' 34 w.heap.size q n d l ∧ w.heap.size ≤ b' ∧ Below w.heap.size w w'') := fun w' bl q d o => by
    have m := MD.same (bl.block b (h.lt b (.inr (.inl rfl))))
    rw [hn] at m
    have k := AnyW.maps_Clone_owns Try.cloneMap 32 RP b n D w' m
    change Calls Try.prog 41 _ _ _ at k
    exact k.mono fun e w'' ⟨e1, m1, _, b1⟩ => ⟨_, e1, m1, o.below b1, bl.size, bl.trans (b1.mono bl.size)⟩
  clear h hn MD PD
  go_enter Try.func21, Try.ntmps21
  go_upto_region 3 with (go_at_call 33; refine M.out.mono ?_; rintro e w' ⟨rfl, rfl⟩)
  have HB0 : Below w'.heap.size w' w' := Below.refl _ _
  go_wp2_with fail
  go_region_held3 (fun w2 => w2.cell? ⟨N, 0, none⟩ = some (.int .i64 (sz : Nat)) ∧ w2.cell? ⟨N, 1, none⟩ = some (.slice p n c) ∧ w2.cell? ⟨N, 2, none⟩ = some (.map (some b)))
    (first | exact KC.out _ HB0 | exact KC.out _ HB0.drew | exact KC.out _ (HB0.alloc HB0.size _))
    (first
      | (go_at_call 40; refine (CL.out _ (by first | exact HB0 | exact HB0.drew)).mono ?_; rintro e w5 ⟨q, d, rfl, O5, HB0⟩)
      | (go_at_call 41; refine (CM.out _ HB0 _ _ O5).mono ?_; rintro e w6 ⟨b', rfl, M6, O6, LB, HB0⟩))
  have F : Hid (PCopyP w' sz l (.returned (.pointer (some ⟨w6.heap.size, 0, none⟩))) (w6.alloc (.cells #[.int .i64 (sz : Nat), .slice q n d, .map (some b')] 72))) := by
    have AL : Below w6.heap.size w6 (w6.alloc (.cells #[.int .i64 (sz : Nat), .slice q n d, .map (some b')] 72)) := (Below.refl _ _).alloc (Nat.le_refl _) _
    refine ⟨w6.heap.size, b', q, d, rfl, ⟨by rw [HN.out]; exact heap_alloc_new _ _, by rw [HN.out]; exact own_base (O6.below AL) (Nat.zero_le _), ⟨D, by rw [HN.out]; exact World.ownsMap.alloc M6 _, DD.out.2⟩, fun a ha => ?_, HH.out.pos, HH.out.fit, HH.out.oks, HH.out.nod⟩, ?_, HB0.trans (AL.mono HB0.size)⟩
    · subst ha
      exact Nat.ne_of_lt O6.lt
    · rintro M (rfl | rfl | ⟨a, ha, rfl⟩)
      · exact HB0.size
      · exact LB
      · exact own_new O6 a ha
  clear O5 O6 M6 HB0 LB KC CL CM M DD HH
  go_wp2
  go_ret
  exact F.out

theorem PR.tell {w w3 w4 : World} {N b sz : Nat} {p : Option Addr} {l : List It} (h : PR w3 N b p sz l w4) (b3 : Below w.heap.size w w3) (nf : ∀ K, HF N b p K → K < w.heap.size) {r : Nat} (lr : w.heap.size ≤ r) (r3 : r < w3.heap.size) (u0 u1 u2 : Value) :
    PR w N b p sz l (((w4.setCell ⟨r, 0, none⟩ u0).setCell ⟨r, 1, none⟩ u1).setCell ⟨r, 2, none⟩ u2) := by
  obtain ⟨p', c', H4, T4, P4⟩ := h
  have hnew : ∀ K, HF N b p' K → HF N b p K ∨ w3.heap.size ≤ K := by
    rintro K (e | e | ⟨a, ea, e⟩)
    · exact .inl (.inl e)
    · exact .inl (.inr (.inl e))
    · rcases P4 with q | q
      · exact .inl (.inr (.inr ⟨a, by rw [← q]; exact ea, e⟩))
      · exact .inr (by rw [e]; exact q a ea)
  have T0 : FT (HF N b p) w w4 := (FT.of_below b3).trans T4 fun _ hM => .inl hM
  refine ⟨p', c', H4.keep fun K hK => three_far _ ?_ _ _ _, ((T0.setNew (a := ⟨r, 0, none⟩) lr _).setNew (a := ⟨r, 1, none⟩) lr _).setNew (a := ⟨r, 2, none⟩) lr _, ?_⟩
  · rcases hnew K hK with q | q
    · have := nf K q; omega
    · omega
  · rcases P4 with q | q
    · exact .inl q
    · exact .inr fun a ha => Nat.le_trans b3.size (q a ha)

set_option maxHeartbeats 2000000 in
theorem ppop13 (w : World) (N b : Nat) (p : Option Addr) (c sz : Nat) (l : List It) (h : PHp w N b p c sz l) :
    Calls Try.prog 19 #[.pointer (some ⟨N, 0, none⟩)] w fun e w' => e = .returned (.tuple #[itV (popX l), .int .i64 (popE l)]) ∧ PR w N b p sz (popR l) w' := by
  have NC := Lib.hid (newC w)
  have H1 := Lib.hid (h.below NC.out.low)
  have M := Lib.hid (pmade13 H1.out)
  have PM := Lib.hid (pmin13 H1.out)
  have H0 := Lib.hid h
  by_cases z : l.length = 0
  · have F : Hid (∀ w', Below w.heap.size w w' → Ending.returned (.tuple #[itV zeroI, .int .i64 6]) = .returned (.tuple #[itV (popX l), .int .i64 (popE l)]) ∧ PR w N b p sz (popR l) w') := fun w' k => by
      rw [(pop_none z).1, (pop_none z).2.1, (pop_none z).2.2]
      exact ⟨rfl, PR.same H0.out k⟩
    rw [(pop_none z).2.1, show decide (0 < l.length) = false from decide_eq_false (by omega)] at PM
    have ZV : Hid (itV zeroI = .agg #[.int .u64 0, .int .u64 0, .int .i64 0]) := rfl
    rw [ZV.out] at PM
    clear h H1 z H0
    go_enter Try.func19, Try.ntmps19
    go_wp2_with fail
    refine M.out.mono ?_; rintro e w1 ⟨rfl, rfl⟩
    have LN := Lib.hid NC.out.low
    have NB := Lib.hid NC.out.blk
    clear NC M
    obtain ⟨r, hr⟩ : ∃ r, w.heap.size = r := ⟨_, rfl⟩
    have HR := Lib.hid hr
    rw [hr] at NB F LN ⊢
    generalize w.alloc (.cells #[.int .u64 0, .int .u64 0, .int .i64 0] 34) = v at *
    clear hr
    go_upto_region 4 with (go_at_call 24; refine PM.out.mono ?_; rintro e w2 ⟨rfl, b2⟩; have B2 := Lib.hid b2; clear b2 PM)
    have B3 : Hid (Below v.heap.size v (w2.alloc (.cells #[.int .u64 0, .int .u64 0, .int .i64 0] 34))) := B2.out.alloc B2.out.size _
    generalize w2.alloc (.cells #[.int .u64 0, .int .u64 0, .int .i64 0] 34) = v3 at *
    have n3 := (B3.out.block r (Array.getElem?_eq_some_iff.1 NB.out).1).trans NB.out
    have z0 := blk_cell (o := 0) n3
    have z1 := blk_cell (o := 1) n3
    have z2 := blk_cell (o := 2) n3
    have f0 := blk_free (o := 0) n3
    have f1 := blk_free (o := 1) n3
    have f2 := blk_free (o := 2) n3
    have Z := Lib.hid (blk_itm n3 (.int .u64 0) (.int .u64 0) (.int .i64 0))
    have L3 : Below r w v3 := LN.out.trans (B3.out.mono (by rw [← HR.out]; exact LN.out.size))
    have LZ := Lib.hid (((L3.setCell (p := ⟨r, 0, none⟩) (Nat.le_refl _) (.int .u64 0)).setCell (p := ⟨r, 1, none⟩) (Nat.le_refl _) (.int .u64 0)).setCell (p := ⟨r, 2, none⟩) (Nat.le_refl _) (.int .i64 0))
    simp only [List.getElem?_toArray, List.getElem?_cons_zero, List.getElem?_cons_succ] at z0 z1 z2
    clear n3 L3 NB LN B3
    go_wp2
    (try simp only [Exit.inBlock, Exit.then])
    refine bodyPost_ret (results_itp rfl _ _ r zeroI rfl Z.out) rfl ?_
    exact F.out _ LZ.out
  · have l0 : 0 < l.length := by omega
    obtain ⟨x, hx⟩ : ∃ x, gt l 0 = x := ⟨_, rfl⟩
    have pz := place_zero l0
    rw [hx] at pz
    have F : Hid (∀ w', PR w N b p sz (remL l 0) w' → Ending.returned (.tuple #[itV x, .int .i64 0]) = .returned (.tuple #[itV (popX l), .int .i64 (popE l)]) ∧ PR w N b p sz (popR l) w') := fun w' k => by
      rw [(pop_some l0).1, (pop_some l0).2.1, (pop_some l0).2.2, hx]
      exact ⟨rfl, k⟩
    rw [(pop_some l0).2.1, hx, show decide (0 < l.length) = true from decide_eq_true l0] at PM
    have XO : Hid (x.id < 18446744073709551616) := by have := (h.oks _ (gt_mem l0)).a; rw [hx] at this; exact this
    have RM : Hid (∀ w3, PHp w3 N b p c sz l → Calls Try.prog 17 #[.pointer (some ⟨N, 0, none⟩), .int .u64 (x.id : Nat)] w3 fun e w' => e = .returned (.tuple #[itV x, .int .i64 0]) ∧ PR w3 N b p sz (remL l 0) w') := fun w3 h3 => by
      have q := premove13 w3 N b p c sz l x.id h3 XO.out
      rw [(rem_some pz).1, (rem_some pz).2.1, (rem_some pz).2.2, hx] at q
      exact q
    obtain ⟨xi, xs, xt⟩ := x
    unfold itV at PM RM
    dsimp only at PM RM
    clear h z l0 hx pz XO
    go_enter Try.func19, Try.ntmps19
    go_wp2_with fail
    refine M.out.mono ?_; rintro e w1 ⟨rfl, rfl⟩
    have LN := Lib.hid NC.out.low
    have NB := Lib.hid NC.out.blk
    clear NC M
    obtain ⟨r, hr⟩ : ∃ r, w.heap.size = r := ⟨_, rfl⟩
    have HR := Lib.hid hr
    rw [hr] at NB LN ⊢
    generalize w.alloc (.cells #[.int .u64 0, .int .u64 0, .int .i64 0] 34) = v at *
    clear hr
    go_upto_region 4 with (go_at_call 24; refine PM.out.mono ?_; rintro e w2 ⟨rfl, b2⟩; have B2 := Lib.hid b2; clear b2 PM)
    have B3 : Hid (Below v.heap.size v (w2.alloc (.cells #[.int .u64 (xi : Nat), .int .u64 (xs : Nat), .int .i64 xt] 34))) := B2.out.alloc B2.out.size _
    have X3 : Hid ((w2.alloc (.cells #[.int .u64 (xi : Nat), .int .u64 (xs : Nat), .int .i64 xt] 34)).heap[w2.heap.size]? = some (.cells #[.int .u64 (xi : Nat), .int .u64 (xs : Nat), .int .i64 xt] 34 (0, 0))) := heap_alloc_new _ _
    generalize w2.alloc (.cells #[.int .u64 (xi : Nat), .int .u64 (xs : Nat), .int .i64 xt] 34) = v3 at *
    have H3 := Lib.hid (H1.out.below B3.out)
    have N3 := Lib.hid ((B3.out.block r (Array.getElem?_eq_some_iff.1 NB.out).1).trans NB.out)
    have L3 : Hid (Below r w v3) := LN.out.trans (B3.out.mono (by rw [← HR.out]; exact LN.out.size))
    have x0 := blk_cell (o := 0) X3.out
    simp only [List.getElem?_toArray, List.getElem?_cons_zero] at x0
    generalize w2.heap.size = g at *
    clear NB LN B3 H1 X3
    go_wp2_with fail
    refine (RM.out _ H3.out).mono ?_; rintro e w4 ⟨rfl, P4⟩
    have nf : ∀ K, HF N b p K → K < w.heap.size := H0.out.lt
    have R3 : r < v3.heap.size := (Array.getElem?_eq_some_iff.1 N3.out).1
    have n4 : w4.heap[r]? = some (.cells #[.int .u64 0, .int .u64 0, .int .i64 0] 34 (0, 0)) := by
      obtain ⟨p', c', H4, T4, -⟩ := P4
      exact (T4.keep r (fun f => by have := nf r f; have := HR.out; omega) R3).trans N3.out
    have GG := Lib.hid (F.out _ (P4.tell (w := w) (r := r) (by rw [HR.out]; exact L3.out) nf (Nat.le_of_eq HR.out) R3 (.int .u64 (xi : Nat)) (.int .u64 (xs : Nat)) (.int .i64 xt)))
    have BB := Lib.hid (blk_itm n4 (.int .u64 (xi : Nat)) (.int .u64 (xs : Nat)) (.int .i64 xt))
    have z0 := blk_cell (o := 0) n4
    have z1 := blk_cell (o := 1) n4
    have z2 := blk_cell (o := 2) n4
    have f0 := blk_free (o := 0) n4
    have f1 := blk_free (o := 1) n4
    have f2 := blk_free (o := 2) n4
    simp only [List.getElem?_toArray, List.getElem?_cons_zero, List.getElem?_cons_succ] at z0 z1 z2
    clear P4 nf R3 n4 F RM H3 N3 L3 x0 H0
    go_wp2
    (try simp only [Exit.inBlock, Exit.then])
    refine bodyPost_ret (results_itp rfl _ _ r ⟨xi, xs, xt⟩ rfl BB.out) rfl ?_
    exact GG.out

theorem pmin13_none (w : World) : Calls Try.prog 24 #[.pointer none] w fun e w' => e = .returned (.tuple #[itV zeroI, .bool false]) ∧ Below w.heap.size w w' := by
  have NC := Lib.hid (newC w)
  have M := Lib.hid plen13_none
  go_enter Try.func24, Try.ntmps24
  go_wp2_with fail
  have z0 := blk_cell (o := 0) NC.out.blk
  have z1 := blk_cell (o := 1) NC.out.blk
  have z2 := blk_cell (o := 2) NC.out.blk
  have f0 := blk_free (o := 0) NC.out.blk
  have f1 := blk_free (o := 1) NC.out.blk
  have f2 := blk_free (o := 2) NC.out.blk
  have Z := Lib.hid (blk_itm NC.out.blk (.int .u64 0) (.int .u64 0) (.int .i64 0))
  have LZ := Lib.hid (NC.out.tell (.int .u64 0) (.int .u64 0) (.int .i64 0))
  simp only [List.getElem?_toArray, List.getElem?_cons_zero, List.getElem?_cons_succ] at z0 z1 z2
  clear NC
  obtain ⟨r, hr⟩ : ∃ r, w.heap.size = r := ⟨_, rfl⟩
  have HR := Lib.hid hr
  rw [hr] at z0 z1 z2 f0 f1 f2 Z LZ ⊢
  generalize w.alloc (.cells #[.int .u64 0, .int .u64 0, .int .i64 0] 34) = v at *
  refine (M.out _).mono ?_; rintro e w1 ⟨rfl, rfl⟩
  go_wp2
  (try simp only [Exit.inBlock, Exit.then])
  refine bodyPost_ret (results_itp rfl _ _ r zeroI rfl Z.out) rfl ?_
  exact ⟨rfl, by rw [HR.out]; exact LZ.out⟩
theorem pfind13_none (w : World) (d : Nat) : Calls Try.prog 22 #[.pointer none, .int .u64 (d : Nat)] w fun e w' => e = .returned (.tuple #[itV zeroI, .int .i64 0, .bool false]) ∧ Below w.heap.size w w' := by
  have NC := Lib.hid (newC w)
  have M := Lib.hid pplace13_nil
  go_enter Try.func22, Try.ntmps22
  go_wp2_with fail
  have z0 := blk_cell (o := 0) NC.out.blk
  have z1 := blk_cell (o := 1) NC.out.blk
  have z2 := blk_cell (o := 2) NC.out.blk
  have f0 := blk_free (o := 0) NC.out.blk
  have f1 := blk_free (o := 1) NC.out.blk
  have f2 := blk_free (o := 2) NC.out.blk
  have Z := Lib.hid (blk_itm NC.out.blk (.int .u64 0) (.int .u64 0) (.int .i64 0))
  have LZ := Lib.hid (NC.out.tell (.int .u64 0) (.int .u64 0) (.int .i64 0))
  simp only [List.getElem?_toArray, List.getElem?_cons_zero, List.getElem?_cons_succ] at z0 z1 z2
  clear NC
  obtain ⟨r, hr⟩ : ∃ r, w.heap.size = r := ⟨_, rfl⟩
  have HR := Lib.hid hr
  rw [hr] at z0 z1 z2 f0 f1 f2 Z LZ ⊢
  generalize w.alloc (.cells #[.int .u64 0, .int .u64 0, .int .i64 0] 34) = v at *
  refine (M.out _ d).mono ?_; rintro e w1 ⟨rfl, rfl⟩
  go_wp2
  (try simp only [Exit.inBlock, Exit.then])
  refine bodyPost_ret (results_itp3 rfl _ _ r zeroI rfl Z.out) rfl ?_
  exact ⟨rfl, by rw [HR.out]; exact LZ.out⟩
theorem premove13_none (w : World) (d : Nat) : Calls Try.prog 17 #[.pointer none, .int .u64 (d : Nat)] w fun e w' => e = .returned (.tuple #[itV zeroI, .int .i64 2]) ∧ Below w.heap.size w w' := by
  have NC := Lib.hid (newC w)
  have M := Lib.hid pplace13_nil
  go_enter Try.func17, Try.ntmps17
  go_wp2_with fail
  have z0 := blk_cell (o := 0) NC.out.blk
  have z1 := blk_cell (o := 1) NC.out.blk
  have z2 := blk_cell (o := 2) NC.out.blk
  have f0 := blk_free (o := 0) NC.out.blk
  have f1 := blk_free (o := 1) NC.out.blk
  have f2 := blk_free (o := 2) NC.out.blk
  have Z := Lib.hid (blk_itm NC.out.blk (.int .u64 0) (.int .u64 0) (.int .i64 0))
  have LZ := Lib.hid (NC.out.tell (.int .u64 0) (.int .u64 0) (.int .i64 0))
  simp only [List.getElem?_toArray, List.getElem?_cons_zero, List.getElem?_cons_succ] at z0 z1 z2
  clear NC
  obtain ⟨r, hr⟩ : ∃ r, w.heap.size = r := ⟨_, rfl⟩
  have HR := Lib.hid hr
  rw [hr] at z0 z1 z2 f0 f1 f2 Z LZ ⊢
  generalize w.alloc (.cells #[.int .u64 0, .int .u64 0, .int .i64 0] 34) = v at *
  refine (M.out _ d).mono ?_; rintro e w1 ⟨rfl, rfl⟩
  go_wp2
  (try simp only [Exit.inBlock, Exit.then])
  refine bodyPost_ret (results_itp rfl _ _ r zeroI rfl Z.out) rfl ?_
  exact ⟨rfl, by rw [HR.out]; exact LZ.out⟩
theorem ppop13_none (w : World) : Calls Try.prog 19 #[.pointer none] w fun e w' => e = .returned (.tuple #[itV zeroI, .int .i64 2]) ∧ Below w.heap.size w w' := by
  have NC := Lib.hid (newC w)
  have M := Lib.hid pmade13_none
  go_enter Try.func19, Try.ntmps19
  go_wp2_with fail
  have z0 := blk_cell (o := 0) NC.out.blk
  have z1 := blk_cell (o := 1) NC.out.blk
  have z2 := blk_cell (o := 2) NC.out.blk
  have f0 := blk_free (o := 0) NC.out.blk
  have f1 := blk_free (o := 1) NC.out.blk
  have f2 := blk_free (o := 2) NC.out.blk
  have Z := Lib.hid (blk_itm NC.out.blk (.int .u64 0) (.int .u64 0) (.int .i64 0))
  have LZ := Lib.hid (NC.out.tell (.int .u64 0) (.int .u64 0) (.int .i64 0))
  simp only [List.getElem?_toArray, List.getElem?_cons_zero, List.getElem?_cons_succ] at z0 z1 z2
  clear NC
  obtain ⟨r, hr⟩ : ∃ r, w.heap.size = r := ⟨_, rfl⟩
  have HR := Lib.hid hr
  rw [hr] at z0 z1 z2 f0 f1 f2 Z LZ ⊢
  generalize w.alloc (.cells #[.int .u64 0, .int .u64 0, .int .i64 0] 34) = v at *
  refine (M.out _).mono ?_; rintro e w1 ⟨rfl, rfl⟩
  go_wp2
  (try simp only [Exit.inBlock, Exit.then])
  refine bodyPost_ret (results_itp rfl _ _ r zeroI rfl Z.out) rfl ?_
  exact ⟨rfl, by rw [HR.out]; exact LZ.out⟩
end Go.Proofs.Ytlfbenlojiiknaa
