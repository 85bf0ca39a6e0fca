/- Layer 14 (timers), the program's own: Reset, Cancel of one that is not there, Next, Len. -/
import Derived.Test.YtbfmmeapjfljbaaTmJ
set_option maxRecDepth 100000
namespace Go.Proofs.Ytbfmmeapjfljbaa
open Go.ChangeShapes Go.WideShapes Go.ChangeAt Go.RowKit Go.Maps HeapM

/-- One is set again. -/
def resS (s : TS) (k : Bool) (j d : Nat) (a e : Int) : TS := ⟨updB s.l k (setL (s.l k) j ⟨d, s.ca + 1, a⟩), updN s.ev d e, s.ad, s.ca + 1⟩
theorem ok_ca {s : TS} (h : s.Ok) {ca : Nat} (hc : s.ca ≤ ca) (sm : ca < 18446744073709551616) : (⟨s.l, s.ev, s.ad, ca⟩ : TS).Ok :=
  ⟨h.nod, h.far, h.heap, h.tim, h.evs, fun k x hx => ⟨(h.ids k x hx).1, (h.ids k x hx).2.1, Nat.le_trans (h.ids k x hx).2.2 hc⟩, h.many, ⟨h.small.1, sm⟩⟩
theorem tl_ca {s : TS} {D : DataW Unit} (t : TlD D s) (ca : Nat) : TlD D ⟨s.l, s.ev, s.ad, ca⟩ := ⟨t.tidy, t.has, t.at_, t.size⟩

set_option maxHeartbeats 4000000 in
theorem preset14 (w : World) (F : Nat → Prop) (N : Nat) (s : TS) (h : TmP w F N s) (k : Bool) (d j : Nat) (a e : Int) (hp : place (s.l k) d = some j) (a0 : 0 ≤ a) (a1 : a ≤ topT) (e0 : 0 ≤ e) (e1 : e ≤ topT) (sm : s.ca + 1 < 18446744073709551616) :
    Calls Try.prog 10 #[.pointer (some ⟨N, 0, none⟩), .int .u64 (d : Nat), .int .i64 a, .int .i64 e] w fun r w' => r = .returned (.int .i64 0) ∧ TmR w F N (resS s k j d a e) w' := by
  obtain ⟨b, R, G, D, rfl, T, P, O⟩ := h
  obtain ⟨hj, hid⟩ := place_some hp
  have gx := gt_mem hj
  have hdn : d < 18446744073709551616 := by
    have := O.ids k _ gx
    rw [hid] at this
    have := O.small.1
    omega
  obtain ⟨t0', ht0⟩ : ∃ t, (gt (s.l k) j).t = t := ⟨_, rfl⟩
  obtain ⟨e0', he0⟩ : ∃ t, s.ev d = t := ⟨_, rfl⟩
  have AT := P.at_ k _ gx (datT zeroTr)
  rw [hid, ht0, he0] at AT
  have HS := (P.has d).2 ⟨k, by rw [← hid]; exact List.mem_map.2 ⟨_, gx, rfl⟩⟩
  have FI := Lib.hid (pfind14 T hdn ⟨k, t0', e0'⟩ true 0 AT HS (.inl ⟨rfl, rfl⟩))
  have LT := Lib.hid T.lt
  have HT := Lib.hid T
  have PO : Hid (TlD D s ∧ s.Ok) := ⟨P, O⟩
  have PL := Lib.hid hp
  have MY : Hid (∀ w', Calls Try.prog 14 #[.agg #[.bool k, .int .i64 a, .int .i64 e]] w' fun r w'' => r = .returned (.bool true) ∧ Below w'.heap.size w' w'') := fun w' => pmay14 w' k a e a0 a1 e0 e1
  have BD : Hid ((0 ≤ a ∧ a ≤ topT) ∧ (0 ≤ e ∧ e ≤ topT)) := ⟨⟨a0, a1⟩, ⟨e0, e1⟩⟩
  obtain ⟨y1, hy1⟩ : ∃ y, s.ca + 1 = y := ⟨_, rfl⟩
  have HY := Lib.hid hy1
  have e1y : ((s.ca : Nat) : Int) + 1 = (y1 : Nat) := by omega
  have wy : IntKind.u64.wrap ((y1 : Nat) : Int) = (y1 : Nat) := by rw [IntKind.wrap_u64]; omega
  have SM : Hid (y1 < 18446744073709551616) := by unfold Hid; omega
  unfold resS
  rw [hy1]
  clear T P O hp a0 a1 e0 e1 sm gx hj hid hdn ht0 he0 AT HS hy1
  go_enter Try.func10, Try.ntmps10
  go_wp2_with fail
  refine FI.out.mono ?_; rintro r1 w1 ⟨rfl, l1⟩
  have L1 := Lib.hid l1
  clear FI l1
  unfold trV
  dsimp only
  go_upto_region 4 with (fail)
  have B2 : Hid ((w1.alloc (.cells #[.bool k, .int .i64 t0', .int .i64 e0'] 25)).heap[w1.heap.size]? = some (.cells #[.bool k, .int .i64 t0', .int .i64 e0'] 25 (0, 0))) := heap_alloc_new _ _
  have L2 : Hid (Below w.heap.size w (w1.alloc (.cells #[.bool k, .int .i64 t0', .int .i64 e0'] 25))) := L1.out.alloc L1.out.size _
  have NB : Hid (¬ FF N b G w1.heap.size ∧ w.heap.size ≤ w1.heap.size) := ⟨fun q => by have := LT.out _ q; have := L1.out.size; omega, L1.out.size⟩
  generalize w1.alloc (.cells #[.bool k, .int .i64 t0', .int .i64 e0'] 25) = v2 at *
  generalize w1.heap.size = bt at *
  clear L1
  have z1 := blk_cell (o := 1) B2.out
  have z2 := blk_cell (o := 2) B2.out
  have f1 := blk_free (o := 1) B2.out
  have f2 := blk_free (o := 2) B2.out
  simp only [List.getElem?_toArray, List.getElem?_cons_zero, List.getElem?_cons_succ] at z1 z2
  have B3 : Hid (((v2.setCell ⟨bt, 1, none⟩ (.int .i64 a)).setCell ⟨bt, 2, none⟩ (.int .i64 e)).heap[bt]? = some (.cells #[.bool k, .int .i64 a, .int .i64 e] 25 (0, 0))) := by
    have h1 : (v2.setCell ⟨bt, 1, none⟩ (.int .i64 a)).heap[bt]? = some (.cells #[.bool k, .int .i64 a, .int .i64 e0'] 25 (0, 0)) := blk_set B2.out
    exact blk_set h1
  have L3 : Hid (Below w.heap.size w ((v2.setCell ⟨bt, 1, none⟩ (.int .i64 a)).setCell ⟨bt, 2, none⟩ (.int .i64 e))) := (L2.out.setCell (p := ⟨bt, 1, none⟩) NB.out.2 _).setCell (p := ⟨bt, 2, none⟩) NB.out.2 _
  go_upto_region 5 with (fail)
  generalize (v2.setCell ⟨bt, 1, none⟩ (.int .i64 a)).setCell ⟨bt, 2, none⟩ (.int .i64 e) = v3 at *
  clear z1 z2 f1 f2 B2 L2
  have z0 := blk_cell (o := 0) B3.out
  have z1 := blk_cell (o := 1) B3.out
  have z2 := blk_cell (o := 2) B3.out
  simp only [List.getElem?_toArray, List.getElem?_cons_zero, List.getElem?_cons_succ] at z0 z1 z2
  go_wp2_with fail
  refine (MY.out _).mono ?_; rintro r5 w4 ⟨rfl, l4⟩
  have H4 := Lib.hid (HT.out.below (L3.out.trans (l4.mono L3.out.size)))
  have L4 := Lib.hid (L3.out.trans (l4.mono L3.out.size))
  have B4 := Lib.hid ((l4.block _ (Array.getElem?_eq_some_iff.1 B3.out).1).trans B3.out)
  clear z0 z1 z2 B3 L3 l4 MY HT
  have c4 := H4.out.c4
  have f4 := blk_free (o := 4) H4.out.bk
  have H5 := Lib.hid (H4.out.set4 y1)
  have B5 : Hid ((w4.setCell ⟨N, 4, none⟩ (.int .u64 (y1 : Nat))).heap[bt]? = some (.cells #[.bool k, .int .i64 a, .int .i64 e] 25 (0, 0))) := (Go.Deep.blk_setCell_other _ _ _ _ (fun q => NB.out.1 (.inl q))).trans B4.out
  go_upto_region 8 with (fail)
  have T5 := Lib.hid ((FT.of_below (F := FF N b G) L4.out).same H5.out.2)
  generalize w4.setCell ⟨N, 4, none⟩ (.int .u64 (y1 : Nat)) = v5 at *
  have H5 := Lib.hid H5.out.1
  clear c4 f4 H4 B4 L4
  have CX : Hid (∀ w' : World, w'.heap[bt]? = some (.cells #[.bool k, .int .i64 a, .int .i64 e] 25 (0, 0)) → w'.cell? ⟨N, 4, none⟩ = some (.int .u64 (y1 : Nat)) → w'.cell? ⟨bt, 0, none⟩ = some (.bool k) ∧ w'.cell? ⟨bt, 1, none⟩ = some (.int .i64 a) ∧ w'.cell? ⟨bt, 2, none⟩ = some (.int .i64 e) ∧ w'.cell? ⟨N, 4, none⟩ = some (.int .u64 (y1 : Nat))) := fun w' h g => ⟨blk_cell h, blk_cell h, blk_cell h, g⟩
  have SC : Hid (∀ w', Below v5.heap.size v5 w' → Calls Try.prog 21 #[.pointer (some ⟨N, 0, none⟩), .int .u64 (d : Nat), .int .u64 (y1 : Nat), .agg #[.bool k, .int .i64 a, .int .i64 e]] w' fun r w'' => r = .returned (.tuple #[]) ∧ TmR w (FF N b G) N ⟨updB s.l k (setL (s.l k) j ⟨d, y1, a⟩), updN s.ev d e, s.ad, y1⟩ w'' ∧ w''.cell? ⟨bt, 0, none⟩ = some (.bool k) ∧ w''.cell? ⟨bt, 1, none⟩ = some (.int .i64 a) ∧ w''.cell? ⟨bt, 2, none⟩ = some (.int .i64 e) ∧ w''.cell? ⟨N, 4, none⟩ = some (.int .u64 (y1 : Nat))) := fun w' b5 => by
    have T6 : TmP w' (FF N b G) N ⟨s.l, s.ev, s.ad, y1⟩ := ⟨b, R, G, D, rfl, H5.out.below b5, tl_ca PO.out.1 y1, ok_ca PO.out.2 (by have := HY.out; omega) SM.out⟩
    refine (pset14 w' _ N _ T6 k d y1 j a e PL.out BD.out.1.1 BD.out.1.2 BD.out.2.1 BD.out.2.2 (Nat.le_refl _)).mono fun r w'' ⟨r1, F6, h6, t6, n6⟩ => ?_
    have T7 : FT (FF N b G) w w' := T5.out.same (FT.of_below b5)
    have B7 : w'.heap[bt]? = _ := (b5.block _ (Array.getElem?_eq_some_iff.1 B5.out).1).trans B5.out
    refine ⟨r1, ⟨F6, h6, T7.same t6, fun M hM => ?_⟩, CX.out _ ((t6.keep bt NB.out.1 (Array.getElem?_eq_some_iff.1 B7).1).trans B7) ?_⟩
    · rcases n6 M hM with q | q
      · exact .inl q
      · exact .inr (Nat.le_trans T7.size q)
    · obtain ⟨b8, R8, G8, D8, -, tb8, -, -⟩ := h6
      exact tb8.c4
  have HB0 : Below v5.heap.size v5 v5 := Below.refl _ _
  have BB : Hid (∀ w', Below v5.heap.size v5 w' → w'.cell? ⟨bt, 0, none⟩ = some (.bool k) ∧ w'.cell? ⟨bt, 1, none⟩ = some (.int .i64 a) ∧ w'.cell? ⟨bt, 2, none⟩ = some (.int .i64 e) ∧ w'.cell? ⟨N, 4, none⟩ = some (.int .u64 (y1 : Nat))) := fun w' b5 => CX.out _ ((b5.block _ (Array.getElem?_eq_some_iff.1 B5.out).1).trans B5.out) (H5.out.below b5).c4
  clear B5 PL BD HY SM
  go_wp2_with fail
  go_region_held3 (fun w' => w'.cell? ⟨bt, 0, none⟩ = some (.bool k) ∧ w'.cell? ⟨bt, 1, none⟩ = some (.int .i64 a) ∧ w'.cell? ⟨bt, 2, none⟩ = some (.int .i64 e) ∧ w'.cell? ⟨N, 4, none⟩ = some (.int .u64 (y1 : Nat)))
    (first | exact BB.out _ HB0 | exact BB.out _ HB0.drew | exact HS)
    (first
      | (go_at_call 21; refine (SC.out _ (by first | exact HB0 | exact HB0.drew)).mono ?_; rintro r6 w6 ⟨rfl, DN, HS⟩; have DN := Lib.hid DN))
  clear HS
  go_wp2
  go_ret
  exact ⟨rfl, DN.out⟩

/-- Of one that is not there. -/
theorem pcancel14_none (w : World) (F : Nat → Prop) (N : Nat) (s : TS) (h : TmP w F N s) (d : Nat) (hd : d < 18446744073709551616) (n : ∀ k, d ∉ (s.l k).map It.id) :
    Calls Try.prog 19 #[.pointer (some ⟨N, 0, none⟩), .int .u64 (d : Nat)] w fun r w' => r = .returned (.int .i64 6) ∧ Below w.heap.size w w' := by
  obtain ⟨b, R, G, D, rfl, T, P, O⟩ := h
  obtain ⟨e1, e2⟩ := P.none n (datT zeroTr)
  have FI := Lib.hid (pfind14 T hd zeroTr false 6 e2 e1 (.inr ⟨rfl, rfl, rfl⟩))
  clear T P O n e1 e2 hd
  go_enter Try.func19, Try.ntmps19
  go_wp2_with fail
  refine FI.out.mono ?_; rintro r1 w1 ⟨rfl, l1⟩
  have L2 : Hid (Below w.heap.size w (w1.alloc (.cells #[.bool false, .int .i64 0, .int .i64 0] 25))) := l1.alloc l1.size _
  clear FI l1
  unfold trV zeroTr
  dsimp only
  go_wp2
  go_ret
  exact ⟨rfl, L2.out⟩

/-- The least one of a kind. -/
theorem pNext14 (w : World) (F : Nat → Prop) (N : Nat) (s : TS) (h : TmP w F N s) (k : Bool) :
    Calls Try.prog 18 #[.pointer (some ⟨N, 0, none⟩), .bool k] w fun r w' => r = .returned (.tuple #[.int .i64 (popX (s.l k)).t, .bool (decide (0 < (s.l k).length))]) ∧ Below w.heap.size w w' := by
  obtain ⟨b, R, G, D, rfl, T, P, O⟩ := h
  have M := Lib.hid (pmade14 T)
  have RW := Lib.hid (prow14 T k)
  obtain ⟨b', p', c', eF, Q⟩ := T.hq k
  have MI := Lib.hid (pmin13 Q)
  obtain ⟨x, hx⟩ : ∃ x, popX (s.l k) = x := ⟨_, rfl⟩
  obtain ⟨z, hz⟩ : ∃ z, decide (0 < (s.l k).length) = z := ⟨_, rfl⟩
  rw [hx, hz] at MI ⊢
  obtain ⟨xi, xs, xt⟩ := x
  unfold itV at MI
  dsimp only at MI ⊢
  clear T P O hx hz Q eF
  go_enter Try.func18, Try.ntmps18
  go_wp2_with (first
    | (go_at_call 13; refine M.out.mono ?_; rintro e w1 ⟨rfl, rfl⟩)
    | (go_at_call 15; refine RW.out.mono ?_; rintro e w2 ⟨rfl, rfl⟩)
    | (go_at_call 24; refine MI.out.mono ?_; rintro e w3 ⟨rfl, l3⟩; have L3 := Lib.hid (l3.alloc l3.size (.cells #[.int .u64 (xi : Nat), .int .u64 (xs : Nat), .int .i64 xt] 55)); clear l3))
  go_ret2
  exact ⟨rfl, L3.out⟩

/-- How many. -/
theorem pLen14 (w : World) (F : Nat → Prop) (N : Nat) (s : TS) (h : TmP w F N s) :
    Calls Try.prog 11 #[.pointer (some ⟨N, 0, none⟩)] w fun r w' => r = .returned (.int .i64 ((s.l false).length + (s.l true).length : Nat)) ∧ w' = w := by
  obtain ⟨b, R, G, D, rfl, T, P, O⟩ := h
  have M := Lib.hid (pmade14 T)
  have c2 := T.c2
  have LR := T.mp.len_run
  rw [P.size] at LR
  obtain ⟨n, hn⟩ : ∃ n, (s.l false).length + (s.l true).length = n := ⟨_, rfl⟩
  rw [hn] at LR ⊢
  clear T P O hn
  go_enter Try.func11, Try.ntmps11
  go_wp2_with (go_at_call 13; refine M.out.mono ?_; rintro e w1 ⟨rfl, rfl⟩)
  go_ret
  exact ⟨rfl, rfl⟩
end Go.Proofs.Ytbfmmeapjfljbaa
