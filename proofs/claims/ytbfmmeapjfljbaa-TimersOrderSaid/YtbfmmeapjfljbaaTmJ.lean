/- Layer 14 (timers), the program's own: Add. -/
import Derived.Test.YtbfmmeapjfljbaaTmI
set_option maxRecDepth 100000
namespace Go.Proofs.Ytbfmmeapjfljbaa
open Go.ChangeShapes Go.WideShapes Go.ChangeAt Go.RowKit Go.Maps HeapM

/-- One more timer. -/
def addS (s : TS) (k : Bool) (a e : Int) : TS := ⟨updB s.l k (pushL (s.l k) ⟨s.ad + 1, s.ca + 1, a⟩), updN s.ev (s.ad + 1) e, s.ad + 1, s.ca + 1⟩
theorem add_state {s : TS} {D : DataW Unit} (h : s.Ok) (t : TlD D s) {k : Bool} {a e : Int} (a0 : 0 ≤ a) (a1 : a ≤ topT) (e0 : 0 ≤ e) (e1 : e ≤ topT) (sm : s.ad + 1 < 18446744073709551616 ∧ s.ca + 1 < 18446744073709551616) (len : (s.l false).length + (s.l true).length < 256) :
    (addS s k a e).Ok ∧ TlD (D.put (kq (s.ad + 1)) (datT ⟨k, a, e⟩)) (addS s k a e) := by
  have M := fun y => mem_push (l := s.l k) (x := ⟨s.ad + 1, s.ca + 1, a⟩) (y := y)
  have new : ∀ j, ∀ y ∈ s.l j, y.id ≠ s.ad + 1 := fun j y hy => by have := (h.ids j y hy).2.1; omega
  have np : place (s.l k) (s.ad + 1) = none := place_not fun i hi => new k _ (gt_mem hi)
  have lk : (s.l k).length + (s.l (!k)).length < 256 := by
    cases k
    · exact len
    · show (s.l true).length + (s.l false).length < 256; omega
  unfold addS
  constructor
  · refine Ok_put h k _ _ _ _ (push_nod (h.nod k) np) (push_heap _ (h.heap k)) (fun x hx => ?_) (fun x hx y hy => ?_) (fun x hx => ?_) (fun f => ?_) (by rw [push_len]; omega) (Nat.le_succ _) (Nat.le_succ _) sm
    · rcases (M x).1 hx with rfl | c
      · exact ⟨a0, a1⟩
      · exact h.tim k x c
    · rcases (M x).1 hx with rfl | c
      · exact fun e => new (!k) y hy e.symm
      · exact h.far k x c y hy
    · rcases (M x).1 hx with rfl | c
      · exact ⟨Nat.succ_le_succ (Nat.zero_le _), Nat.le_refl _, Nat.le_refl _⟩
      · have := h.ids k x c
        exact ⟨this.1, by omega, by omega⟩
    · by_cases c : f = s.ad + 1
      · rw [c, updN_same]; exact ⟨e0, e1⟩
      · rw [updN_other _ c]; exact h.evs f
  · refine t.put (z := ⟨s.ad + 1, s.ca + 1, a⟩) (fun y => ?_) (fun y hy => new (!k) y hy) ?_
    · rw [M]
      constructor
      · rintro (c | c)
        · exact .inl c
        · exact .inr ⟨c, new k y c⟩
      · rintro (c | c)
        · exact .inl c
        · exact .inr c.1
    · have nh : Maps.has D (kq (s.ad + 1)) = false := (t.none (d := s.ad + 1) (fun j q => by
        obtain ⟨y, hy, e⟩ := List.mem_map.1 q
        exact new j y hy e) (datT zeroTr)).1
      rw [push_len, if_neg (by rw [nh]; decide)]

theorem MapT.len_run {w : World} {m n : Nat} {D : DataW Unit} (h : MapT w m n D) (ty : TypeId) : (Builtin.len_ #[44] ty #[.map (some m)]).run Try.prog w = .ok (.int .i64 (Maps.size D)) w := World.ownsMap.len h Try.underlying44 ty
theorem TlD.lt {D : DataW Unit} {s : TS} (t : TlD D s) (len : (s.l false).length + (s.l true).length < 256) : Maps.size D < 256 := by rw [t.size]; exact len

/-- A box beside timers. -/
theorem box_kept {w w' : World} {N b bx : Nat} {G : Bool → Nat → Prop} {cs : Array Value} {T : TypeId} (h : w.heap[bx]? = some (.cells cs T (0, 0))) (t : FT (FF N b G) w w') (n : ¬ FF N b G bx) : w'.heap[bx]? = some (.cells cs T (0, 0)) := (t.keep bx n (Array.getElem?_eq_some_iff.1 h).1).trans h

set_option maxHeartbeats 4000000 in
theorem padd14 (w : World) (F : Nat → Prop) (N : Nat) (s : TS) (h : TmP w F N s) (k : Bool) (a e : Int) (a0 : 0 ≤ a) (a1 : a ≤ topT) (e0 : 0 ≤ e) (e1 : e ≤ topT) (sm : s.ad + 1 < 18446744073709551616 ∧ s.ca + 1 < 18446744073709551616) (len : (s.l false).length + (s.l true).length < 256) :
    Calls Try.prog 7 #[.pointer (some ⟨N, 0, none⟩), .agg #[.bool k, .int .i64 a, .int .i64 e]] w fun r w' => r = .returned (.tuple #[.int .u64 (s.ad + 1 : Nat), .int .i64 0]) ∧ TmR w F N (addS s k a e) w' := by
  obtain ⟨b, R, G, D, rfl, T, P, O⟩ := h
  have ST := Lib.hid (add_state (k := k) (a := a) (e := e) O P a0 a1 e0 e1 sm len)
  have IO : Hid (ItOk ⟨s.ad + 1, s.ca + 1, a⟩) := ⟨sm.1, sm.2, by show (-9223372036854775808 : Int) ≤ a; omega, by show a ≤ 9223372036854775807; unfold topT at a1; omega⟩
  have PI : Hid (pushE (256 : Nat) (s.l k) ⟨s.ad + 1, s.ca + 1, a⟩ = 0 ∧ pushR (256 : Nat) (s.l k) ⟨s.ad + 1, s.ca + 1, a⟩ = pushL (s.l k) ⟨s.ad + 1, s.ca + 1, a⟩) :=
    push_in (place_not fun i hi e => by have := (O.ids k _ (gt_mem hi)).2.1; have e' : (gt (s.l k) i).id = s.ad + 1 := e; omega) (by have : (s.l k).length ≤ (s.l false).length + (s.l true).length := (by cases k <;> omega); omega)
  have AL : Below w.heap.size w (w.alloc (.cells #[.bool k, .int .i64 a, .int .i64 e] 25)) := (Below.refl _ _).alloc (Nat.le_refl _) _
  have BX : Hid ((w.alloc (.cells #[.bool k, .int .i64 a, .int .i64 e] 25)).heap[w.heap.size]? = some (.cells #[.bool k, .int .i64 a, .int .i64 e] 25 (0, 0))) := heap_alloc_new _ _
  have H1 := Lib.hid (T.below AL)
  have L1 := Lib.hid AL
  have M := Lib.hid (pmade14 H1.out)
  have NBX : Hid (¬ FF N b G w.heap.size) := fun q => by have := T.lt _ q; omega
  have t0 := blk_cell (o := 0) BX.out
  have t1 := blk_cell (o := 1) BX.out
  have t2 := blk_cell (o := 2) BX.out
  simp only [List.getElem?_toArray, List.getElem?_cons_zero, List.getElem?_cons_succ] at t0 t1 t2
  have MY : Hid (∀ w', Calls Try.prog 14 #[.agg #[.bool k, .int .i64 a, .int .i64 e]] w' fun r w'' => r = .returned (.bool true) ∧ Below w'.heap.size w' w'') := fun w' => pmay14 w' k a e a0 a1 e0 e1
  have NM : Hid (Maps.size D < maxLen) := by have := P.lt len; unfold Hid maxLen; omega
  have m1 : (((Maps.size D : Nat) : Int) == 256) = false := by rw [beq_eq_false_iff_ne]; have := P.lt len; omega
  have m2 : (Maps.size D == 256) = false := by rw [beq_eq_false_iff_ne]; have := P.lt len; omega
  have m3 : ¬ ((Maps.size D : Nat) : Int) = 256 := by have := P.lt len; omega
  obtain ⟨x1, hx1⟩ : ∃ x, s.ad + 1 = x := ⟨_, rfl⟩
  obtain ⟨y1, hy1⟩ : ∃ y, s.ca + 1 = y := ⟨_, rfl⟩
  have XY : Hid (s.ad + 1 = x1 ∧ s.ca + 1 = y1) := ⟨hx1, hy1⟩
  have e1x : ((s.ad : Nat) : Int) + 1 = (x1 : Nat) := by omega
  have e1y : ((s.ca : Nat) : Int) + 1 = (y1 : Nat) := by omega
  have wx : IntKind.u64.wrap ((x1 : Nat) : Int) = (x1 : Nat) := by rw [IntKind.wrap_u64]; omega
  have wy : IntKind.u64.wrap ((y1 : Nat) : Int) = (y1 : Nat) := by rw [IntKind.wrap_u64]; omega
  have KX : Hid (keyOf Try.prog 28 (.int .u64 (x1 : Nat)) = some (kq x1)) := kq_of (by omega)
  have RN : Hid (RT (.agg #[.bool k, .int .i64 a, .int .i64 e]) = some (datT ⟨k, a, e⟩, [])) := RT_mk ⟨k, a, e⟩
  rw [hx1]
  clear T AL a0 a1 e0 e1 sm len hx1 hy1 P O
  go_enter Try.func7, Try.ntmps7
  go_wp2_with fail
  refine M.out.mono ?_; rintro e5 w1 ⟨rfl, rfl⟩
  clear M
  obtain ⟨bx, hbx⟩ : ∃ bx, w.heap.size = bx := ⟨_, rfl⟩
  have HX := Lib.hid hbx
  rw [hbx] at BX NBX t0 t1 t2 ⊢
  clear hbx
  generalize w.alloc (.cells #[.bool k, .int .i64 a, .int .i64 e] 25) = v at *
  go_wp2_with fail
  refine (MY.out _).mono ?_; rintro e5 w1 ⟨rfl, l1⟩
  have H2 := Lib.hid (H1.out.below l1)
  have B2 := Lib.hid ((l1.block _ (Array.getElem?_eq_some_iff.1 BX.out).1).trans BX.out)
  have L2 := Lib.hid (L1.out.trans (l1.mono L1.out.size))
  clear H1 BX L1 l1 t0 t1 t2 MY
  have c2 := H2.out.c2
  have c3 := H2.out.c3
  have c4 := H2.out.c4
  have f3 := blk_free (o := 3) H2.out.bk
  have LR := H2.out.mp.len_run
  have H3 := Lib.hid ((H2.out.set3 x1).1.set4 y1)
  have T3 := Lib.hid (((FT.of_below (F := FF N b G) L2.out).same (H2.out.set3 x1).2).same H3.out.2)
  have c5 := (H2.out.set3 x1).1.c4
  have f5 := blk_free (o := 4) (H2.out.set3 x1).1.bk
  go_upto_region 9 with (fail)
  have B3 : Hid (((w1.setCell ⟨N, 3, none⟩ (.int .u64 (x1 : Nat))).setCell ⟨N, 4, none⟩ (.int .u64 (y1 : Nat))).heap[bx]? = some (.cells #[.bool k, .int .i64 a, .int .i64 e] 25 (0, 0))) :=
    ((Go.Deep.blk_setCell_other _ _ _ _ (fun q => NBX.out (.inl q))).trans (Go.Deep.blk_setCell_other _ _ _ _ (fun q => NBX.out (.inl q)))).trans B2.out
  clear c2 c3 c4 c5 f3 f5 LR H2 B2 L2
  generalize (w1.setCell ⟨N, 3, none⟩ (.int .u64 (x1 : Nat))).setCell ⟨N, 4, none⟩ (.int .u64 (y1 : Nat)) = v3 at *
  have H3 := Lib.hid H3.out.1
  have c2 := H3.out.c2
  have c3 := H3.out.c3
  have t0 := blk_cell (o := 0) B3.out
  have t1 := blk_cell (o := 1) B3.out
  have t2 := blk_cell (o := 2) B3.out
  simp only [List.getElem?_toArray, List.getElem?_cons_zero, List.getElem?_cons_succ] at t0 t1 t2
  go_still_tail 9, (by kernel_rfl)
  change wpList _ _ _ _ _ v3.drew
  refine wpList_mapUpdate_in _ rfl _ _ _ 44 rfl 28 25 law64 Try.underlying44 RT b (Maps.size D) D rfl (World.ownsMap.drew H3.out.mp) NM.out _ _ _ rfl rfl KX.out _ [] RN.out ?_
  intro w4 m4 u4
  have M4 := (H3.out.below (w' := v3.drew) (Below.refl _ _).drew).map m4 u4
  have g4 := u4.grown
  have X4 : w4.heap[bx]? = some (.cells #[.bool k, .int .i64 a, .int .i64 e] 25 (0, 0)) :=
    (g4.block bx (Array.getElem?_eq_some_iff.1 (show v3.drew.heap[bx]? = _ from B3.out)).1 (fun q => by injection q with q; exact NBX.out (.inr (.inl q)))).trans B3.out
  have T4 : FT (FF N b G) w w4 := (T3.out.drew).same M4.2
  have H4 := Lib.hid M4.1
  have CX : Hid (∀ w' : World, w'.heap[bx]? = some (.cells #[.bool k, .int .i64 a, .int .i64 e] 25 (0, 0)) → w'.heap[N]? = some (.cells (tmC R b x1 y1) 48 (0, 0)) → w'.cell? ⟨bx, 0, none⟩ = some (.bool k) ∧ w'.cell? ⟨bx, 1, none⟩ = some (.int .i64 a) ∧ w'.cell? ⟨N, 3, none⟩ = some (.int .u64 (x1 : Nat)) ∧ w'.cell? ⟨N, 4, none⟩ = some (.int .u64 (y1 : Nat))) := fun w' h g => ⟨blk_cell h, blk_cell h, blk_cell g, blk_cell g⟩
  have RW : Hid (∀ w', Below w4.heap.size w4 w' → Calls Try.prog 15 #[.pointer (some ⟨N, 0, none⟩), .bool k] w' fun e w'' => e = .returned (.pointer (some ⟨R k, 0, none⟩)) ∧ Below w4.heap.size w4 w'') := fun w' b4 => (prow14 (H4.out.below b4) k).mono fun e w'' ⟨e1, e2⟩ => ⟨e1, by rw [e2]; exact b4⟩
  have BB : Hid (∀ w', Below w4.heap.size w4 w' → w'.heap[bx]? = some (.cells #[.bool k, .int .i64 a, .int .i64 e] 25 (0, 0))) := fun w' b4 => (b4.block bx (Array.getElem?_eq_some_iff.1 X4).1).trans X4
  have BN : Hid (∀ w', Below w4.heap.size w4 w' → w'.heap[N]? = some (.cells (tmC R b x1 y1) 48 (0, 0))) := fun w' b4 => (b4.block N (Array.getElem?_eq_some_iff.1 H4.out.bk).1).trans H4.out.bk
  rw [XY.out.1, XY.out.2] at IO PI
  have SC : Hid (∀ w', Below w4.heap.size w4 w' → Calls Try.prog 16 #[.pointer (some ⟨R k, 0, none⟩), .agg #[.int .u64 (x1 : Nat), .int .u64 (y1 : Nat), .int .i64 a]] w' fun r w'' => r = .returned (.int .i64 0) ∧ TmR w (FF N b G) N (addS s k a e) w'' ∧ w''.cell? ⟨bx, 0, none⟩ = some (.bool k) ∧ w''.cell? ⟨bx, 1, none⟩ = some (.int .i64 a) ∧ w''.cell? ⟨N, 3, none⟩ = some (.int .u64 (x1 : Nat)) ∧ w''.cell? ⟨N, 4, none⟩ = some (.int .u64 (y1 : Nat))) := fun w' b4 => by
    have H5 := H4.out.below b4
    obtain ⟨b', p', c', eF, Q5⟩ := H5.hq k
    refine (ppush13 w' (R k) b' p' c' 256 (s.l k) ⟨x1, y1, a⟩ Q5 IO.out).mono fun r w'' ⟨r1, r2⟩ => ?_
    rw [PI.out.1] at r1
    rw [PI.out.2] at r2
    obtain ⟨F', q6, t6, n6⟩ := r2.hq
    rw [← eF] at t6 n6
    obtain ⟨B6, T6, N6⟩ := H5.heap q6 t6 n6
    have T5 : FT (FF N b G) w w' := T4.trans (FT.of_below (F := FF N b G) b4) fun M hM => .inl hM
    have ST1 := ST.out
    unfold addS at ST1 ⊢
    rw [XY.out.1, XY.out.2] at ST1
    rw [XY.out.1, XY.out.2]
    refine ⟨r1, ⟨_, ⟨b, R, _, _, rfl, B6, ST1.2, ST1.1⟩, T5.trans T6 fun M hM => .inl hM, fun M hM => ?_⟩, ?_⟩
    · rcases N6 M hM with q | q
      · exact .inl q
      · exact .inr (Nat.le_trans T5.size q)
    · exact CX.out _ ((t6.keep bx (fun g => NBX.out (.inr (.inr ⟨k, g⟩))) (Array.getElem?_eq_some_iff.1 (BB.out w' b4)).1).trans (BB.out w' b4)) B6.bk
  have HB0 : Below w4.heap.size w4 w4 := Below.refl _ _
  clear m4 u4 M4 g4 X4 T4 t0 t1 t2 c2 c3 NM KX RN ST PI
  go_wp2_with fail
  go_region_held3 (fun w' => w'.cell? ⟨bx, 0, none⟩ = some (.bool k) ∧ w'.cell? ⟨bx, 1, none⟩ = some (.int .i64 a) ∧ w'.cell? ⟨N, 3, none⟩ = some (.int .u64 (x1 : Nat)) ∧ w'.cell? ⟨N, 4, none⟩ = some (.int .u64 (y1 : Nat)))
    (first | exact CX.out _ (BB.out _ HB0) (BN.out _ HB0) | exact CX.out _ (BB.out _ HB0.drew) (BN.out _ HB0.drew) | exact HS)
    (first
      | (go_at_call 15; refine (RW.out _ (by first | exact HB0 | exact HB0.drew)).mono ?_; rintro e w5 ⟨rfl, HB0⟩)
      | (go_at_call 16; refine (SC.out _ (by first | exact HB0 | exact HB0.drew)).mono ?_; rintro e w6 ⟨rfl, DN, HS⟩; have DN := Lib.hid DN))
  have c3 := HS.2.2.1
  clear HS
  go_wp2
  go_ret2
  exact ⟨rfl, DN.out⟩
end Go.Proofs.Ytbfmmeapjfljbaa
