/- Layer 14 (timers), the program's own: set, drop. -/
import Derived.Test.YtbfmmeapjfljbaaTmC
import Derived.StillTailTactics
import Derived.Deep.RegionHeld3
set_option maxRecDepth 100000
namespace Go.Proofs.Ytbfmmeapjfljbaa
open Go.ChangeShapes Go.WideShapes Go.ChangeAt Go.RowKit Go.Maps HeapM

/-! ### What becomes of the state -/
theorem set_state {s : TS} {D : DataW Unit} (h : s.Ok) (t : TlD D s) {k : Bool} {d seq j : Nat} {a e : Int} (hp : place (s.l k) d = some j) (a0 : 0 ≤ a) (a1 : a ≤ topT) (e0 : 0 ≤ e) (e1 : e ≤ topT) {ca : Nat} (hc : s.ca ≤ ca) (hs : seq ≤ ca) (sm : ca < 18446744073709551616) :
    (⟨updB s.l k (setL (s.l k) j ⟨d, seq, a⟩), updN s.ev d e, s.ad, ca⟩ : TS).Ok ∧ TlD (D.put (kq d) (datT ⟨k, a, e⟩)) ⟨updB s.l k (setL (s.l k) j ⟨d, seq, a⟩), updN s.ev d e, s.ad, ca⟩ := by
  obtain ⟨hj, hd⟩ := place_some hp
  have M := fun y => mem_setL (x := ⟨d, seq, a⟩) (y := y) (h.nod k) hj hd
  have g := gt_mem hj
  constructor
  · refine Ok_put h k _ _ _ _ (set_nod (h.nod k) hj hd) (set_heap _ hj (h.heap k)) (fun x hx => ?_) (fun x hx y hy => ?_) (fun x hx => ?_) (fun f => ?_) (by rw [set_len _ hj]; exact h.lens k) (Nat.le_refl _) hc ⟨h.small.1, sm⟩
    · rcases (M x).1 hx with rfl | ⟨c, -⟩
      · exact ⟨a0, a1⟩
      · exact h.tim k x c
    · rcases (M x).1 hx with rfl | ⟨c, -⟩
      · show d ≠ y.id
        rw [← hd]
        exact h.far k _ g y hy
      · exact h.far k x c y hy
    · rcases (M x).1 hx with rfl | ⟨c, -⟩
      · have := h.ids k _ g
        rw [hd] at this
        exact ⟨this.1, this.2.1, hs⟩
      · have := h.ids k x c
        exact ⟨this.1, this.2.1, Nat.le_trans this.2.2 hc⟩
    · by_cases c : f = d
      · rw [c, updN_same]; exact ⟨e0, e1⟩
      · rw [updN_other _ c]; exact h.evs f
  · refine t.put (z := ⟨d, seq, a⟩) M (fun y hy => ?_) ?_
    · show y.id ≠ d
      rw [← hd]
      exact fun c => h.far k _ g y hy c.symm
    · rw [if_pos ((t.has d).2 ⟨k, by rw [← hd]; exact List.mem_map.2 ⟨_, g, rfl⟩⟩), set_len _ hj]
theorem drop_state {s : TS} {D : DataW Unit} (h : s.Ok) (t : TlD D s) {k : Bool} {d j : Nat} (hp : place (s.l k) d = some j) :
    (⟨updB s.l k (remL (s.l k) j), s.ev, s.ad, s.ca⟩ : TS).Ok ∧ TlD (D.del (kq d)) ⟨updB s.l k (remL (s.l k) j), s.ev, s.ad, s.ca⟩ := by
  obtain ⟨hj, hd⟩ := place_some hp
  have M := fun y => mem_rem (y := y) (h.nod k) hj
  have g := gt_mem hj
  constructor
  · refine Ok_put h k _ _ _ _ (rem_nod (h.nod k) hj) (rem_heap _ (h.heap k)) (fun x hx => h.tim k x ((M x).1 hx).1) (fun x hx y hy => h.far k x ((M x).1 hx).1 y hy) (fun x hx => h.ids k x ((M x).1 hx).1) h.evs (by rw [rem_len hj]; have := h.lens k; omega) (Nat.le_refl _) (Nat.le_refl _) h.small
  · refine t.del (fun y => by rw [M, hd]) (fun y hy => ?_) (by rw [← hd]; exact List.mem_map.2 ⟨_, g, rfl⟩) (by rw [rem_len hj]; omega)
    rw [← hd]
    exact fun c => h.far k _ g y hy c.symm
theorem set_is {l : List It} {d seq j : Nat} {a : Int} (hp : place l d = some j) : setE l ⟨d, seq, a⟩ = 0 ∧ setR l ⟨d, seq, a⟩ = setL l j ⟨d, seq, a⟩ := by
  unfold setE setR
  dsimp only
  rw [hp]
  exact ⟨rfl, rfl⟩
theorem rem_is {l : List It} {d j : Nat} (hp : place l d = some j) : remR l d = remL l j := by
  unfold remR
  rw [hp]

/-! ### set -/
set_option maxHeartbeats 4000000 in
theorem pset14 (w : World) (F : Nat → Prop) (N : Nat) (s : TS) (h : TmP w F N s) (k : Bool) (d seq j : Nat) (a e : Int) (hp : place (s.l k) d = some j) (a0 : 0 ≤ a) (a1 : a ≤ topT) (e0 : 0 ≤ e) (e1 : e ≤ topT) (hs : seq ≤ s.ca) :
    Calls Try.prog 21 #[.pointer (some ⟨N, 0, none⟩), .int .u64 (d : Nat), .int .u64 (seq : Nat), .agg #[.bool k, .int .i64 a, .int .i64 e]] w fun r w' => r = .returned (.tuple #[]) ∧ TmR w F N ⟨updB s.l k (setL (s.l k) j ⟨d, seq, a⟩), updN s.ev d e, s.ad, s.ca⟩ w' := by
  obtain ⟨b, R, G, D, rfl, T, P, O⟩ := h
  have hdn : d < 18446744073709551616 := by
    obtain ⟨hj, hd⟩ := place_some hp
    have := O.ids k _ (gt_mem hj)
    rw [hd] at this
    have := O.small.1
    omega
  have hsn : seq < 18446744073709551616 := by have := O.small.2; omega
  have IO : Hid (ItOk ⟨d, seq, a⟩) := ⟨hdn, hsn, by show (-9223372036854775808 : Int) ≤ a; omega, by show a ≤ 9223372036854775807; unfold topT at a1; omega⟩
  have ST := Lib.hid (set_state O P hp a0 a1 e0 e1 (Nat.le_refl _) hs O.small.2)
  have SI := Lib.hid (set_is (seq := seq) (a := a) hp)
  have AL : Below w.heap.size w (w.alloc (.cells #[.bool k, .int .i64 a, .int .i64 e] 25)) := (Below.refl _ _).alloc (Nat.le_refl _) _
  have BX : Hid ((w.alloc (.cells #[.bool k, .int .i64 a, .int .i64 e] 25)).heap[w.heap.size]? = some (.cells #[.bool k, .int .i64 a, .int .i64 e] 25 (0, 0))) := heap_alloc_new _ _
  have H1 := Lib.hid (T.below AL)
  have L1 := Lib.hid AL
  have LT := Lib.hid T.lt
  have NM : Hid (Maps.size D < maxLen) := by have := P.size; have := O.many; unfold Hid maxLen; omega
  have KX := Lib.hid (kq_of hdn)
  have RN : Hid (RT (.agg #[.bool k, .int .i64 a, .int .i64 e]) = some (datT ⟨k, a, e⟩, [])) := RT_mk ⟨k, a, e⟩
  have F1 : Hid (∀ w', TmR w (FF N b G) N ⟨updB s.l k (setL (s.l k) j ⟨d, seq, a⟩), updN s.ev d e, s.ad, s.ca⟩ w' → Ending.returned (.tuple #[]) = .returned (.tuple #[]) ∧ TmR w (FF N b G) N ⟨updB s.l k (setL (s.l k) j ⟨d, seq, a⟩), updN s.ev d e, s.ad, s.ca⟩ w') := fun w' h => ⟨rfl, h⟩
  clear T AL a0 a1 e0 e1 hs hdn hsn hp P
  go_enter Try.func21, Try.ntmps21
  go_wp2_with fail
  obtain ⟨bx, hbx⟩ : ∃ bx, w.heap.size = bx := ⟨_, rfl⟩
  have HX := Lib.hid hbx
  rw [hbx] at BX ⊢
  clear hbx
  generalize w.alloc (.cells #[.bool k, .int .i64 a, .int .i64 e] 25) = v at *
  have c2 := H1.out.c2
  have x0 := blk_cell (o := 0) BX.out
  have x1 := blk_cell (o := 1) BX.out
  have x2 := blk_cell (o := 2) BX.out
  simp only [List.getElem?_toArray, List.getElem?_cons_zero, List.getElem?_cons_succ] at x0 x1 x2
  go_still_tail 6, (by kernel_rfl)
  change wpList _ _ _ _ _ v.drew
  refine wpList_mapUpdate_in _ rfl _ _ _ 44 rfl 28 25 law64 Try.underlying44 RT b (Maps.size D) D rfl (World.ownsMap.drew H1.out.mp) NM.out _ _ _ rfl rfl KX.out _ [] RN.out ?_
  intro w4 m4 u4
  have M4 := (H1.out.below (w' := v.drew) (Below.refl _ _).drew).map m4 u4
  have g4 := u4.grown
  have X4 : w4.heap[bx]? = some (.cells #[.bool k, .int .i64 a, .int .i64 e] 25 (0, 0)) :=
    (g4.block bx (Array.getElem?_eq_some_iff.1 (show v.drew.heap[bx]? = _ from BX.out)).1 (fun q => by injection q with q; have := LT.out b (.inr (.inl rfl)); have := HX.out; omega)).trans BX.out
  have T4 : FT (FF N b G) w w4 := (FT.of_below (L1.out.drew)).same M4.2
  have H4 := Lib.hid M4.1
  have W4 := Lib.hid T4
  have CX : Hid (∀ w' : World, w'.heap[bx]? = some (.cells #[.bool k, .int .i64 a, .int .i64 e] 25 (0, 0)) → w'.cell? ⟨bx, 0, none⟩ = some (.bool k) ∧ w'.cell? ⟨bx, 1, none⟩ = some (.int .i64 a)) := fun w' h => ⟨blk_cell h, blk_cell h⟩
  have HX4 := Lib.hid X4
  have RW : Hid (∀ w', Below w4.heap.size w4 w' → Calls Try.prog 15 #[.pointer (some ⟨N, 0, none⟩), .bool k] w' fun e w'' => e = .returned (.pointer (some ⟨R k, 0, none⟩)) ∧ Below w4.heap.size w4 w'') := fun w' b4 => (prow14 (H4.out.below b4) k).mono fun e w'' ⟨e1, e2⟩ => ⟨e1, by rw [e2]; exact b4⟩
  have BB : Hid (∀ w', Below w4.heap.size w4 w' → w'.heap[bx]? = some (.cells #[.bool k, .int .i64 a, .int .i64 e] 25 (0, 0))) := fun w' b4 => (b4.block bx (Array.getElem?_eq_some_iff.1 X4).1).trans X4
  have SC : Hid (∀ w', Below w4.heap.size w4 w' → Calls Try.prog 27 #[.pointer (some ⟨R k, 0, none⟩), .agg #[.int .u64 (d : Nat), .int .u64 (seq : Nat), .int .i64 a]] w' fun r w'' => r = .returned (.int .i64 0) ∧ TmR w (FF N b G) N ⟨updB s.l k (setL (s.l k) j ⟨d, seq, a⟩), updN s.ev d e, s.ad, s.ca⟩ w'' ∧ w''.heap[bx]? = some (.cells #[.bool k, .int .i64 a, .int .i64 e] 25 (0, 0))) := fun w' b4 => by
    have H5 := H4.out.below b4
    obtain ⟨b', p', c', eF, Q5⟩ := H5.hq k
    refine (pset13 w' (R k) b' p' c' 256 (s.l k) ⟨d, seq, a⟩ Q5 IO.out).mono fun r w'' ⟨r1, r2⟩ => ?_
    rw [SI.out.1] at r1
    rw [SI.out.2] at r2
    obtain ⟨F', q6, t6, n6⟩ := r2.hq
    rw [← eF] at t6 n6
    obtain ⟨B6, T6, N6⟩ := H5.heap q6 t6 n6
    have T5 : FT (FF N b G) w w' := T4.trans (FT.of_below (F := FF N b G) b4) fun M hM => .inl hM
    have lt4 := H4.out.lt
    refine ⟨r1, ⟨_, ⟨b, R, _, _, rfl, B6, ST.out.2, ST.out.1⟩, T5.trans T6 fun M hM => .inl hM, fun M hM => ?_⟩, ?_⟩
    · rcases N6 M hM with q | q
      · exact .inl q
      · exact .inr (Nat.le_trans T5.size q)
    · have X5 := BB.out w' b4
      exact (t6.keep bx (fun g => by have := LT.out bx (.inr (.inr ⟨k, g⟩)); have := HX.out; omega) (Array.getElem?_eq_some_iff.1 X5).1).trans X5
  have HB0 : Below w4.heap.size w4 w4 := Below.refl _ _
  clear m4 u4 M4 g4 X4 T4 H1 BX x0 x1 x2 c2 NM KX RN ST SI LT
  go_wp2_with fail
  go_region_held3 (fun w' => w'.cell? ⟨bx, 0, none⟩ = some (.bool k) ∧ w'.cell? ⟨bx, 1, none⟩ = some (.int .i64 a))
    (first | exact CX.out _ (BB.out _ HB0) | exact CX.out _ (BB.out _ HB0.drew) | exact CX.out _ HS)
    (first
      | (go_at_call 15; refine (RW.out _ (by first | exact HB0 | exact HB0.drew)).mono ?_; rintro e w5 ⟨rfl, HB0⟩)
      | (go_at_call 27; refine (SC.out _ (by first | exact HB0 | exact HB0.drew)).mono ?_; rintro e w6 ⟨rfl, DN, HS⟩; have DN := Lib.hid DN))
  go_end0
  exact ⟨rfl, DN.out⟩

/-! ### drop -/
set_option maxHeartbeats 4000000 in
theorem pdrop14 (w : World) (F : Nat → Prop) (N : Nat) (s : TS) (h : TmP w F N s) (k : Bool) (d j : Nat) (a e : Int) (hp : place (s.l k) d = some j) :
    Calls Try.prog 26 #[.pointer (some ⟨N, 0, none⟩), .int .u64 (d : Nat), .agg #[.bool k, .int .i64 a, .int .i64 e]] w fun r w' => r = .returned (.tuple #[]) ∧ TmR w F N ⟨updB s.l k (remL (s.l k) j), s.ev, s.ad, s.ca⟩ w' := by
  obtain ⟨b, R, G, D, rfl, T, P, O⟩ := h
  have hdn : d < 18446744073709551616 := by
    obtain ⟨hj, hd⟩ := place_some hp
    have := O.ids k _ (gt_mem hj)
    rw [hd] at this
    have := O.small.1
    omega
  have ST := Lib.hid (drop_state O P hp)
  have SI := Lib.hid (rem_is hp)
  have AL : Below w.heap.size w (w.alloc (.cells #[.bool k, .int .i64 a, .int .i64 e] 25)) := (Below.refl _ _).alloc (Nat.le_refl _) _
  have BX : Hid ((w.alloc (.cells #[.bool k, .int .i64 a, .int .i64 e] 25)).heap[w.heap.size]? = some (.cells #[.bool k, .int .i64 a, .int .i64 e] 25 (0, 0))) := heap_alloc_new _ _
  have H1 := Lib.hid (T.below AL)
  have c2 := H1.out.c2
  have M1 := Lib.hid H1.out.mp
  have L1 := Lib.hid AL
  have LT := Lib.hid T.lt
  have KD := Lib.hid (kq_of hdn)
  have HD := Lib.hid hdn
  clear T AL hdn hp P O
  go_enter Try.func26, Try.ntmps26
  go_upto_region 1 with (fail)
  obtain ⟨bx, hbx⟩ : ∃ bx, w.heap.size = bx := ⟨_, rfl⟩
  have HX := Lib.hid hbx
  rw [hbx] at BX ⊢
  clear hbx
  generalize w.alloc (.cells #[.bool k, .int .i64 a, .int .i64 e] 25) = v at *
  go_upto_region 2 with (at_delete; refine wpList_delete_own _ rfl _ _ 44 28 rfl 25 law64 Try.underlying44 RT b (Maps.size D) D rfl M1.out _ _ rfl KD.out ?_; intro w4 m4 u4)
  have M4 := H1.out.map m4 u4
  have g4 := u4.grown
  have X4 : w4.heap[bx]? = some (.cells #[.bool k, .int .i64 a, .int .i64 e] 25 (0, 0)) :=
    (g4.block bx (Array.getElem?_eq_some_iff.1 BX.out).1 (fun q => by injection q with q; have := LT.out b (.inr (.inl rfl)); have := HX.out; omega)).trans BX.out
  have T4 : FT (FF N b G) w w4 := (FT.of_below L1.out).same M4.2
  have H4 := Lib.hid M4.1
  have x0 : w4.cell? ⟨bx, 0, none⟩ = some (.bool k) := blk_cell X4
  have RW := Lib.hid (prow14 H4.out k)
  have SC : Hid (Calls Try.prog 33 #[.pointer (some ⟨R k, 0, none⟩), .int .u64 (d : Nat)] w4 fun r w'' => (∃ v1 v2, r = .returned (.tuple #[v1, v2])) ∧ TmR w (FF N b G) N ⟨updB s.l k (remL (s.l k) j), s.ev, s.ad, s.ca⟩ w'') := by
    obtain ⟨b', p', c', eF, Q5⟩ := H4.out.hq k
    refine (premove13 w4 (R k) b' p' c' 256 (s.l k) d Q5 HD.out).mono fun r w'' ⟨r1, r2⟩ => ?_
    rw [SI.out] at r2
    obtain ⟨F', q6, t6, n6⟩ := r2.hq
    rw [← eF] at t6 n6
    obtain ⟨B6, T6, N6⟩ := H4.out.heap q6 t6 n6
    refine ⟨⟨_, _, r1⟩, ⟨_, ⟨b, R, _, _, rfl, B6, ST.out.2, ST.out.1⟩, T4.trans T6 fun M hM => .inl hM, fun M hM => ?_⟩⟩
    rcases N6 M hM with q | q
    · exact .inl q
    · exact .inr (Nat.le_trans T4.size q)
  clear m4 u4 M4 g4 X4 T4 H1 BX c2 M1 KD ST SI LT HD
  go_wp2_with (first
      | (go_at_call 15; refine RW.out.mono ?_; rintro e w5 ⟨rfl, rfl⟩)
      | (go_at_call 33; refine SC.out.mono ?_; rintro e w6 ⟨⟨v1, v2, rfl⟩, DN⟩; have DN := Lib.hid DN))
  go_end0
  exact ⟨rfl, DN.out⟩
end Go.Proofs.Ytbfmmeapjfljbaa
