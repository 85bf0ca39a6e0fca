/- The walk of HeadPuts: heads as bytes, whether they may be, and whether two are the same, are the document's. -/
import Derived.Test.YtjjbalgonkphjaaHeadP
import Derived.Test.YtjjbalgonkphjaaHeadF
import Derived.Test.YtjjbalgonkphjaaHeadN
namespace Go.Proofs.Ytjjbalgonkphjaa
open Go.ChangeShapes Go.WideShapes Go.ChangeAt Go.RowKit OctM

attribute [local go_sem ↓] loadP_eq storeP_eq boxP_eq allocP_eq strB_eq eqlS_eq
set_option maxHeartbeats 16000000 in
theorem puts_walk (w : World) (h g : Hd) (x y : Xt) (hw : h.wf) (gw : g.wf) :
    Calls Try.prog 3 #[pkV h x, pkV g y] w fun e w' => e = .returned (.bool true) ∧ Below w.heap.size w w' := by
  have bx := box_pk h x
  have by' := box_pk g y
  obtain ⟨D, hD⟩ : ∃ D, (if mayH h then bytesH h else []) = D := ⟨_, rfl⟩
  obtain ⟨E, hE⟩ : ∃ E : Int, (if mayH h then 0 else 1) = E := ⟨_, rfl⟩
  obtain ⟨m, hm⟩ : ∃ m, decide (mayH h) = m := ⟨_, rfl⟩
  obtain ⟨b, hb⟩ : ∃ b, decide (h = g) = b := ⟨_, rfl⟩
  obtain ⟨n, hn⟩ : ∃ n, D.length = n := ⟨_, rfl⟩
  have yD : Hid (Byt D) := by
    unfold Hid
    rw [← hD]
    split
    · exact bytesH_byt h
    · exact fun d hd => by simp at hd
  have PP : Hid (∀ w, Calls Try.prog 8 #[pkV h x] w fun e w' => ∃ p c, e = .returned (.tuple #[.slice p n c, .int .i64 E]) ∧ Holds w' p n c (valsN .u8 D) ∧ Below w.heap.size w w') := fun w => by
    have r := pput_any w h x hw
    rw [hD, hE] at r
    refine r.mono ?_
    rintro e w' ⟨p, c, rfl, nw, l⟩
    exact ⟨p, c, by rw [hn], hn ▸ nw.holds, l⟩
  have RP : Hid (∀ w, Calls Try.prog 9 #[pkV h x] w fun e w' => ∃ p c, e = .returned (.tuple #[.slice p n c, .int .i64 E]) ∧ Holds w' p n c (valsN .u8 D) ∧ Below w.heap.size w w') := fun w => by
    have r := rput4_any w h x hw
    rw [hD, hE] at r
    refine r.mono ?_
    rintro e w' ⟨p, c, rfl, nw, l⟩
    exact ⟨p, c, by rw [hn], hn ▸ nw.holds, l⟩
  have PM : Hid (∀ w, Calls Try.prog 10 #[pkV h x] w fun e w' => e = .returned (.bool m) ∧ Out w w') := fun w => hm ▸ pmay_any w h x
  have RM : Hid (∀ w, Calls Try.prog 11 #[pkV h x] w fun e w' => e = .returned (.bool m) ∧ Out w w') := fun w => hm ▸ rmay_any w h x
  have PS : Hid (∀ w, Calls Try.prog 12 #[pkV h x, pkV g y] w fun e w' => e = .returned (.bool b) ∧ Below w.heap.size w w') := fun w => hb ▸ psame_any w h g x y
  have PT : Hid (∀ w, Calls Try.prog 12 #[pkV h x, pkV h x] w fun e w' => e = .returned (.bool true) ∧ Below w.heap.size w w') := fun w => by
    have := psame_any w h h x x
    rwa [decide_eq_true (rfl : h = h)] at this
  have RS : Hid (∀ w, Calls Try.prog 13 #[pkV h x, pkV g y] w fun e w' => e = .returned (.bool b) ∧ Below w.heap.size w w') := fun w => hb ▸ rsame4_any w h g x y hw gw
  have B1 : Hid (((w.alloc (.cells (pkC h x) 27)).alloc (.cells (pkC g y) 27)).heap[w.heap.size]? = some (.cells (pkC h x) 27 (0, 0))) := heap_alloc2_old w _ _
  have B2 : Hid (((w.alloc (.cells (pkC h x) 27)).alloc (.cells (pkC g y) 27)).heap[w.heap.size + 1]? = some (.cells (pkC g y) 27 (0, 0))) := heap_alloc2_new w _ _
  have L0 : Hid (Below w.heap.size w ((w.alloc (.cells (pkC h x) 27)).alloc (.cells (pkC g y) 27))) := ((Below.refl _ _).alloc (Nat.le_refl _) _).alloc (by simp) _
  have LD := load_pk B1.out
  have mm : (m == m) = true := beq_self_eq_true m
  have bb : (b == b) = true := beq_self_eq_true b
  have ee : (E == E) = true := beq_self_eq_true E
  have NV : Hid (∀ V : Value, V = pkV h x → True) := fun _ _ => trivial
  clear hw gw hD hE hm hb hn NV
  go_enter Try.func3, Try.ntmps3
  go_wp2_with fail
  generalize (w.alloc (.cells (pkC h x) 27)).alloc (.cells (pkC g y) 27) = v at *
  refine (PP.out _).mono ?_; rintro e w1 ⟨pa, ca, rfl, ha, l1⟩
  have LG : (loadP (.pointer (some ⟨w.heap.size, 0, none⟩))).run Try.prog w1 = .ok (pkV h x) w1 := load_pk ((l1.block _ (Array.getElem?_eq_some_iff.1 B1.out).1).trans B1.out)
  have HA := Lib.hid ha
  have L1 := Lib.hid l1
  clear LD ha l1
  go_wp2_with fail
  refine (RP.out _).mono ?_; rintro e w2 ⟨pb, cb, rfl, hb, l2⟩
  have L2 : Hid (Below v.heap.size v w2) := L1.out.trans (l2.mono L1.out.size)
  have FW : Hid (Below w.heap.size w w2) := L0.out.trans (L2.out.mono L0.out.size)
  have HB0 : Below w2.heap.size w2 w2.drew := (Below.refl _ _).drew
  have HA2 := HA.out.below l2
  have EQ : ∀ w', (eqlS (.string (strN D)) (.string (strN D))).run Try.prog w' = .ok (.bool true) w' := fun w' => by
    have e := eql_str w' yD.out yD.out
    rwa [decide_eq_true (rfl : D = D)] at e
  have K : Hid (∀ w', Below w2.heap.size w2 w' → (loadP (.pointer (some ⟨w.heap.size, 0, none⟩))).run Try.prog w' = .ok (pkV h x) w' ∧ (loadP (.pointer (some ⟨w.heap.size + 1, 0, none⟩))).run Try.prog w' = .ok (pkV g y) w' ∧ (strB (.slice pa n ca)).run Try.prog w' = .ok (.string (strN D)) w' ∧ (strB (.slice pb n cb)).run Try.prog w' = .ok (.string (strN D)) w') := fun w' k =>
    ⟨load_pk ((k.block _ (Nat.lt_of_lt_of_le (Array.getElem?_eq_some_iff.1 B1.out).1 L2.out.size)).trans ((L2.out.block _ (Array.getElem?_eq_some_iff.1 B1.out).1).trans B1.out)),
     load_pk ((k.block _ (Nat.lt_of_lt_of_le (Array.getElem?_eq_some_iff.1 B2.out).1 L2.out.size)).trans ((L2.out.block _ (Array.getElem?_eq_some_iff.1 B2.out).1).trans B2.out)), str_held (HA2.below k), str_held (hb.below k)⟩
  clear LG hb l2 HA2
  go_wp2_with fail
  go_region_held3 (fun w' => (loadP (.pointer (some ⟨w.heap.size, 0, none⟩))).run Try.prog w' = .ok (pkV h x) w' ∧ (loadP (.pointer (some ⟨w.heap.size + 1, 0, none⟩))).run Try.prog w' = .ok (pkV g y) w' ∧ (strB (.slice pa n ca)).run Try.prog w' = .ok (.string (strN D)) w' ∧ (strB (.slice pb n cb)).run Try.prog w' = .ok (.string (strN D)) w')
    (first | exact K.out _ HB0)
    (first
      | (go_at_call 10; refine (PM.out _).mono ?_; rintro e w4 ⟨rfl, o4⟩; have HB0 := HB0.trans (o4.b.mono HB0.size); clear o4)
      | (go_at_call 11; refine (RM.out _).mono ?_; rintro e w4 ⟨rfl, o4⟩; have HB0 := HB0.trans (o4.b.mono HB0.size); clear o4)
      | (go_at_call 13; refine (RS.out _).mono ?_; rintro e w4 ⟨rfl, o4⟩; have HB0 := HB0.trans (o4.mono HB0.size); clear o4)
      | (go_at_call 12; refine (PT.out _).mono ?_; rintro e w4 ⟨rfl, o4⟩; have HB0 := HB0.trans (o4.mono HB0.size); clear o4)
      | (go_at_call 12; refine (PS.out _).mono ?_; rintro e w4 ⟨rfl, o4⟩; have HB0 := HB0.trans (o4.mono HB0.size); clear o4)
      | (go_at_call 14; refine (alive4_any _).mono ?_; rintro e w4 ⟨rfl, o4⟩; have HB0 := HB0.trans (o4.mono HB0.size); clear o4))
  have FIN := FW.out.trans (HB0.mono FW.out.size)
  go_wp2
  go_ret
  exact ⟨rfl, FIN⟩
end Go.Proofs.Ytjjbalgonkphjaa
