/- The document's own answers for layer 4 (head): Same. -/
import Derived.Test.YtjjbalgonkphjaaHeadI
import Derived.Test.YtjjbalgonkphjaaHeadJ
import Derived.Test.YtjjbalgonkphjaaStr
namespace Go.Proofs.Ytjjbalgonkphjaa
open Go.ChangeShapes Go.WideShapes Go.ChangeAt Go.RowKit OctM

attribute [local go_sem ↓] loadP_eq storeP_eq boxP_eq allocP_eq strB_eq eqlS_eq

/-- Put, as it is called here: a head that may be, or not. -/
theorem rput4_yes (w : World) (h : Hd) (x : Xt) (hw : h.wf) (hm : mayH h) :
    Calls Try.prog 9 #[pkV h x] w fun e w' => ∃ p c, e = .returned (.tuple #[.slice p 48 c, .int .i64 0]) ∧ Holds w' p 48 c (valsN .u8 (bytesH h)) ∧ Below w.heap.size w w' :=
  (rput4_ok w h x hw hm).mono fun e w' ⟨v, he, o, l⟩ => by
    obtain ⟨p, c, rfl, hh⟩ := own_holds o
    exact ⟨p, c, he, hh, l⟩

set_option maxHeartbeats 4000000 in
theorem rsame4_both (w : World) (h g : Hd) (x y : Xt) (hw : h.wf) (gw : g.wf) (hm : mayH h) (gm : mayH g) :
    Calls Try.prog 13 #[pkV h x, pkV g y] w fun e w' => e = .returned (.bool (decide (h = g))) ∧ Below w.heap.size w w' := by
  have bx := box_pk h x
  have by' := box_pk g y
  have ED : decide (bytesH h = bytesH g) = decide (h = g) := by
    rw [Bool.eq_iff_iff, decide_eq_true_iff, decide_eq_true_iff]
    exact ⟨bytesH_inj hw gw hm gm, fun e => by rw [e]⟩
  rw [← ED]
  have PH := Lib.hid (fun w => rput4_yes w h x hw hm)
  have PG := Lib.hid (fun w => rput4_yes w g y gw gm)
  have B1 : Hid (((w.alloc (.cells (pkC h x) 27)).alloc (.cells (pkC g y) 27)).heap[w.heap.size]? = some (.cells (pkC h x) 27 (0, 0))) := heap_alloc2_old w _ _
  have B2 : Hid (((w.alloc (.cells (pkC h x) 27)).alloc (.cells (pkC g y) 27)).heap[w.heap.size + 1]? = some (.cells (pkC g y) 27 (0, 0))) := heap_alloc2_new w _ _
  have L0 : Hid (Below w.heap.size w ((w.alloc (.cells (pkC h x) 27)).alloc (.cells (pkC g y) 27))) := ((Below.refl _ _).alloc (Nat.le_refl _) _).alloc (by simp) _
  have LD := load_pk B1.out
  clear hw gw hm gm ED
  go_enter Try.func13, Try.ntmps13
  go_wp2_with fail
  generalize (w.alloc (.cells (pkC h x) 27)).alloc (.cells (pkC g y) 27) = v at *
  refine (PH.out _).mono ?_; rintro e w1 ⟨pa, ca, rfl, ha, l1⟩
  have LG : (loadP (.pointer (some ⟨w.heap.size + 1, 0, none⟩))).run Try.prog w1 = .ok (pkV g y) w1 := load_pk ((l1.block _ (Array.getElem?_eq_some_iff.1 B2.out).1).trans B2.out)
  have HA := Lib.hid ha
  have L1 := Lib.hid l1
  clear LD ha l1
  go_wp2_with fail
  refine (PG.out _).mono ?_; rintro e w2 ⟨pb, cb, rfl, hb, l2⟩
  have SA := str_held (HA.out.below l2)
  have SB := str_held hb
  have EQ := eql_str w2 (bytesH_byt h) (bytesH_byt g)
  have FIN : Hid (Below w.heap.size w w2) := L0.out.trans ((L1.out.trans (l2.mono L1.out.size)).mono L0.out.size)
  clear LG hb l2
  go_wp2
  go_ret
  exact ⟨rfl, FIN.out⟩

set_option maxHeartbeats 4000000 in
theorem rsame4_first (w : World) (h g : Hd) (x y : Xt) (hw : h.wf) (hm : mayH h) (gm : ¬ mayH g) :
    Calls Try.prog 13 #[pkV h x, pkV g y] w fun e w' => e = .returned (.bool false) ∧ Below w.heap.size w w' := by
  have bx := box_pk h x
  have by' := box_pk g y
  have PH := Lib.hid (fun w => rput4_yes w h x hw hm)
  have PG := Lib.hid (fun w => rput4_no w g y gm)
  have B1 : Hid (((w.alloc (.cells (pkC h x) 27)).alloc (.cells (pkC g y) 27)).heap[w.heap.size]? = some (.cells (pkC h x) 27 (0, 0))) := heap_alloc2_old w _ _
  have B2 : Hid (((w.alloc (.cells (pkC h x) 27)).alloc (.cells (pkC g y) 27)).heap[w.heap.size + 1]? = some (.cells (pkC g y) 27 (0, 0))) := heap_alloc2_new w _ _
  have L0 : Hid (Below w.heap.size w ((w.alloc (.cells (pkC h x) 27)).alloc (.cells (pkC g y) 27))) := ((Below.refl _ _).alloc (Nat.le_refl _) _).alloc (by simp) _
  have LD := load_pk B1.out
  clear hw hm gm
  go_enter Try.func13, Try.ntmps13
  go_wp2_with fail
  generalize (w.alloc (.cells (pkC h x) 27)).alloc (.cells (pkC g y) 27) = v at *
  refine (PH.out _).mono ?_; rintro e w1 ⟨pa, ca, rfl, -, l1⟩
  have LG : (loadP (.pointer (some ⟨w.heap.size + 1, 0, none⟩))).run Try.prog w1 = .ok (pkV g y) w1 := load_pk ((l1.block _ (Array.getElem?_eq_some_iff.1 B2.out).1).trans B2.out)
  have L1 := Lib.hid l1
  clear LD l1
  go_wp2_with fail
  refine (PG.out _).mono ?_; rintro e w2 ⟨rfl, l2⟩
  have FIN : Hid (Below w.heap.size w w2) := L0.out.trans ((L1.out.trans (l2.mono L1.out.size)).mono L0.out.size)
  clear LG l2
  go_wp2
  go_ret
  exact ⟨rfl, FIN.out⟩

set_option maxHeartbeats 4000000 in
theorem rsame4_second (w : World) (h g : Hd) (x y : Xt) (gw : g.wf) (hm : ¬ mayH h) (gm : mayH g) :
    Calls Try.prog 13 #[pkV h x, pkV g y] w fun e w' => e = .returned (.bool false) ∧ Below w.heap.size w w' := by
  have bx := box_pk h x
  have by' := box_pk g y
  have PH := Lib.hid (fun w => rput4_no w h x hm)
  have PG := Lib.hid (fun w => rput4_yes w g y gw gm)
  have B1 : Hid (((w.alloc (.cells (pkC h x) 27)).alloc (.cells (pkC g y) 27)).heap[w.heap.size]? = some (.cells (pkC h x) 27 (0, 0))) := heap_alloc2_old w _ _
  have B2 : Hid (((w.alloc (.cells (pkC h x) 27)).alloc (.cells (pkC g y) 27)).heap[w.heap.size + 1]? = some (.cells (pkC g y) 27 (0, 0))) := heap_alloc2_new w _ _
  have L0 : Hid (Below w.heap.size w ((w.alloc (.cells (pkC h x) 27)).alloc (.cells (pkC g y) 27))) := ((Below.refl _ _).alloc (Nat.le_refl _) _).alloc (by simp) _
  have LD := load_pk B1.out
  clear gw hm gm
  go_enter Try.func13, Try.ntmps13
  go_wp2_with fail
  generalize (w.alloc (.cells (pkC h x) 27)).alloc (.cells (pkC g y) 27) = v at *
  refine (PH.out _).mono ?_; rintro e w1 ⟨rfl, l1⟩
  have LG : (loadP (.pointer (some ⟨w.heap.size + 1, 0, none⟩))).run Try.prog w1 = .ok (pkV g y) w1 := load_pk ((l1.block _ (Array.getElem?_eq_some_iff.1 B2.out).1).trans B2.out)
  have L1 := Lib.hid l1
  clear LD l1
  go_wp2_with fail
  refine (PG.out _).mono ?_; rintro e w2 ⟨pb, cb, rfl, -, l2⟩
  have FIN : Hid (Below w.heap.size w w2) := L0.out.trans ((L1.out.trans (l2.mono L1.out.size)).mono L0.out.size)
  clear LG l2
  go_wp2
  go_ret
  exact ⟨rfl, FIN.out⟩
end Go.Proofs.Ytjjbalgonkphjaa
