/- Layer 4 (head): the program's Same. -/
import Derived.Test.YtjjbalgonkphjaaHeadE
import Derived.Deep.RegionHeld3
namespace Go.Proofs.Ytjjbalgonkphjaa
open Go.ChangeShapes Go.WideShapes Go.ChangeAt Go.RowKit

attribute [local go_sem ↓] loadP_eq storeP_eq boxP_eq allocP_eq eqlF_eq guardF_eq
set_option maxHeartbeats 4000000 in
theorem psame_any (w : World) (h g : Hd) (x y : Xt) :
    Calls Try.prog 12 #[pkV h x, pkV g y] w fun e w' => e = .returned (.bool (decide (h = g))) ∧ Below w.heap.size w w' := by
  have bx := box_pk h x
  have by' := box_pk g y
  have gu := fun (w : World) a b => guard_fl w a b h g
  have eq := fun w => eql_fl w h g
  have N1 : (w.alloc (.cells (pkC h x) 27)).heap.size = w.heap.size + 1 := by simp
  have B1 : ((w.alloc (.cells (pkC h x) 27)).alloc (.cells (pkC g y) 27)).heap[w.heap.size]? = some (.cells (pkC h x) 27 (0, 0)) := heap_alloc2_old w _ _
  have B2 : ((w.alloc (.cells (pkC h x) 27)).alloc (.cells (pkC g y) 27)).heap[w.heap.size + 1]? = some (.cells (pkC g y) 27 (0, 0)) := heap_alloc2_new w _ _
  have L0 : Hid (Below w.heap.size w ((w.alloc (.cells (pkC h x) 27)).alloc (.cells (pkC g y) 27))) := ((Below.refl _ _).alloc (Nat.le_refl _) _).alloc (by simp) _
  replace B1 := Lib.hid B1
  replace B2 := Lib.hid B2
  go_enter Try.func12, Try.ntmps12
  go_wp2_with fail
  generalize (w.alloc (.cells (pkC h x) 27)).alloc (.cells (pkC g y) 27) = v at *
  have K : Hid (∀ w', Below v.heap.size v w' → (loadP (.pointer (some ⟨w.heap.size, 0, none⟩))).run Try.prog w' = .ok (pkV h x) w' ∧ (loadP (.pointer (some ⟨w.heap.size + 1, 0, none⟩))).run Try.prog w' = .ok (pkV g y) w') := fun w' b =>
    ⟨load_pk ((b.block _ (Array.getElem?_eq_some_iff.1 B1.out).1).trans B1.out), load_pk ((b.block _ (Array.getElem?_eq_some_iff.1 B2.out).1).trans B2.out)⟩
  have HB0 : Below v.heap.size v v.drew := (Below.refl _ _).drew
  go_region_held3 (fun w' => (loadP (.pointer (some ⟨w.heap.size, 0, none⟩))).run Try.prog w' = .ok (pkV h x) w' ∧ (loadP (.pointer (some ⟨w.heap.size + 1, 0, none⟩))).run Try.prog w' = .ok (pkV g y) w')
    (first | exact K.out _ HB0)
    (first
      | (go_at_call 22; refine (palone_any _ _ _).mono ?_; rintro e w4 ⟨rfl, o4⟩; have HB0 := HB0.trans (o4.b.mono HB0.size); clear o4))
  have FIN := L0.out.trans (HB0.mono L0.out.size)
  go_wp2
  go_ret
  exact ⟨rfl, FIN⟩
end Go.Proofs.Ytjjbalgonkphjaa
