/- SaneTests: whether a packet is refused, its code, its root distance: the walk. -/
import Derived.Test.YtggogcbmdillfaaDoorSaneE
import Derived.Deep.RegionHeld3
set_option maxRecDepth 100000
namespace Go.Proofs.YtggogcbmdillfaaDoor
open Go.ChangeShapes Go.WideShapes Go.ChangeAt Go.RowKit OctM StampM SaneM

attribute [local go_sem ↓] loadP_eq storeP_eq boxP_eq allocP_eq eqlS_eq

set_option maxHeartbeats 4000000 in
theorem tests8_walk (w : World) (h : Hd) (x : Xt) (h6 : h.de < 4294967296) (h7 : h.di < 4294967296) (h8 : h.ri < 4294967296) :
    Calls Tryd.prog 3 #[pkV h x] w fun e w' => e = .returned (.bool true) ∧ Below w.heap.size w w' := by
  have bx := box_pk h x
  have B0 : Hid ((w.alloc (.cells (pkC h x) 27)).heap[w.heap.size]? = some (.cells (pkC h x) 27 (0, 0))) := heap_alloc_new w _
  have L0 : Hid (Below w.heap.size w (w.alloc (.cells (pkC h x) 27))) := (Below.refl _ _).alloc (Nat.le_refl _) _
  have LD := load_pk B0.out
  have PK := Lib.hid (fun w => pkiss8_any w h x h8)
  have RK := Lib.hid (fun w => rkiss8_any w h x h8)
  have PR := Lib.hid (fun w => prho8_any w h x h6 h7)
  have RR := Lib.hid (fun w => rrho8_any w h x h6 h7)
  have PT := Lib.hid (fun w => ptest8_any w h x h6 h7)
  have RT := Lib.hid (fun w => rtest8_any w h x h6 h7)
  generalize kissS h.st h.ri = S at *
  generalize decide (h.st = 0) = b at *
  generalize rhoN h.de h.di = R at *
  generalize testH h = T at *
  have PA := Lib.hid (fun w => pact8_any w S)
  have RA := Lib.hid (fun w => ract8_any w S)
  generalize actS S = A at *
  have EQ : ∀ w', (eqlS (.string S) (.string S)).run Tryd.prog w' = .ok (.bool true) w' := fun w' => by rw [eql_any, decide_eq_true rfl]
  have bb : (b == b) = true := beq_self_eq_true b
  have AA : (A == A) = true := beq_self_eq_true A
  have rr : ((R : Int) == (R : Int)) = true := beq_self_eq_true _
  have tt : ((T : Int) == (T : Int)) = true := beq_self_eq_true _
  clear h6 h7 h8
  go_enter Tryd.func3, Tryd.ntmps3
  go_wp2_with fail
  refine (PK.out _).mono ?_; rintro e w1 ⟨rfl, l1⟩
  have B1 := Lib.hid (pk8_keep B0.out l1)
  have L1 : Hid (Below w.heap.size w w1) := L0.out.trans (l1.mono L0.out.size)
  have LD1 := load_pk B1.out
  clear l1 LD B0 L0
  go_wp2_with fail
  refine (RK.out _).mono ?_; rintro e w2 ⟨rfl, l2⟩
  have B2 := Lib.hid (pk8_keep B1.out l2)
  have L2 : Hid (Below w.heap.size w w2) := L1.out.trans (l2.mono L1.out.size)
  have HB0 : Below w2.heap.size w2 w2.drew := (Below.refl _ _).drew
  have K : Hid (∀ w', Below w2.heap.size w2 w' → (loadP (.pointer (some ⟨w.heap.size, 0, none⟩))).run Tryd.prog w' = .ok (pkV h x) w') := fun w' k => load_pk (pk8_keep B2.out k)
  clear l2 LD1 B1 L1
  go_wp2_with fail
  go_region_held3 (fun w' => (loadP (.pointer (some ⟨w.heap.size, 0, none⟩))).run Tryd.prog w' = .ok (pkV h x) w')
    (first | exact K.out _ HB0)
    (first
      | (go_at_call 10; refine (PA.out _).mono ?_; rintro e w4 ⟨rfl, rfl⟩)
      | (go_at_call 11; refine (RA.out _).mono ?_; rintro e w4 ⟨rfl, rfl⟩)
      | (go_at_call 12; refine (PR.out _).mono ?_; rintro e w4 ⟨rfl, o4⟩; have HB0 := HB0.trans (o4.mono HB0.size); clear o4)
      | (go_at_call 13; refine (RR.out _).mono ?_; rintro e w4 ⟨rfl, o4⟩; have HB0 := HB0.trans (o4.mono HB0.size); clear o4)
      | (go_at_call 14; refine (PT.out _).mono ?_; rintro e w4 ⟨rfl, o4⟩; have HB0 := HB0.trans (o4.mono HB0.size); clear o4)
      | (go_at_call 15; refine (RT.out _).mono ?_; rintro e w4 ⟨rfl, o4⟩; have HB0 := HB0.trans (o4.mono HB0.size); clear o4)
      | (go_at_call 16; refine (alive8_any _).mono ?_; rintro e w4 ⟨rfl, o4⟩; have HB0 := HB0.trans (o4.mono HB0.size); clear o4))
  have FIN := L2.out.trans (HB0.mono L2.out.size)
  go_wp2
  go_ret
  exact ⟨rfl, FIN⟩
end Go.Proofs.YtggogcbmdillfaaDoor
