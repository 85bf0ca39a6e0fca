/- Layer 4 (head): the program's Put. -/
import Derived.Test.YtjjbalgonkphjaaHeadA
import Derived.Test.YtjjbalgonkphjaaOctY
import Derived.Test.YtjjbalgonkphjaaOctZ
import Derived.Deep.RegionHeld3
namespace Go.Proofs.Ytjjbalgonkphjaa
open Go.ChangeShapes Go.WideShapes Go.ChangeAt Go.RowKit OctM

def sizesH : List Int := [1, 1, 1, 1, 4, 4, 4, 8, 8, 8, 8]
theorem sizesH_ok : okAll sizesH := by decide
theorem sizesH_at : atT sizesH 11 = 48 := by decide +kernel
/-- a head's bytes. -/
def bytesH (h : Hd) : List Nat := layT sizesH (numsH h) 11
theorem numsH_fit (h : Hd) (hw : h.wf) (hm : mayH h) : fitT sizesH (numsH h) 11 := by
  obtain ⟨h1, h2, h3, h4, h5, h6, h7, h8, h9, ha, hb, hc, hd⟩ := hw
  obtain ⟨m1, m2, m3, m4⟩ := hm
  have e1 := b8_lt h.po
  have e2 := b8_lt h.pr
  intro i hi
  have : i = 0 ∨ i = 1 ∨ i = 2 ∨ i = 3 ∨ i = 4 ∨ i = 5 ∨ i = 6 ∨ i = 7 ∨ i = 8 ∨ i = 9 ∨ i = 10 := by omega
  rcases this with rfl | rfl | rfl | rfl | rfl | rfl | rfl | rfl | rfl | rfl | rfl <;> simp [sizesH, numsH, first8] <;> omega
theorem numsH_64 (h : Hd) (hw : h.wf) (hm : mayH h) : ∀ x ∈ numsH h, x < 18446744073709551616 := by
  obtain ⟨h1, h2, h3, h4, h5, h6, h7, h8, h9, ha, hb, hc, hd⟩ := hw
  obtain ⟨m1, m2, m3, m4⟩ := hm
  have e1 := b8_lt h.po
  have e2 := b8_lt h.pr
  intro x hx
  simp [numsH, first8] at hx
  omega

attribute [local go_sem ↓] loadP_eq storeP_eq boxP_eq

theorem pput_no (w : World) (h : Hd) (x : Xt) (hm : ¬ mayH h) :
    Calls Try.prog 8 #[pkV h x] w fun e w' => e = .returned (.tuple #[.slice none 0 0, .int .i64 1]) ∧ Below w.heap.size w w' := by
  have hm' := decide_eq_false hm
  have bx := box_pk h x
  have LD := load_pk (heap_alloc_new w (.cells (pkC h x) 27))
  clear hm
  go_enter Try.func8, Try.ntmps8
  go_wp2_with fail
  refine (pmay_any _ h x).mono ?_; rintro e w1 ⟨rfl, l⟩
  have FIN : Hid (Below w.heap.size w w1) := (((Out.refl w).alloc _ _).trans l).b
  clear l
  rw [hm']
  go_wp2
  go_ret2
  exact ⟨rfl, FIN.out⟩

theorem play_head (w : World) (p q : Option Addr) (c c' : Nat) (h : Hd) (hw : h.wf) (hm : mayH h) (hz : Holds w p 11 c (valsI .i64 sizesH)) (hx : Holds w q 11 c' (valsN .u64 (numsH h))) :
    Calls Try.prog 18 #[.slice p 11 c, .slice q 11 c'] w (RowPost w 48 (bytesH h)) := by
  refine (play_any w p q 11 c c' 48 sizesH (numsH h) hz hx (numsH_64 h hw hm) (by omega) sizesH_ok sizesH_at).mono fun e w' k => ?_
  rcases k with ⟨_, r⟩ | ⟨g, _⟩
  · exact r
  · exact absurd (numsH_fit h hw hm) g

set_option maxHeartbeats 4000000 in
theorem pput_ok (w : World) (h : Hd) (x : Xt) (hw : h.wf) (hm : mayH h) :
    Calls Try.prog 8 #[pkV h x] w (RowPost w 48 (bytesH h)) := by
  have hm' := decide_eq_true hm
  have HM := Lib.hid hm
  have HW := Lib.hid hw
  have bx := box_pk h x
  have LD := load_pk (heap_alloc_new w (.cells (pkC h x) 27))
  clear hm hw
  go_enter Try.func8, Try.ntmps8
  go_wp2_with fail
  refine (pmay_any _ h x).mono ?_; rintro e w1 ⟨rfl, l⟩
  have W1 : Hid (Out w w1) := ((Out.refl w).alloc _ _).trans l
  have B1 : Hid (w1.heap[w.heap.size]? = some (.cells (pkC h x) 27 (0, 0))) := (l.b.block _ (by simp)).trans (heap_alloc_new _ _)
  clear l LD
  rw [hm']
  go_wp2_with fail
  refine (playout_any _).mono ?_; rintro e w2 ⟨rfl, l⟩
  have W2 : Hid (Out w w2) := W1.out.trans l
  have B2 : Hid (w2.heap[w.heap.size]? = some (.cells (pkC h x) 27 (0, 0))) := (l.b.block _ (Array.getElem?_eq_some_iff.1 B1.out).1).trans B1.out
  clear l
  go_wp2_with fail
  have W3 : Hid (Below w.heap.size w (w2.alloc (.cells #[.int .i64 1, .int .i64 1, .int .i64 1, .int .i64 1, .int .i64 4, .int .i64 4, .int .i64 4, .int .i64 8, .int .i64 8, .int .i64 8, .int .i64 8] 48))) := W2.out.b.alloc W2.out.b.size _
  have B3 : Hid ((w2.alloc (.cells #[.int .i64 1, .int .i64 1, .int .i64 1, .int .i64 1, .int .i64 4, .int .i64 4, .int .i64 4, .int .i64 8, .int .i64 8, .int .i64 8, .int .i64 8] 48)).heap[w.heap.size]? = some (.cells (pkC h x) 27 (0, 0))) := (Below.heap_alloc w2 _ _ (Array.getElem?_eq_some_iff.1 B2.out).1).trans B2.out
  have Z3 : Hid (Holds (w2.alloc (.cells #[.int .i64 1, .int .i64 1, .int .i64 1, .int .i64 1, .int .i64 4, .int .i64 4, .int .i64 4, .int .i64 8, .int .i64 8, .int .i64 8, .int .i64 8] 48)) (some ⟨w2.heap.size, 0, none⟩) 11 11 (valsI .i64 sizesH)) := blk_holds (cs := #[.int .i64 1, .int .i64 1, .int .i64 1, .int .i64 1, .int .i64 4, .int .i64 4, .int .i64 4, .int .i64 8, .int .i64 8, .int .i64 8, .int .i64 8]) (heap_alloc_new _ _) rfl (by unfold maxLen; omega)
  generalize w2.alloc (.cells #[.int .i64 1, .int .i64 1, .int .i64 1, .int .i64 1, .int .i64 4, .int .i64 4, .int .i64 4, .int .i64 8, .int .i64 8, .int .i64 8, .int .i64 8] 48) = w3 at *
  have HB0 : Below w3.heap.size w3 w3.drew := (Below.refl _ _).drew
  have K3 : Hid (∀ w', Below w3.heap.size w3 w' → (loadP (.pointer (some ⟨w.heap.size, 0, none⟩))).run Try.prog w' = .ok (pkV h x) w') := fun w' g => load_pk ((g.block _ (Array.getElem?_eq_some_iff.1 B3.out).1).trans B3.out)
  go_region_held3 (fun w' => (loadP (.pointer (some ⟨w.heap.size, 0, none⟩))).run Try.prog w' = .ok (pkV h x) w')
    (first | exact K3.out _ HB2 | exact K3.out _ HB1 | exact K3.out _ HB0)
    (first
      | (go_at_call 19; refine (pnumbers_any _ h x HW.out HM.out).mono ?_; rintro e w4 ⟨p4, c4, rfl, h4, o4⟩; have HB1 : Below w3.heap.size w3 w4 := HB0.trans (o4.b.mono HB0.size); have H4 := Lib.hid h4; clear h4 o4)
      | (go_at_call 18; refine (play_head _ _ _ _ _ h HW.out HM.out (Z3.out.below HB1) H4.out).mono ?_; rintro e w5 ⟨v5, rfl, o5, l5⟩; have HB2 : Below w3.heap.size w3 w5 := HB1.trans (l5.mono HB1.size); have O5 := Lib.hid o5; clear o5 l5))
  have FIN : Hid (RowPost w 48 (bytesH h) (.returned (.tuple #[v5, .int .i64 0])) w5) := ⟨v5, rfl, own_base O5.out (Nat.le_trans W3.out.size HB1.size), W3.out.trans (HB2.mono W3.out.size)⟩
  go_wp2
  go_ret2
  exact FIN.out

/-- Put, whatever the head. -/
theorem pput_any (w : World) (h : Hd) (x : Xt) (hw : h.wf) :
    Calls Try.prog 8 #[pkV h x] w (RowR w (if mayH h then bytesH h else []) (if mayH h then 0 else 1)) := by
  by_cases hm : mayH h
  · rw [if_pos hm, if_pos hm]
    exact (pput_ok w h x hw hm).mono fun e w' k => rowR_row (by unfold bytesH; rw [layT_at _ sizesH_ok (by decide), sizesH_at]) k
  · rw [if_neg hm, if_neg hm]
    exact (pput_no w h x hm).mono fun e w' k => rowR_nil k
end Go.Proofs.Ytjjbalgonkphjaa
