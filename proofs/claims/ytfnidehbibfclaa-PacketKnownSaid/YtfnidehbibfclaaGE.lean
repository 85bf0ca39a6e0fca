/- Texts of earlier layers, laid together: XHeadA XHeadB XHeadC XHeadD XHeadE XHeadF. -/
import Derived.Test.YtfnidehbibfclaaGA
import Derived.Test.YtfnidehbibfclaaGC
import Derived.Test.YtfnidehbibfclaaGB
import Derived.Deep.RegionHeld3
import Derived.StillTailTactics
import Derived.Laws.StructEq
set_option maxRecDepth 100000
/- Layer 4 (head): whether a head may be; its fields alone; its sizes and numbers. -/
namespace Go.Proofs.Ytfnidehbibfclaa
open Go.ChangeShapes Go.WideShapes Go.ChangeAt Go.RowKit

/-- whether it may be. -/
def mayH (h : Hd) : Prop := h.lp ≤ 3 ∧ 1 ≤ h.ve ∧ h.ve ≤ 4 ∧ h.mo ≤ 7
instance (h : Hd) : Decidable (mayH h) := by unfold mayH; exact inferInstance

theorem pmay_any (w : World) (h : Hd) (x : Xt) :
    Calls Try.prog 54 #[pkV h x] w fun e w' => e = .returned (.bool (decide (mayH h))) ∧ Out w w' := by
  obtain ⟨lp, ve, mo, st, po, pr, de, di, ri, rf, og, rc, xm⟩ := h
  obtain ⟨p, n, c, sg, ky, tg⟩ := x
  unfold pkV pkC
  simp only
  go_enter Try.func54, Try.ntmps54
  go_wp2
  all_goals
    go_ret
    refine ⟨ret_bool ?_, (Out.refl w).alloc _ _⟩
    rw [Bool.eq_iff_iff]
    simp only [decide_eq_true_eq, Bool.false_eq_true, false_iff]
    unfold mayH
    simp only
    omega

theorem rmay_any (w : World) (h : Hd) (x : Xt) :
    Calls Try.prog 42 #[pkV h x] w fun e w' => e = .returned (.bool (decide (mayH h))) ∧ Out w w' := by
  obtain ⟨lp, ve, mo, st, po, pr, de, di, ri, rf, og, rc, xm⟩ := h
  obtain ⟨p, n, c, sg, ky, tg⟩ := x
  unfold pkV pkC
  simp only
  go_enter Try.func42, Try.ntmps42
  go_wp2
  all_goals
    go_ret
    refine ⟨ret_bool ?_, (Out.refl w).alloc _ _⟩
    rw [Bool.eq_iff_iff]
    simp only [decide_eq_true_eq, Bool.false_eq_true, false_iff]
    unfold mayH
    simp only
    omega

/-- A head's fields alone, as the program compares them. -/
def flC (h : Hd) : Array Value := #[.int .u8 (h.lp : Nat), .int .u8 (h.ve : Nat), .int .u8 (h.mo : Nat), .int .u8 (h.st : Nat), .int .i8 h.po, .int .i8 h.pr, .int .u32 (h.de : Nat), .int .u32 (h.di : Nat), .int .u32 (h.ri : Nat), .int .u64 (h.rf : Nat), .int .u64 (h.og : Nat), .int .u64 (h.rc : Nat), .int .u64 (h.xm : Nat)]

theorem palone_any (w : World) (h : Hd) (x : Xt) :
    Calls Try.prog 73 #[pkV h x] w fun e w' => e = .returned (.agg (flC h)) ∧ Out w w' := by
  obtain ⟨lp, ve, mo, st, po, pr, de, di, ri, rf, og, rc, xm⟩ := h
  obtain ⟨p, n, c, sg, ky, tg⟩ := x
  unfold pkV pkC flC
  simp only
  go_enter Try.func73, Try.ntmps73
  go_wp2
  (try simp only [Exit.inBlock, Exit.then])
  refine bodyPost_ret (results_cell_row rfl _ _ (w.heap.size + 1) _ _ (0, 0) _ rfl (heap_alloc2_new _ _ _) Try.underlying103 rfl (by kernel_rfl)) rfl ?_
  exact ⟨rfl, ((Out.refl w).alloc _ _).alloc _ _⟩

theorem playout_any (w : World) :
    Calls Try.prog 55 #[] w fun e w' => e = .returned (.agg #[.int .i64 1, .int .i64 1, .int .i64 1, .int .i64 1, .int .i64 4, .int .i64 4, .int .i64 4, .int .i64 8, .int .i64 8, .int .i64 8, .int .i64 8]) ∧ Out w w' := by
  go_enter Try.func55, Try.ntmps55
  go_wp2
  (try simp only [Exit.inBlock, Exit.then])
  refine bodyPost_ret (results_cell_row rfl _ _ w.heap.size _ _ (0, 0) _ rfl (heap_alloc_new _ _) Try.underlying82 rfl (by kernel_rfl)) rfl ?_
  exact ⟨rfl, (Out.refl w).alloc _ _⟩

/-- a small number with a sign as a byte. -/
def b8 (z : Int) : Nat := (z % 256).toNat
theorem b8_lt (z : Int) : b8 z < 256 := by unfold b8; omega
theorem b8_wrap (z : Int) : IntKind.u8.wrap z = (b8 z : Int) := by rw [IntKind.wrap_u8]; unfold b8; omega
def first8 (h : Hd) : Nat := h.lp * 64 + h.ve * 8 + h.mo
/-- a head's numbers, in their order. -/
def numsH (h : Hd) : List Nat := [first8 h, h.st, b8 h.po, b8 h.pr, h.de, h.di, h.ri, h.rf, h.og, h.rc, h.xm]
theorem first_bits : ∀ (l : Fin 4) (v : Fin 5) (m : Fin 8), bits .or .u8 (bits .or .u8 ((l.val : Int) * 64 % 256) ((v.val : Int) * 8 % 256)) (m.val : Int) = ((l.val * 64 + v.val * 8 + m.val : Nat) : Int) := by decide +kernel

theorem pnumbers_any (w : World) (h : Hd) (x : Xt) (hw : h.wf) (hm : mayH h) :
    Calls Try.prog 57 #[pkV h x] w fun e w' => ∃ p c, e = .returned (.slice p 11 c) ∧ Holds w' p 11 c (valsN .u64 (numsH h)) ∧ Out w w' := by
  have f8 := first_bits ⟨h.lp, by have := hm.1; omega⟩ ⟨h.ve, by have := hm.2.2.1; omega⟩ ⟨h.mo, by have := hm.2.2.2; omega⟩
  obtain ⟨f, hf⟩ : ∃ f, f = first8 h := ⟨_, rfl⟩
  have f8b : f < 256 := by rw [hf]; unfold first8; obtain ⟨_, _, _, _⟩ := hm; omega
  obtain ⟨lp, ve, mo, st, po, pr, de, di, ri, rf, og, rc, xm⟩ := h
  obtain ⟨p, n, c, sg, ky, tg⟩ := x
  obtain ⟨h1, h2, h3, h4, h5, h6, h7, h8, h9, ha, hb, hc, hd⟩ := hw
  unfold first8 at hf
  simp only at f8 hf h1 h2 h3 h4 h5 h6 h7 h8 h9 ha hb hc hd
  rw [← hf] at f8
  have e1 := b8_wrap po
  have e2 := b8_wrap pr
  have e1b := b8_lt po
  have e2b := b8_lt pr
  unfold pkV pkC
  simp only
  unfold numsH first8
  simp only
  rw [← hf]
  generalize b8 po = bo at *
  generalize b8 pr = bp at *
  have FB := Lib.hid f8b
  clear hf
  go_enter Try.func57, Try.ntmps57
  go_wp2
  go_ret
  refine ⟨_, _, rfl, ?_, ((Out.refl w).alloc _ _).alloc _ _⟩
  exact blk_holds (cs := #[.int .u64 (f : Int), .int .u64 (st : Int), .int .u64 (bo : Int), .int .u64 (bp : Int), .int .u64 (de : Int), .int .u64 (di : Int), .int .u64 (ri : Int), .int .u64 (rf : Int), .int .u64 (og : Int), .int .u64 (rc : Int), .int .u64 (xm : Int)]) (heap_alloc2_new _ _ _) rfl (by unfold maxLen; omega)
end Go.Proofs.Ytfnidehbibfclaa
/- Layer 4 (head): the program's Put. -/
namespace Go.Proofs.Ytfnidehbibfclaa
open Go.ChangeShapes Go.WideShapes Go.ChangeAt Go.RowKit OctM

def sizesH : List Int := [1, 1, 1, 1, 4, 4, 4, 8, 8, 8, 8]
theorem sizesH_ok : okAll sizesH := by decide
theorem sizesH_at : atT sizesH 11 = 48 := by decide +kernel
/-- a head's bytes. -/
def bytesH (h : Hd) : List Nat := layT sizesH (numsH h) 11
theorem numsH_fit (h : Hd) (hw : h.wf) (hm : mayH h) : fitT sizesH (numsH h) 11 := by
  obtain ⟨h1, h2, h3, h4, h5, h6, h7, h8, h9, ha, hb, hc, hd⟩ := hw
  obtain ⟨m1, m2, m3, m4⟩ := hm
  have e1 := b8_lt h.po
  have e2 := b8_lt h.pr
  intro i hi
  have : i = 0 ∨ i = 1 ∨ i = 2 ∨ i = 3 ∨ i = 4 ∨ i = 5 ∨ i = 6 ∨ i = 7 ∨ i = 8 ∨ i = 9 ∨ i = 10 := by omega
  rcases this with rfl | rfl | rfl | rfl | rfl | rfl | rfl | rfl | rfl | rfl | rfl <;> simp [sizesH, numsH, first8] <;> omega
theorem numsH_64 (h : Hd) (hw : h.wf) (hm : mayH h) : ∀ x ∈ numsH h, x < 18446744073709551616 := by
  obtain ⟨h1, h2, h3, h4, h5, h6, h7, h8, h9, ha, hb, hc, hd⟩ := hw
  obtain ⟨m1, m2, m3, m4⟩ := hm
  have e1 := b8_lt h.po
  have e2 := b8_lt h.pr
  intro x hx
  simp [numsH, first8] at hx
  omega

attribute [local go_sem ↓] loadP_eq storeP_eq boxP_eq

theorem pput_no (w : World) (h : Hd) (x : Xt) (hm : ¬ mayH h) :
    Calls Try.prog 28 #[pkV h x] w fun e w' => e = .returned (.tuple #[.slice none 0 0, .int .i64 1]) ∧ Below w.heap.size w w' := by
  have hm' := decide_eq_false hm
  have bx := box_pk h x
  have LD := load_pk (heap_alloc_new w (.cells (pkC h x) 27))
  clear hm
  go_enter Try.func28, Try.ntmps28
  go_wp2_with fail
  refine (pmay_any _ h x).mono ?_; rintro e w1 ⟨rfl, l⟩
  have FIN : Hid (Below w.heap.size w w1) := (((Out.refl w).alloc _ _).trans l).b
  clear l
  rw [hm']
  go_wp2
  go_ret2
  exact ⟨rfl, FIN.out⟩

theorem play_head (w : World) (p q : Option Addr) (c c' : Nat) (h : Hd) (hw : h.wf) (hm : mayH h) (hz : Holds w p 11 c (valsI .i64 sizesH)) (hx : Holds w q 11 c' (valsN .u64 (numsH h))) :
    Calls Try.prog 56 #[.slice p 11 c, .slice q 11 c'] w (RowPost w 48 (bytesH h)) := by
  refine (play_any w p q 11 c c' 48 sizesH (numsH h) hz hx (numsH_64 h hw hm) (by omega) sizesH_ok sizesH_at).mono fun e w' k => ?_
  rcases k with ⟨_, r⟩ | ⟨g, _⟩
  · exact r
  · exact absurd (numsH_fit h hw hm) g

set_option maxHeartbeats 4000000 in
theorem pput_ok (w : World) (h : Hd) (x : Xt) (hw : h.wf) (hm : mayH h) :
    Calls Try.prog 28 #[pkV h x] w (RowPost w 48 (bytesH h)) := by
  have hm' := decide_eq_true hm
  have HM := Lib.hid hm
  have HW := Lib.hid hw
  have bx := box_pk h x
  have LD := load_pk (heap_alloc_new w (.cells (pkC h x) 27))
  clear hm hw
  go_enter Try.func28, Try.ntmps28
  go_wp2_with fail
  refine (pmay_any _ h x).mono ?_; rintro e w1 ⟨rfl, l⟩
  have W1 : Hid (Out w w1) := ((Out.refl w).alloc _ _).trans l
  have B1 : Hid (w1.heap[w.heap.size]? = some (.cells (pkC h x) 27 (0, 0))) := (l.b.block _ (by simp)).trans (heap_alloc_new _ _)
  clear l LD
  rw [hm']
  go_wp2_with fail
  refine (playout_any _).mono ?_; rintro e w2 ⟨rfl, l⟩
  have W2 : Hid (Out w w2) := W1.out.trans l
  have B2 : Hid (w2.heap[w.heap.size]? = some (.cells (pkC h x) 27 (0, 0))) := (l.b.block _ (Array.getElem?_eq_some_iff.1 B1.out).1).trans B1.out
  clear l
  go_wp2_with fail
  have W3 : Hid (Below w.heap.size w (w2.alloc (.cells #[.int .i64 1, .int .i64 1, .int .i64 1, .int .i64 1, .int .i64 4, .int .i64 4, .int .i64 4, .int .i64 8, .int .i64 8, .int .i64 8, .int .i64 8] 82))) := W2.out.b.alloc W2.out.b.size _
  have B3 : Hid ((w2.alloc (.cells #[.int .i64 1, .int .i64 1, .int .i64 1, .int .i64 1, .int .i64 4, .int .i64 4, .int .i64 4, .int .i64 8, .int .i64 8, .int .i64 8, .int .i64 8] 82)).heap[w.heap.size]? = some (.cells (pkC h x) 27 (0, 0))) := (Below.heap_alloc w2 _ _ (Array.getElem?_eq_some_iff.1 B2.out).1).trans B2.out
  have Z3 : Hid (Holds (w2.alloc (.cells #[.int .i64 1, .int .i64 1, .int .i64 1, .int .i64 1, .int .i64 4, .int .i64 4, .int .i64 4, .int .i64 8, .int .i64 8, .int .i64 8, .int .i64 8] 82)) (some ⟨w2.heap.size, 0, none⟩) 11 11 (valsI .i64 sizesH)) := blk_holds (cs := #[.int .i64 1, .int .i64 1, .int .i64 1, .int .i64 1, .int .i64 4, .int .i64 4, .int .i64 4, .int .i64 8, .int .i64 8, .int .i64 8, .int .i64 8]) (heap_alloc_new _ _) rfl (by unfold maxLen; omega)
  generalize w2.alloc (.cells #[.int .i64 1, .int .i64 1, .int .i64 1, .int .i64 1, .int .i64 4, .int .i64 4, .int .i64 4, .int .i64 8, .int .i64 8, .int .i64 8, .int .i64 8] 82) = w3 at *
  have HB0 : Below w3.heap.size w3 w3.drew := (Below.refl _ _).drew
  have K3 : Hid (∀ w', Below w3.heap.size w3 w' → (loadP (.pointer (some ⟨w.heap.size, 0, none⟩))).run Try.prog w' = .ok (pkV h x) w') := fun w' g => load_pk ((g.block _ (Array.getElem?_eq_some_iff.1 B3.out).1).trans B3.out)
  go_region_held3 (fun w' => (loadP (.pointer (some ⟨w.heap.size, 0, none⟩))).run Try.prog w' = .ok (pkV h x) w')
    (first | exact K3.out _ HB2 | exact K3.out _ HB1 | exact K3.out _ HB0)
    (first
      | (go_at_call 57; refine (pnumbers_any _ h x HW.out HM.out).mono ?_; rintro e w4 ⟨p4, c4, rfl, h4, o4⟩; have HB1 : Below w3.heap.size w3 w4 := HB0.trans (o4.b.mono HB0.size); have H4 := Lib.hid h4; clear h4 o4)
      | (go_at_call 56; refine (play_head _ _ _ _ _ h HW.out HM.out (Z3.out.below HB1) H4.out).mono ?_; rintro e w5 ⟨v5, rfl, o5, l5⟩; have HB2 : Below w3.heap.size w3 w5 := HB1.trans (l5.mono HB1.size); have O5 := Lib.hid o5; clear o5 l5))
  have FIN : Hid (RowPost w 48 (bytesH h) (.returned (.tuple #[v5, .int .i64 0])) w5) := ⟨v5, rfl, own_base O5.out (Nat.le_trans W3.out.size HB1.size), W3.out.trans (HB2.mono W3.out.size)⟩
  go_wp2
  go_ret2
  exact FIN.out

end Go.Proofs.Ytfnidehbibfclaa
/- Layer 4 (head): the program's Parse. -/
namespace Go.Proofs.Ytfnidehbibfclaa
open Go.ChangeShapes Go.WideShapes Go.ChangeAt Go.RowKit OctM

/-- a byte as a small number with a sign. -/
def s8 (n : Nat) : Int := if n < 128 then (n : Int) else (n : Int) - 256
theorem s8_wrap (n : Nat) (h : n < 256) : IntKind.i8.wrap (n : Int) = s8 n := by
  exact (by decide +kernel : ∀ n : Fin 256, IntKind.i8.wrap (n.val : Int) = s8 n.val) ⟨n, h⟩
/-- the head whose numbers these are. -/
def hdOf (f s a b de di ri rf og rc xm : Nat) : Hd := ⟨f / 64, f / 8 % 8, f % 8, s, s8 a, s8 b, de, di, ri, rf, og, rc, xm⟩
theorem and7 : ∀ n : Fin 256, bits .and .u8 (n.val : Int) 7 = ((n.val % 8 : Nat) : Int) := by decide +kernel

attribute [local go_sem ↓] loadP_eq storeP_eq boxP_eq allocP_eq
theorem ppacket_any (w : World) (p : Option Addr) (c : Nat) (f s a b de di ri rf og rc xm : Nat) (hx : Holds w p 11 c (valsN .u64 [f, s, a, b, de, di, ri, rf, og, rc, xm]))
    (b0 : f < 256) (b1 : s < 256) (b2 : a < 256) (b3 : b < 256) (b4 : de < 4294967296) (b5 : di < 4294967296) (b6 : ri < 4294967296) :
    Calls Try.prog 77 #[.slice p 11 c] w fun e w' => e = .returned (pkV (hdOf f s a b de di ri rf og rc xm) Xt.zero) ∧ Below w.heap.size w w' := by
  obtain ⟨ad, rfl, -⟩ := hx.atN (i := 0) (by omega)
  have bx := hx.below (w' := w.alloc (.cells (pkC Hd.zero Xt.zero) 27)) ((Below.refl _ _).alloc (Nat.le_refl _) _)
  have CE : ∀ i (hi : i < 11), (w.alloc (.cells (pkC Hd.zero Xt.zero) 27)).cell? (ad.add i) = some (.int .u64 ([f, s, a, b, de, di, ri, rf, og, rc, xm].getD i 0 : Nat)) := by
    intro i hi
    obtain ⟨a', e, h⟩ := bx.atN hi
    cases e
    exact h
  have c0 := CE 0 (by omega)
  have c1 := CE 1 (by omega)
  have c2 := CE 2 (by omega)
  have c3 := CE 3 (by omega)
  have c4 := CE 4 (by omega)
  have c5 := CE 5 (by omega)
  have c6 := CE 6 (by omega)
  have c7 := CE 7 (by omega)
  have c8 := CE 8 (by omega)
  have c9 := CE 9 (by omega)
  have c10 := CE 10 (by omega)
  simp only [List.getD_cons_zero, List.getD_cons_succ] at c0 c1 c2 c3 c4 c5 c6 c7 c8 c9 c10
  have H0 : Hid ((w.alloc (.cells (pkC Hd.zero Xt.zero) 27)).heap[w.heap.size]? = some (.cells (pkC Hd.zero Xt.zero) 27 (0, 0))) := heap_alloc_new w _
  have L0 : Hid (Below w.heap.size w (w.alloc (.cells (pkC Hd.zero Xt.zero) 27))) := (Below.refl _ _).alloc (Nat.le_refl _) _
  have c0' := c0
  rw [show ad.add 0 = ad from rfl] at c0'
  have al := alloc_pk
  obtain ⟨q6, h6⟩ : ∃ q, q = f / 64 := ⟨_, rfl⟩
  obtain ⟨q3, h3⟩ : ∃ q, q = f / 8 := ⟨_, rfl⟩
  obtain ⟨r3, hr⟩ : ∃ q, q = q3 % 8 := ⟨_, rfl⟩
  obtain ⟨m7, hm⟩ : ∃ q, q = f % 8 := ⟨_, rfl⟩
  obtain ⟨sa, hsa⟩ : ∃ q, q = s8 a := ⟨_, rfl⟩
  obtain ⟨sb, hsb⟩ : ∃ q, q = s8 b := ⟨_, rfl⟩
  have e1 := and7 ⟨f, b0⟩
  have e2 := and7 ⟨q3, by omega⟩
  have e3 := s8_wrap a b2
  have e4 := s8_wrap b b3
  have e5 : (f : Int) / 64 = (q6 : Int) := by omega
  have e6 : (f : Int) / 8 = (q3 : Int) := by omega
  simp only at e1 e2
  rw [← hm] at e1
  rw [← hr] at e2
  rw [← hsa] at e3
  rw [← hsb] at e4
  have eh : hdOf f s a b de di ri rf og rc xm = ⟨q6, r3, m7, s, sa, sb, de, di, ri, rf, og, rc, xm⟩ := by unfold hdOf; rw [← h3, ← h6, ← hr, ← hm, ← hsa, ← hsb]
  rw [eh]
  clear eh h6 h3 hr hm hsa hsb CE bx hx
  go_enter Try.func77, Try.ntmps77
  go_wp2_with fail
  generalize w.alloc (.cells (pkC Hd.zero Xt.zero) 27) = W at *
  have st : ∀ i, i ≠ 0 → ad.add i = ⟨ad.block, ad.off + i, none⟩ := fun i hi => by unfold Addr.add; rw [if_neg hi]
  rw [st 1 (by omega)] at c1
  rw [st 2 (by omega)] at c2
  rw [st 3 (by omega)] at c3
  rw [st 4 (by omega)] at c4
  rw [st 5 (by omega)] at c5
  rw [st 6 (by omega)] at c6
  rw [st 7 (by omega)] at c7
  rw [st 8 (by omega)] at c8
  rw [st 9 (by omega)] at c9
  rw [st 10 (by omega)] at c10
  clear st c0
  go_still_tail 44, (by kernel_rfl)
  change wpList _ _ _ _ _ W.drew
  have HV : W.drew.heap[w.heap.size]? = some (.cells (pkC Hd.zero Xt.zero) 27 (0, 0)) := H0.out
  have LV : Hid (Below w.heap.size w W.drew) := L0.out.drew
  generalize W.drew = V at *
  obtain ⟨C, hC⟩ : ∃ C, C = pkC ⟨q6, r3, m7, s, sa, sb, de, di, ri, rf, og, rc, xm⟩ Xt.zero := ⟨_, rfl⟩
  have SF : (storeP (.pointer (some ⟨w.heap.size, 0, none⟩)) (.agg #[.int .u8 (q6 : Int), .int .u8 (r3 : Int), .int .u8 (m7 : Int), .int .u8 (s : Int), .int .i8 sa, .int .i8 sb, .int .u32 (de : Int), .int .u32 (di : Int), .int .u32 (ri : Int), .int .u64 (rf : Int), .int .u64 (og : Int), .int .u64 (rc : Int), .int .u64 (xm : Int), .slice none 0 0, .bool false, .int .u32 0, .int .u64 0])).run Try.prog V = .ok () (V.setRow w.heap.size C) := by
    rw [hC]; exact store_pk ⟨q6, r3, m7, s, sa, sb, de, di, ri, rf, og, rc, xm⟩ Xt.zero HV rfl
  have FIN : Hid (Below w.heap.size w (V.setRow w.heap.size C)) := Below.setRow LV.out (Nat.le_refl _) C
  have HG : Hid ((V.setRow w.heap.size C).heap[w.heap.size]? = some (.cells C 27 (0, 0))) := setRow_heap _ _ _ _ _ _ HV
  replace HV := Lib.hid HV
  go_wp2
  rw [SF]
  go_wp2
  (try simp only [Exit.inBlock, Exit.then])
  subst hC
  refine bodyPost_ret (results_pk1 rfl _ _ w.heap.size _ Xt.zero rfl HG.out) rfl ?_
  exact ⟨rfl, FIN.out⟩
end Go.Proofs.Ytfnidehbibfclaa
/- Layer 4 (head): the program's Parse. -/
namespace Go.Proofs.Ytfnidehbibfclaa
open Go.ChangeShapes Go.WideShapes Go.ChangeAt Go.RowKit OctM

/-- the numbers of the 48 bytes, in their order; the head that they are. -/
def numP (ds : List Nat) (i : Nat) : Nat := (takT sizesH ds 11).getD i 0
def hdP (ds : List Nat) : Hd := hdOf (numP ds 0) (numP ds 1) (numP ds 2) (numP ds 3) (numP ds 4) (numP ds 5) (numP ds 6) (numP ds 7) (numP ds 8) (numP ds 9) (numP ds 10)
theorem numP_list (ds : List Nat) : takT sizesH ds 11 = [numP ds 0, numP ds 1, numP ds 2, numP ds 3, numP ds 4, numP ds 5, numP ds 6, numP ds 7, numP ds 8, numP ds 9, numP ds 10] := by
  have l := takT_len sizesH ds 11
  unfold numP
  generalize takT sizesH ds 11 = L at *
  obtain ⟨x0, L, rfl⟩ := List.exists_cons_of_length_eq_add_one l
  obtain ⟨x1, L, rfl⟩ := List.exists_cons_of_length_eq_add_one (by simpa using l : L.length = 9 + 1)
  obtain ⟨x2, L, rfl⟩ := List.exists_cons_of_length_eq_add_one (by simpa using l : L.length = 8 + 1)
  obtain ⟨x3, L, rfl⟩ := List.exists_cons_of_length_eq_add_one (by simpa using l : L.length = 7 + 1)
  obtain ⟨x4, L, rfl⟩ := List.exists_cons_of_length_eq_add_one (by simpa using l : L.length = 6 + 1)
  obtain ⟨x5, L, rfl⟩ := List.exists_cons_of_length_eq_add_one (by simpa using l : L.length = 5 + 1)
  obtain ⟨x6, L, rfl⟩ := List.exists_cons_of_length_eq_add_one (by simpa using l : L.length = 4 + 1)
  obtain ⟨x7, L, rfl⟩ := List.exists_cons_of_length_eq_add_one (by simpa using l : L.length = 3 + 1)
  obtain ⟨x8, L, rfl⟩ := List.exists_cons_of_length_eq_add_one (by simpa using l : L.length = 2 + 1)
  obtain ⟨x9, L, rfl⟩ := List.exists_cons_of_length_eq_add_one (by simpa using l : L.length = 1 + 1)
  obtain ⟨x10, L, rfl⟩ := List.exists_cons_of_length_eq_add_one (by simpa using l : L.length = 0 + 1)
  obtain rfl : L = [] := List.length_eq_zero_iff.1 (by simpa using l)
  rfl
theorem numP_lt {ds : List Nat} (hy : Byt ds) (i : Nat) (hi : i < 11) : numP ds i < 256 ^ (sizesH.getD i 0).toNat := take_fit sizesH hy 11 i hi

theorem psizes (w2 : World) : Holds (w2.alloc (.cells #[.int .i64 1, .int .i64 1, .int .i64 1, .int .i64 1, .int .i64 4, .int .i64 4, .int .i64 4, .int .i64 8, .int .i64 8, .int .i64 8, .int .i64 8] 82)) (some ⟨w2.heap.size, 0, none⟩) 11 11 (valsI .i64 sizesH) :=
  blk_holds (cs := #[.int .i64 1, .int .i64 1, .int .i64 1, .int .i64 1, .int .i64 4, .int .i64 4, .int .i64 4, .int .i64 8, .int .i64 8, .int .i64 8, .int .i64 8]) (heap_alloc_new _ _) rfl (by unfold maxLen; omega)

attribute [local go_sem ↓] loadP_eq storeP_eq boxP_eq allocP_eq zeroP_eq zeroP_eq'
theorem pparse_short (w : World) (p : Option Addr) (n c : Nat) (h : n < 48) :
    Calls Try.prog 47 #[.slice p n c] w (TellPost w (.returned (.tuple #[pkV Hd.zero Xt.zero, .slice none 0 0, .int .i64 4]))) := by
  have al := alloc_pk
  have zr := zero_pk
  have NS : Hid ((n : Int) < sumI sizesH) := by unfold Hid; rw [← atT_all sizesH_ok]; show _ < ((atT sizesH 11 : Nat) : Int); rw [sizesH_at]; omega
  have L1 : Hid (Below w.heap.size w (w.alloc (.cells (pkC Hd.zero Xt.zero) 27))) := (Below.refl _ _).alloc (Nat.le_refl _) _
  have B1 : Hid ((w.alloc (.cells (pkC Hd.zero Xt.zero) 27)).heap[w.heap.size]? = some (.cells (pkC Hd.zero Xt.zero) 27 (0, 0))) := heap_alloc_new w _
  have S1 : Hid (w.heap.size < (w.alloc (.cells (pkC Hd.zero Xt.zero) 27)).heap.size) := by unfold Hid; simp
  clear h
  go_enter Try.func47, Try.ntmps47
  go_wp2_with fail
  refine (playout_any _).mono ?_; rintro e w2 ⟨rfl, l⟩
  have W2 : Hid (Below w.heap.size w w2) := L1.out.trans (l.b.mono (Nat.le_of_lt S1.out))
  have B2 : Hid (w2.heap[w.heap.size]? = some (.cells (pkC Hd.zero Xt.zero) 27 (0, 0))) := (l.b.block _ S1.out).trans B1.out
  clear l
  go_wp2_with fail
  refine (ptake_short _ _ p 11 11 n c sizesH (psizes w2) (by omega) sizesH_ok NS.out).mono ?_
  rintro e w3 ⟨rfl, l⟩
  have L23 : Hid (Below w2.heap.size w2 w3) := ((Below.refl _ _).alloc (Nat.le_refl _) _).trans (l.mono (by simp))
  have B3 : Hid (w3.heap[w.heap.size]? = some (.cells (pkC Hd.zero Xt.zero) 27 (0, 0))) := (L23.out.block _ (Array.getElem?_eq_some_iff.1 B2.out).1).trans B2.out
  have FIN : Hid (Below w.heap.size w w3) := W2.out.trans (L23.out.mono W2.out.size)
  have SS := store_same B3.out
  clear l
  go_wp2
  (try simp only [Exit.inBlock, Exit.then])
  refine bodyPost_ret (results_pk3 rfl _ _ w.heap.size _ Xt.zero rfl B3.out) rfl ?_
  exact ⟨rfl, FIN.out⟩

/-- A row of bytes stays where a packet's block is laid anew. -/
theorem own_row {w : World} {B N : Nat} {r : Value} {n : Nat} {vs : List Value} {c old : Array Value} (h : w.ownsRow B 5 1 r n vs) (hg : w.heap[N]? = some (.cells old 27 (0, 0))) (_ho : old.size = 17) : (w.setRow N c).ownsRow B 5 1 r n vs := by
  refine ⟨h.1, ?_⟩
  rcases h.2 with hn | ⟨g, cap, cur, rfl, hb', hg', q⟩
  · exact .inl hn
  · refine .inr ⟨g, cap, cur, rfl, hb', ?_, q⟩
    have ne : g ≠ N := fun e => by subst e; rw [hg'] at hg; simp at hg
    rw [setRow_other _ _ _ _ ne]
    exact hg'

/-- What Parse tells of bytes that have a head. -/
structure ParsePost (w : World) (n : Nat) (ds : List Nat) (e : Ending) (w' : World) : Prop where
  out : ∃ r, e = .returned (.tuple #[pkV (hdP ds) Xt.zero, r, .int .i64 0]) ∧ w'.ownsRow w.heap.size 5 1 r (n - 48) (valsN .u8 (ds.drop 48)) ∧ Below w.heap.size w w'

set_option maxHeartbeats 4000000 in
theorem pparse_form (w : World) (p : Option Addr) (n c : Nat) (ds : List Nat) (hd : Holds w p n c (valsN .u8 ds)) (hy : Byt ds) (h48 : 48 ≤ n) (hn : n ≤ 10000) (hm : ¬ mayH (hdP ds)) :
    Calls Try.prog 47 #[.slice p n c] w (TellPost w (.returned (.tuple #[pkV Hd.zero Xt.zero, .slice none 0 0, .int .i64 5]))) := by
  have al := alloc_pk
  have zr := zero_pk
  have sn := fun w h x => store_new w (pkC Hd.zero Xt.zero) h x rfl
  have HD := Lib.hid hd
  have HY := Lib.hid hy
  have H48 := Lib.hid h48
  have HN := Lib.hid hn
  have DM := Lib.hid (decide_eq_false hm)
  have L1 : Hid (Below w.heap.size w (w.alloc (.cells (pkC Hd.zero Xt.zero) 27))) := (Below.refl _ _).alloc (Nat.le_refl _) _
  have B1 : Hid ((w.alloc (.cells (pkC Hd.zero Xt.zero) 27)).heap[w.heap.size]? = some (.cells (pkC Hd.zero Xt.zero) 27 (0, 0))) := heap_alloc_new w _
  have S1 : Hid (w.heap.size < (w.alloc (.cells (pkC Hd.zero Xt.zero) 27)).heap.size) := by unfold Hid; simp
  clear hd hy h48 hn hm
  go_enter Try.func47, Try.ntmps47
  go_wp2_with fail
  refine (playout_any _).mono ?_; rintro e w2 ⟨rfl, l⟩
  have W2 : Hid (Below w.heap.size w w2) := L1.out.trans (l.b.mono (Nat.le_of_lt S1.out))
  have B2 : Hid (w2.heap[w.heap.size]? = some (.cells (pkC Hd.zero Xt.zero) 27 (0, 0))) := (l.b.block _ S1.out).trans B1.out
  clear l
  go_wp2_with fail
  refine (ptake_ok _ _ p 11 11 n c 48 sizesH ds (psizes w2) ((HD.out.below W2.out).below ((Below.refl _ _).alloc (Nat.le_refl _) _)) HY.out (by omega) HN.out sizesH_ok sizesH_at H48.out).mono ?_
  rintro e w3 ⟨v, r, rfl, ov, orr, l⟩
  have L23 : Hid (Below w2.heap.size w2 w3) := ((Below.refl _ _).alloc (Nat.le_refl _) _).trans (l.mono (by simp))
  have B3 : Hid (w3.heap[w.heap.size]? = some (.cells (pkC Hd.zero Xt.zero) 27 (0, 0))) := (L23.out.block _ (Array.getElem?_eq_some_iff.1 B2.out).1).trans B2.out
  have W3 : Hid (Below w.heap.size w w3) := W2.out.trans (L23.out.mono W2.out.size)
  obtain ⟨pv, cv, rfl, hv⟩ := own_holds ov
  rw [numP_list] at hv
  have HV := Lib.hid hv
  have OR : Hid (w3.ownsRow w.heap.size 5 1 r (n - 48) (valsN .u8 (ds.drop 48))) := own_base orr (by rw [World.size_alloc]; have := W2.out.size; omega)
  clear l ov orr hv
  go_wp2_with fail
  refine (ppacket_any _ pv cv _ _ _ _ _ _ _ _ _ _ _ HV.out (numP_lt HY.out 0 (by omega)) (numP_lt HY.out 1 (by omega)) (numP_lt HY.out 2 (by omega)) (numP_lt HY.out 3 (by omega)) (numP_lt HY.out 4 (by omega)) (numP_lt HY.out 5 (by omega)) (numP_lt HY.out 6 (by omega))).mono ?_
  rintro e w4 ⟨rfl, l⟩
  change Below w3.heap.size w3 w4 at l
  have L34 := Lib.hid l
  have W4 : Hid (Below w.heap.size w (w4.alloc (.cells (pkC (hdP ds) Xt.zero) 27))) := (W3.out.trans (l.mono W3.out.size)).alloc (Nat.le_trans W3.out.size l.size) _
  have L35 : Hid (Below w3.heap.size w3 (w4.alloc (.cells (pkC (hdP ds) Xt.zero) 27))) := l.alloc l.size _
  have LD4 := load_pk (heap_alloc_new w4 (.cells (pkC (hdP ds) Xt.zero) 27))
  clear l
  rw [show hdOf (numP ds 0) (numP ds 1) (numP ds 2) (numP ds 3) (numP ds 4) (numP ds 5) (numP ds 6) (numP ds 7) (numP ds 8) (numP ds 9) (numP ds 10) = hdP ds from rfl]
  go_wp2_with fail
  refine (pmay_any _ (hdP ds) Xt.zero).mono ?_
  rintro e w5 ⟨rfl, l⟩
  have W5 : Hid (Below w.heap.size w w5) := W4.out.trans (l.b.mono W4.out.size)
  have L5 : Hid (Below w3.heap.size w3 w5) := L35.out.trans (l.b.mono L35.out.size)
  have B5 : Hid (w5.heap[w.heap.size]? = some (.cells (pkC Hd.zero Xt.zero) 27 (0, 0))) := (L5.out.block _ (Array.getElem?_eq_some_iff.1 B3.out).1).trans B3.out
  have LD5 := load_pk ((l.b.block _ (by simp)).trans (heap_alloc_new w4 (.cells (pkC (hdP ds) Xt.zero) 27)))
  rw [DM.out]
  clear l LD4
  have SS := store_same B5.out
  go_wp2
  (try simp only [Exit.inBlock, Exit.then])
  refine bodyPost_ret (results_pk3 rfl _ _ w.heap.size _ Xt.zero rfl B5.out) rfl ?_
  exact ⟨rfl, W5.out⟩

set_option maxHeartbeats 4000000 in
theorem pparse_ok (w : World) (p : Option Addr) (n c : Nat) (ds : List Nat) (hd : Holds w p n c (valsN .u8 ds)) (hy : Byt ds) (h48 : 48 ≤ n) (hn : n ≤ 10000) (hm : mayH (hdP ds)) :
    Calls Try.prog 47 #[.slice p n c] w (ParsePost w n ds) := by
  have al := alloc_pk
  have zr := zero_pk
  have sn := fun w h x => store_new w (pkC Hd.zero Xt.zero) h x rfl
  have HD := Lib.hid hd
  have HY := Lib.hid hy
  have H48 := Lib.hid h48
  have HN := Lib.hid hn
  have DM := Lib.hid (decide_eq_true hm)
  have L1 : Hid (Below w.heap.size w (w.alloc (.cells (pkC Hd.zero Xt.zero) 27))) := (Below.refl _ _).alloc (Nat.le_refl _) _
  have B1 : Hid ((w.alloc (.cells (pkC Hd.zero Xt.zero) 27)).heap[w.heap.size]? = some (.cells (pkC Hd.zero Xt.zero) 27 (0, 0))) := heap_alloc_new w _
  have S1 : Hid (w.heap.size < (w.alloc (.cells (pkC Hd.zero Xt.zero) 27)).heap.size) := by unfold Hid; simp
  clear hd hy h48 hn hm
  go_enter Try.func47, Try.ntmps47
  go_wp2_with fail
  refine (playout_any _).mono ?_; rintro e w2 ⟨rfl, l⟩
  have W2 : Hid (Below w.heap.size w w2) := L1.out.trans (l.b.mono (Nat.le_of_lt S1.out))
  have B2 : Hid (w2.heap[w.heap.size]? = some (.cells (pkC Hd.zero Xt.zero) 27 (0, 0))) := (l.b.block _ S1.out).trans B1.out
  clear l
  go_wp2_with fail
  refine (ptake_ok _ _ p 11 11 n c 48 sizesH ds (psizes w2) ((HD.out.below W2.out).below ((Below.refl _ _).alloc (Nat.le_refl _) _)) HY.out (by omega) HN.out sizesH_ok sizesH_at H48.out).mono ?_
  rintro e w3 ⟨v, r, rfl, ov, orr, l⟩
  have L23 : Hid (Below w2.heap.size w2 w3) := ((Below.refl _ _).alloc (Nat.le_refl _) _).trans (l.mono (by simp))
  have B3 : Hid (w3.heap[w.heap.size]? = some (.cells (pkC Hd.zero Xt.zero) 27 (0, 0))) := (L23.out.block _ (Array.getElem?_eq_some_iff.1 B2.out).1).trans B2.out
  have W3 : Hid (Below w.heap.size w w3) := W2.out.trans (L23.out.mono W2.out.size)
  obtain ⟨pv, cv, rfl, hv⟩ := own_holds ov
  rw [numP_list] at hv
  have HV := Lib.hid hv
  have OR : Hid (w3.ownsRow w.heap.size 5 1 r (n - 48) (valsN .u8 (ds.drop 48))) := own_base orr (by rw [World.size_alloc]; have := W2.out.size; omega)
  clear l ov orr hv
  go_wp2_with fail
  refine (ppacket_any _ pv cv _ _ _ _ _ _ _ _ _ _ _ HV.out (numP_lt HY.out 0 (by omega)) (numP_lt HY.out 1 (by omega)) (numP_lt HY.out 2 (by omega)) (numP_lt HY.out 3 (by omega)) (numP_lt HY.out 4 (by omega)) (numP_lt HY.out 5 (by omega)) (numP_lt HY.out 6 (by omega))).mono ?_
  rintro e w4 ⟨rfl, l⟩
  change Below w3.heap.size w3 w4 at l
  have L34 := Lib.hid l
  have W4 : Hid (Below w.heap.size w (w4.alloc (.cells (pkC (hdP ds) Xt.zero) 27))) := (W3.out.trans (l.mono W3.out.size)).alloc (Nat.le_trans W3.out.size l.size) _
  have L35 : Hid (Below w3.heap.size w3 (w4.alloc (.cells (pkC (hdP ds) Xt.zero) 27))) := l.alloc l.size _
  have LD4 := load_pk (heap_alloc_new w4 (.cells (pkC (hdP ds) Xt.zero) 27))
  clear l
  rw [show hdOf (numP ds 0) (numP ds 1) (numP ds 2) (numP ds 3) (numP ds 4) (numP ds 5) (numP ds 6) (numP ds 7) (numP ds 8) (numP ds 9) (numP ds 10) = hdP ds from rfl]
  go_wp2_with fail
  refine (pmay_any _ (hdP ds) Xt.zero).mono ?_
  rintro e w5 ⟨rfl, l⟩
  have W5 : Hid (Below w.heap.size w w5) := W4.out.trans (l.b.mono W4.out.size)
  have L5 : Hid (Below w3.heap.size w3 w5) := L35.out.trans (l.b.mono L35.out.size)
  have B5 : Hid (w5.heap[w.heap.size]? = some (.cells (pkC Hd.zero Xt.zero) 27 (0, 0))) := (L5.out.block _ (Array.getElem?_eq_some_iff.1 B3.out).1).trans B3.out
  have LD5 := load_pk ((l.b.block _ (by simp)).trans (heap_alloc_new w4 (.cells (pkC (hdP ds) Xt.zero) 27)))
  rw [DM.out]
  clear l LD4
  have SS := store_pk (hdP ds) Xt.zero B5.out rfl
  have FIN : Hid (ParsePost w n ds (.returned (.tuple #[pkV (hdP ds) Xt.zero, r, .int .i64 0])) (w5.setRow w.heap.size (pkC (hdP ds) Xt.zero))) :=
    ⟨r, rfl, own_row (own_keep OR.out L5.out) B5.out rfl, Below.setRow W5.out (Nat.le_refl _) _⟩
  have BF : Hid ((w5.setRow w.heap.size (pkC (hdP ds) Xt.zero)).heap[w.heap.size]? = some (.cells (pkC (hdP ds) Xt.zero) 27 (0, 0))) := setRow_heap _ _ _ _ _ _ B5.out
  go_wp2
  (try simp only [Exit.inBlock, Exit.then])
  refine bodyPost_ret (results_pk3 rfl _ _ w.heap.size _ Xt.zero rfl BF.out) rfl ?_
  exact FIN.out
end Go.Proofs.Ytfnidehbibfclaa
/- Layer 4 (head): two heads' fields are compared as a struct. -/
namespace Go.Proofs.Ytfnidehbibfclaa
open Go.ChangeShapes Go.WideShapes Go.ChangeAt Go.RowKit

instance : DecidableEq Hd := fun a b => decidable_of_iff (a.lp = b.lp ∧ a.ve = b.ve ∧ a.mo = b.mo ∧ a.st = b.st ∧ a.po = b.po ∧ a.pr = b.pr ∧ a.de = b.de ∧ a.di = b.di ∧ a.ri = b.ri ∧ a.rf = b.rf ∧ a.og = b.og ∧ a.rc = b.rc ∧ a.xm = b.xm) (by cases a; cases b; simp)

def eqlF (x y : Value) : Sem Value := binOp .eql 103 x y
theorem eqlF_eq (x y : Value) : binOp .eql 103 x y = eqlF x y := rfl
def guardF (a b : Operand) (x y : Value) : Sem Unit := eqGuard .eql 103 a b x y
theorem guardF_eq (a b : Operand) (x y : Value) : eqGuard .eql 103 a b x y = guardF a b x y := rfl

theorem guard_fl (w : World) (a b : Operand) (h g : Hd) : (guardF a b (.agg (flC h)) (.agg (flC g))).run Try.prog w = .ok () w :=
  run_eqGuard_agg w .eql 103 a b _ _ (by kernel_rfl)

theorem eql_fl (w : World) (h g : Hd) : (eqlF (.agg (flC h)) (.agg (flC g))).run Try.prog w = .ok (.bool (decide (h = g))) w := by
  unfold eqlF
  rw [run_eql_struct, run_equalIn_agg w _ _ _ _ (by kernel_rfl) (by kernel_rfl)]
  obtain ⟨a1, a2, a3, a4, a5, a6, a7, a8, a9, a10, a11, a12, a13⟩ := h
  obtain ⟨b1, b2, b3, b4, b5, b6, b7, b8, b9, b10, b11, b12, b13⟩ := g
  rw [show (Try.prog.fieldsOf 103).toList = _ from rfl]
  simp [go_sem, flC, Op.eqFields]
  simp only [Int.natCast_inj]
  by_cases e1 : a1 = b1
  case neg => simp only [e1, if_false, decide_false, Bool.false_and]
  subst e1
  simp only [if_true, decide_true, Bool.true_and]
  by_cases e2 : a2 = b2
  case neg => simp only [e2, if_false, decide_false, Bool.false_and]
  subst e2
  simp only [if_true, decide_true, Bool.true_and]
  by_cases e3 : a3 = b3
  case neg => simp only [e3, if_false, decide_false, Bool.false_and]
  subst e3
  simp only [if_true, decide_true, Bool.true_and]
  by_cases e4 : a4 = b4
  case neg => simp only [e4, if_false, decide_false, Bool.false_and]
  subst e4
  simp only [if_true, decide_true, Bool.true_and]
  by_cases e5 : a5 = b5
  case neg => simp only [e5, if_false, decide_false, Bool.false_and]
  subst e5
  simp only [if_true, decide_true, Bool.true_and]
  by_cases e6 : a6 = b6
  case neg => simp only [e6, if_false, decide_false, Bool.false_and]
  subst e6
  simp only [if_true, decide_true, Bool.true_and]
  by_cases e7 : a7 = b7
  case neg => simp only [e7, if_false, decide_false, Bool.false_and]
  subst e7
  simp only [if_true, decide_true, Bool.true_and]
  by_cases e8 : a8 = b8
  case neg => simp only [e8, if_false, decide_false, Bool.false_and]
  subst e8
  simp only [if_true, decide_true, Bool.true_and]
  by_cases e9 : a9 = b9
  case neg => simp only [e9, if_false, decide_false, Bool.false_and]
  subst e9
  simp only [if_true, decide_true, Bool.true_and]
  by_cases e10 : a10 = b10
  case neg => simp only [e10, if_false, decide_false, Bool.false_and]
  subst e10
  simp only [if_true, decide_true, Bool.true_and]
  by_cases e11 : a11 = b11
  case neg => simp only [e11, if_false, decide_false, Bool.false_and]
  subst e11
  simp only [if_true, decide_true, Bool.true_and]
  by_cases e12 : a12 = b12
  case neg => simp only [e12, if_false, decide_false, Bool.false_and]
  subst e12
  simp only [if_true, decide_true, Bool.true_and]
  by_cases e13 : a13 = b13
  case neg => simp only [e13, if_false, decide_false]
  subst e13
  simp only [if_true, decide_true]

end Go.Proofs.Ytfnidehbibfclaa
/- Layer 4 (head): the program's Same. -/
namespace Go.Proofs.Ytfnidehbibfclaa
open Go.ChangeShapes Go.WideShapes Go.ChangeAt Go.RowKit

attribute [local go_sem ↓] loadP_eq storeP_eq boxP_eq allocP_eq eqlF_eq guardF_eq
set_option maxHeartbeats 4000000 in
theorem psame_any (w : World) (h g : Hd) (x y : Xt) :
    Calls Try.prog 44 #[pkV h x, pkV g y] w fun e w' => e = .returned (.bool (decide (h = g))) ∧ Below w.heap.size w w' := by
  have bx := box_pk h x
  have by' := box_pk g y
  have gu := fun (w : World) a b => guard_fl w a b h g
  have eq := fun w => eql_fl w h g
  have N1 : (w.alloc (.cells (pkC h x) 27)).heap.size = w.heap.size + 1 := by simp
  have B1 : ((w.alloc (.cells (pkC h x) 27)).alloc (.cells (pkC g y) 27)).heap[w.heap.size]? = some (.cells (pkC h x) 27 (0, 0)) := heap_alloc2_old w _ _
  have B2 : ((w.alloc (.cells (pkC h x) 27)).alloc (.cells (pkC g y) 27)).heap[w.heap.size + 1]? = some (.cells (pkC g y) 27 (0, 0)) := heap_alloc2_new w _ _
  have L0 : Hid (Below w.heap.size w ((w.alloc (.cells (pkC h x) 27)).alloc (.cells (pkC g y) 27))) := ((Below.refl _ _).alloc (Nat.le_refl _) _).alloc (by simp) _
  replace B1 := Lib.hid B1
  replace B2 := Lib.hid B2
  go_enter Try.func44, Try.ntmps44
  go_wp2_with fail
  generalize (w.alloc (.cells (pkC h x) 27)).alloc (.cells (pkC g y) 27) = v at *
  have K : Hid (∀ w', Below v.heap.size v w' → (loadP (.pointer (some ⟨w.heap.size, 0, none⟩))).run Try.prog w' = .ok (pkV h x) w' ∧ (loadP (.pointer (some ⟨w.heap.size + 1, 0, none⟩))).run Try.prog w' = .ok (pkV g y) w') := fun w' b =>
    ⟨load_pk ((b.block _ (Array.getElem?_eq_some_iff.1 B1.out).1).trans B1.out), load_pk ((b.block _ (Array.getElem?_eq_some_iff.1 B2.out).1).trans B2.out)⟩
  have HB0 : Below v.heap.size v v.drew := (Below.refl _ _).drew
  go_region_held3 (fun w' => (loadP (.pointer (some ⟨w.heap.size, 0, none⟩))).run Try.prog w' = .ok (pkV h x) w' ∧ (loadP (.pointer (some ⟨w.heap.size + 1, 0, none⟩))).run Try.prog w' = .ok (pkV g y) w')
    (first | exact K.out _ HB0)
    (first
      | (go_at_call 73; refine (palone_any _ _ _).mono ?_; rintro e w4 ⟨rfl, o4⟩; have HB0 := HB0.trans (o4.b.mono HB0.size); clear o4))
  have FIN := L0.out.trans (HB0.mono L0.out.size)
  go_wp2
  go_ret
  exact ⟨rfl, FIN⟩
end Go.Proofs.Ytfnidehbibfclaa
