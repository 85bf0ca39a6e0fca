/- The document's own answers for layer 4 (head): a head's bytes. (Written by wip/tools/genheadput.py.) -/
import Derived.Test.YtjjbalgonkphjaaHeadH
namespace Go.Proofs.Ytjjbalgonkphjaa
open Go.ChangeShapes Go.WideShapes Go.ChangeAt Go.RowKit OctM

theorem pk_cell {w : World} {N : Nat} {h : Hd} {x : Xt} (hg : w.heap[N]? = some (.cells (pkC h x) 27 (0, 0))) (i : Nat) {v : Value} (hv : (pkC h x)[i]? = some v) : w.cell? ⟨N, i, none⟩ = some v := by rw [← hv]; exact blk_cell hg

attribute [local go_sem ↓] loadP_eq storeP_eq boxP_eq allocP_eq
theorem rput4_no (w : World) (h : Hd) (x : Xt) (hm : ¬ mayH h) :
    Calls Try.prog 9 #[pkV h x] w fun e w' => e = .returned (.tuple #[.slice none 0 0, .int .i64 1]) ∧ Below w.heap.size w w' := by
  have hm' := decide_eq_false hm
  have bx := box_pk h x
  have LD := load_pk (heap_alloc_new w (.cells (pkC h x) 27))
  clear hm
  go_enter Try.func9, Try.ntmps9
  go_wp2_with fail
  refine (rmay_any _ h x).mono ?_; rintro e w1 ⟨rfl, l⟩
  have FIN : Hid (Below w.heap.size w w1) := (((Out.refl w).alloc _ _).trans l).b
  clear l
  rw [hm']
  go_wp2
  go_ret2
  exact ⟨rfl, FIN.out⟩

set_option maxHeartbeats 8000000 in
theorem rput4_ok (w : World) (h : Hd) (x : Xt) (hw : h.wf) (hm : mayH h) :
    Calls Try.prog 9 #[pkV h x] w (RowPost w 48 (bytesH h)) := by
  have hm' := decide_eq_true hm
  have bx := box_pk h x
  have LD := load_pk (heap_alloc_new w (.cells (pkC h x) 27))
  obtain ⟨f, hf⟩ : ∃ f, f = first8 h := ⟨_, rfl⟩
  have BH : Hid (bytesH h = [] ++ digN f 1 ++ digN h.st 1 ++ digN (b8 h.po) 1 ++ digN (b8 h.pr) 1 ++ digN h.de 4 ++ digN h.di 4 ++ digN h.ri 4 ++ digN h.rf 8 ++ digN h.og 8 ++ digN h.rc 8 ++ digN h.xm 8) := by rw [hf]; rfl
  obtain ⟨D, hD⟩ : ∃ D, D = bytesH h := ⟨_, rfl⟩
  rw [← hD] at BH ⊢
  clear hD
  obtain ⟨C, hC⟩ : ∃ C, C = pkC h x := ⟨_, rfl⟩
  have PC : ∀ (i : Nat) (v : Value), (pkC h x)[i]? = some v → C[i]? = some v := fun i v hv => by rw [hC]; exact hv
  have p0 : C[0]? = some (.int .u8 (h.lp : Nat)) := PC 0 _ rfl
  have p1 : C[1]? = some (.int .u8 (h.ve : Nat)) := PC 1 _ rfl
  have p2 : C[2]? = some (.int .u8 (h.mo : Nat)) := PC 2 _ rfl
  have p3 : C[3]? = some (.int .u8 (h.st : Nat)) := PC 3 _ rfl
  have p4 : C[4]? = some (.int .i8 h.po) := PC 4 _ rfl
  have p5 : C[5]? = some (.int .i8 h.pr) := PC 5 _ rfl
  have p6 : C[6]? = some (.int .u32 (h.de : Nat)) := PC 6 _ rfl
  have p7 : C[7]? = some (.int .u32 (h.di : Nat)) := PC 7 _ rfl
  have p8 : C[8]? = some (.int .u32 (h.ri : Nat)) := PC 8 _ rfl
  have p9 : C[9]? = some (.int .u64 (h.rf : Nat)) := PC 9 _ rfl
  have p10 : C[10]? = some (.int .u64 (h.og : Nat)) := PC 10 _ rfl
  have p11 : C[11]? = some (.int .u64 (h.rc : Nat)) := PC 11 _ rfl
  have p12 : C[12]? = some (.int .u64 (h.xm : Nat)) := PC 12 _ rfl
  have MY := Lib.hid (fun w => rmay_any w h x)
  rw [← hC] at bx LD
  obtain ⟨V, hV⟩ : ∃ V, V = pkV h x := ⟨_, rfl⟩
  rw [← hV] at bx LD MY ⊢
  clear hC hV PC
  obtain ⟨lp, ve, mo, st, po, pr, de, di, ri, rf, og, rc, xm⟩ := h
  obtain ⟨h1, h2, h3, h4, h5, h6, h7, h8, h9, ha, hb, hc, hd⟩ := hw
  obtain ⟨m1, m2, m3, m4⟩ := hm
  unfold first8 at hf
  simp only at m1 m2 m3 m4 h4 h5 h6 h7 h8 h9 ha hb hc hd hf BH p0 p1 p2 p3 p4 p5 p6 p7 p8 p9 p10 p11 p12
  have fb : f < 256 := by omega
  have fe : (lp : Int) * 64 + (ve : Int) * 8 + (mo : Int) = (f : Int) := by omega
  have PO := Lib.hid h5
  have PR := Lib.hid h6
  clear hf h1 h2 h3 h5 h6
  go_enter Try.func9, Try.ntmps9
  go_wp2_with fail
  refine (MY.out _).mono ?_; rintro e w0 ⟨rfl, l⟩
  have B0 : Hid (w0.heap[w.heap.size]? = some (.cells C 27 (0, 0))) := (l.b.block _ (by simp)).trans (heap_alloc_new _ _)
  have W0 : Hid (Below w.heap.size w w0) := (((Out.refl w).alloc _ _).trans l).b
  have K : Hid (∀ (w' : World) (i : Nat) (v : Value), Below w0.heap.size w0 w' → C[i]? = some v → w'.cell? ⟨w.heap.size, i, none⟩ = some v) := fun w' i v g hv => by
    rw [← hv]; exact blk_cell ((g.block _ (Array.getElem?_eq_some_iff.1 B0.out).1).trans B0.out)
  clear l LD
  rw [hm']
  have O0 : Hid (w0.ownsRow w0.heap.size 5 1 (.slice none 0 0) 0 (valsN .u8 [])) := World.ownsRow_nil _ _ _ 1
  have c0 := K.out w0 0 _ (Below.refl _ _) p0
  have c1 := K.out w0 1 _ (Below.refl _ _) p1
  have c2 := K.out w0 2 _ (Below.refl _ _) p2
  go_wp2_with fail
  refine (rlay4_any _ w0.heap.size _ 0 f 1 ([]) (Nat.le_refl _) O0.out (by omega) (by omega) (by omega) (by omega)).mono ?_
  rintro e w1 ⟨v1, rfl, o1, l1⟩
  have O1 := Lib.hid o1
  have L1 : Hid (Below w0.heap.size w0 w1) := l1
  clear o1 l1
  clear c0 c1 c2 fe m1 m2 m3 m4
  have c3 := K.out w1 3 _ L1.out p3
  go_wp2_with fail
  refine (rlay4_any _ w0.heap.size _ 1 st 1 ([] ++ digN f 1) L1.out.size O1.out (by omega) (by omega) (by omega) (by omega)).mono ?_
  rintro e w2 ⟨v2, rfl, o2, l2⟩
  have O2 := Lib.hid o2
  have L2 : Hid (Below w0.heap.size w0 w2) := L1.out.trans l2
  clear o2 l2
  clear c3
  have c4 := K.out w2 4 _ L2.out p4
  go_wp2_with fail
  refine (rsigned4_any _ po PO.out).mono ?_; rintro e w' ⟨rfl, rfl⟩
  have q4 := b8_lt po
  go_wp2_with fail
  refine (rlay4_any _ w0.heap.size _ 2 (b8 po) 1 ([] ++ digN f 1 ++ digN st 1) L2.out.size O2.out (by omega) (by omega) (by omega) (by omega)).mono ?_
  rintro e w3 ⟨v3, rfl, o3, l3⟩
  have O3 := Lib.hid o3
  have L3 : Hid (Below w0.heap.size w0 w3) := L2.out.trans l3
  clear o3 l3
  clear c4
  have c5 := K.out w3 5 _ L3.out p5
  go_wp2_with fail
  refine (rsigned4_any _ pr PR.out).mono ?_; rintro e w' ⟨rfl, rfl⟩
  have q5 := b8_lt pr
  go_wp2_with fail
  refine (rlay4_any _ w0.heap.size _ 3 (b8 pr) 1 ([] ++ digN f 1 ++ digN st 1 ++ digN (b8 po) 1) L3.out.size O3.out (by omega) (by omega) (by omega) (by omega)).mono ?_
  rintro e w4 ⟨v4, rfl, o4, l4⟩
  have O4 := Lib.hid o4
  have L4 : Hid (Below w0.heap.size w0 w4) := L3.out.trans l4
  clear o4 l4
  clear c5
  have c6 := K.out w4 6 _ L4.out p6
  go_wp2_with fail
  refine (rlay4_any _ w0.heap.size _ 4 de 4 ([] ++ digN f 1 ++ digN st 1 ++ digN (b8 po) 1 ++ digN (b8 pr) 1) L4.out.size O4.out (by omega) (by omega) (by omega) (by omega)).mono ?_
  rintro e w5 ⟨v5, rfl, o5, l5⟩
  have O5 := Lib.hid o5
  have L5 : Hid (Below w0.heap.size w0 w5) := L4.out.trans l5
  clear o5 l5
  clear c6
  have c7 := K.out w5 7 _ L5.out p7
  go_wp2_with fail
  refine (rlay4_any _ w0.heap.size _ 8 di 4 ([] ++ digN f 1 ++ digN st 1 ++ digN (b8 po) 1 ++ digN (b8 pr) 1 ++ digN de 4) L5.out.size O5.out (by omega) (by omega) (by omega) (by omega)).mono ?_
  rintro e w6 ⟨v6, rfl, o6, l6⟩
  have O6 := Lib.hid o6
  have L6 : Hid (Below w0.heap.size w0 w6) := L5.out.trans l6
  clear o6 l6
  clear c7
  have c8 := K.out w6 8 _ L6.out p8
  go_wp2_with fail
  refine (rlay4_any _ w0.heap.size _ 12 ri 4 ([] ++ digN f 1 ++ digN st 1 ++ digN (b8 po) 1 ++ digN (b8 pr) 1 ++ digN de 4 ++ digN di 4) L6.out.size O6.out (by omega) (by omega) (by omega) (by omega)).mono ?_
  rintro e w7 ⟨v7, rfl, o7, l7⟩
  have O7 := Lib.hid o7
  have L7 : Hid (Below w0.heap.size w0 w7) := L6.out.trans l7
  clear o7 l7
  clear c8
  have c9 := K.out w7 9 _ L7.out p9
  go_wp2_with fail
  refine (rlay4_any _ w0.heap.size _ 16 rf 8 ([] ++ digN f 1 ++ digN st 1 ++ digN (b8 po) 1 ++ digN (b8 pr) 1 ++ digN de 4 ++ digN di 4 ++ digN ri 4) L7.out.size O7.out (by omega) (by omega) (by omega) (by omega)).mono ?_
  rintro e w8 ⟨v8, rfl, o8, l8⟩
  have O8 := Lib.hid o8
  have L8 : Hid (Below w0.heap.size w0 w8) := L7.out.trans l8
  clear o8 l8
  clear c9
  have c10 := K.out w8 10 _ L8.out p10
  go_wp2_with fail
  refine (rlay4_any _ w0.heap.size _ 24 og 8 ([] ++ digN f 1 ++ digN st 1 ++ digN (b8 po) 1 ++ digN (b8 pr) 1 ++ digN de 4 ++ digN di 4 ++ digN ri 4 ++ digN rf 8) L8.out.size O8.out (by omega) (by omega) (by omega) (by omega)).mono ?_
  rintro e w9 ⟨v9, rfl, o9, l9⟩
  have O9 := Lib.hid o9
  have L9 : Hid (Below w0.heap.size w0 w9) := L8.out.trans l9
  clear o9 l9
  clear c10
  have c11 := K.out w9 11 _ L9.out p11
  go_wp2_with fail
  refine (rlay4_any _ w0.heap.size _ 32 rc 8 ([] ++ digN f 1 ++ digN st 1 ++ digN (b8 po) 1 ++ digN (b8 pr) 1 ++ digN de 4 ++ digN di 4 ++ digN ri 4 ++ digN rf 8 ++ digN og 8) L9.out.size O9.out (by omega) (by omega) (by omega) (by omega)).mono ?_
  rintro e w10 ⟨v10, rfl, o10, l10⟩
  have O10 := Lib.hid o10
  have L10 : Hid (Below w0.heap.size w0 w10) := L9.out.trans l10
  clear o10 l10
  clear c11
  have c12 := K.out w10 12 _ L10.out p12
  go_wp2_with fail
  refine (rlay4_any _ w0.heap.size _ 40 xm 8 ([] ++ digN f 1 ++ digN st 1 ++ digN (b8 po) 1 ++ digN (b8 pr) 1 ++ digN de 4 ++ digN di 4 ++ digN ri 4 ++ digN rf 8 ++ digN og 8 ++ digN rc 8) L10.out.size O10.out (by omega) (by omega) (by omega) (by omega)).mono ?_
  rintro e w11 ⟨v11, rfl, o11, l11⟩
  have O11 := Lib.hid o11
  have L11 : Hid (Below w0.heap.size w0 w11) := L10.out.trans l11
  clear o11 l11
  clear c12
  have FIN : Hid (RowPost w 48 D (.returned (.tuple #[v11, .int .i64 0])) w11) := by
    refine ⟨v11, rfl, ?_, W0.out.trans (L11.out.mono W0.out.size)⟩
    rw [BH.out]
    exact own_base O11.out W0.out.size
  go_wp2
  go_ret2
  exact FIN.out

/-- Put, whatever the head. -/
theorem rput4_any (w : World) (h : Hd) (x : Xt) (hw : h.wf) :
    Calls Try.prog 9 #[pkV h x] w (RowR w (if mayH h then bytesH h else []) (if mayH h then 0 else 1)) := by
  by_cases hm : mayH h
  · rw [if_pos hm, if_pos hm]
    exact (rput4_ok w h x hw hm).mono fun e w' k => rowR_row (by unfold bytesH; rw [layT_at _ sizesH_ok (by decide), sizesH_at]) k
  · rw [if_neg hm, if_neg hm]
    exact (rput4_no w h x hm).mono fun e w' k => rowR_nil k
end Go.Proofs.Ytjjbalgonkphjaa
