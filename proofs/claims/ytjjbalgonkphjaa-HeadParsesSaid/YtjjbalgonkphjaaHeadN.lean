/- The document's own answers for layer 4 (head): Same of two heads that may not be. (Written by wip/tools/genheadsame.py.) -/
import Derived.Test.YtjjbalgonkphjaaHeadM
namespace Go.Proofs.Ytjjbalgonkphjaa
open Go.ChangeShapes Go.WideShapes Go.ChangeAt Go.RowKit OctM

/-- a head whose first byte is Version 1 alone. -/
def normH (h : Hd) : Hd := { h with lp := 0, ve := 1, mo := 0 }
theorem normH_wf {h : Hd} (hw : h.wf) : (normH h).wf := by
  obtain ⟨h1, h2, h3, h4, h5, h6, h7, h8, h9, ha, hb, hc, hd⟩ := hw
  exact ⟨by simp [normH], by simp [normH], by simp [normH], h4, h5, h6, h7, h8, h9, ha, hb, hc, hd⟩
theorem normH_may (h : Hd) : mayH (normH h) := by simp [mayH, normH]
theorem normH_eq {h g : Hd} (e : normH h = normH g) (h1 : h.lp = g.lp) (h2 : h.ve = g.ve) (h3 : h.mo = g.mo) : h = g := by
  cases h; cases g
  simp only [normH, Hd.mk.injEq] at e h1 h2 h3
  simp only [Hd.mk.injEq]
  exact ⟨h1, h2, h3, e.2.2.2⟩
theorem set3 {w : World} {N : Nat} {h : Hd} {x : Xt} (hg : w.heap[N]? = some (.cells (pkC h x) 27 (0, 0))) :
    (((w.setCell ⟨N, 0, none⟩ (.int .u8 0)).setCell ⟨N, 1, none⟩ (.int .u8 1)).setCell ⟨N, 2, none⟩ (.int .u8 0)).heap[N]? = some (.cells (pkC (normH h) x) 27 (0, 0)) := by
  have e : pkC (normH h) x = (((pkC h x).set! 0 (.int .u8 0)).set! 1 (.int .u8 1)).set! 2 (.int .u8 0) := rfl
  rw [e]
  exact blk_set (blk_set (blk_set hg))
theorem keep3 {w : World} {N M : Nat} {o : Obj} (hg : w.heap[N]? = some o) (hn : N ≠ M) (a b c : Value) :
    (((w.setCell ⟨M, 0, none⟩ a).setCell ⟨M, 1, none⟩ b).setCell ⟨M, 2, none⟩ c).heap[N]? = some o := by
  rw [Below.heap_setCell _ _ _ _ hn, Below.heap_setCell _ _ _ _ hn, Below.heap_setCell _ _ _ _ hn]
  exact hg

attribute [local go_sem ↓] loadP_eq storeP_eq boxP_eq allocP_eq strB_eq eqlS_eq
set_option maxHeartbeats 8000000 in
theorem rsame4_none_a (w : World) (h g : Hd) (x y : Xt) (hm : ¬ mayH h) (gm : ¬ mayH g)  (ne : h.lp ≠ g.lp) :
    Calls Try.prog 13 #[pkV h x, pkV g y] w fun e w' => e = .returned (.bool false) ∧ Below w.heap.size w w' := by
  have bx := box_pk h x
  have by' := box_pk g y
  have PH := Lib.hid (fun w => rput4_no w h x hm)
  have PG := Lib.hid (fun w => rput4_no w g y gm)
  have B1 : Hid (((w.alloc (.cells (pkC h x) 27)).alloc (.cells (pkC g y) 27)).heap[w.heap.size]? = some (.cells (pkC h x) 27 (0, 0))) := heap_alloc2_old w _ _
  have B2 : Hid (((w.alloc (.cells (pkC h x) 27)).alloc (.cells (pkC g y) 27)).heap[w.heap.size + 1]? = some (.cells (pkC g y) 27 (0, 0))) := heap_alloc2_new w _ _
  have L0 : Hid (Below w.heap.size w ((w.alloc (.cells (pkC h x) 27)).alloc (.cells (pkC g y) 27))) := ((Below.refl _ _).alloc (Nat.le_refl _) _).alloc (by simp) _
  have LD := load_pk B1.out
  clear hm gm
  obtain ⟨n0, hn0⟩ : ∃ n, n = h.lp := ⟨_, rfl⟩
  obtain ⟨m0, hm0⟩ : ∃ n, n = g.lp := ⟨_, rfl⟩
  rw [← hn0, ← hm0] at ne
  have ne1 : ((n0 : Int) != (m0 : Int)) = true := by rw [bne_iff_ne]; omega
  have ne2 : ((n0 : Int) == (m0 : Int)) = false := by rw [beq_eq_false_iff_ne]; omega
  have ne3 : ¬ (n0 : Int) = (m0 : Int) := by omega
  go_enter Try.func13, Try.ntmps13
  go_wp2_with fail
  generalize (w.alloc (.cells (pkC h x) 27)).alloc (.cells (pkC g y) 27) = v at *
  refine (PH.out _).mono ?_; rintro e w1 ⟨rfl, l1⟩
  have LG : (loadP (.pointer (some ⟨w.heap.size + 1, 0, none⟩))).run Try.prog w1 = .ok (pkV g y) w1 := load_pk ((l1.block _ (Array.getElem?_eq_some_iff.1 B2.out).1).trans B2.out)
  have L1 := Lib.hid l1
  clear LD l1
  go_wp2_with fail
  refine (PG.out _).mono ?_; rintro e w2 ⟨rfl, l2⟩
  have L02 := L1.out.trans (l2.mono L1.out.size)
  have G1 := (L02.block _ (Array.getElem?_eq_some_iff.1 B1.out).1).trans B1.out
  have G2 := (L02.block _ (Array.getElem?_eq_some_iff.1 B2.out).1).trans B2.out
  have FIN : Hid (Below w.heap.size w w2) := L0.out.trans (L02.mono L0.out.size)
  have c0 : w2.cell? ⟨w.heap.size, 0, none⟩ = some (.int .u8 (n0 : Int)) := by rw [hn0]; exact pk_cell G1 0 rfl
  have k0 : w2.cell? ⟨w.heap.size + 1, 0, none⟩ = some (.int .u8 (m0 : Int)) := by rw [hm0]; exact pk_cell G2 0 rfl
  clear LG l2 L02 G1 G2
  go_wp2
  go_ret
  exact ⟨rfl, FIN.out⟩

set_option maxHeartbeats 8000000 in
theorem rsame4_none_b (w : World) (h g : Hd) (x y : Xt) (hm : ¬ mayH h) (gm : ¬ mayH g) (e0 : h.lp = g.lp) (ne : h.ve ≠ g.ve) :
    Calls Try.prog 13 #[pkV h x, pkV g y] w fun e w' => e = .returned (.bool false) ∧ Below w.heap.size w w' := by
  have bx := box_pk h x
  have by' := box_pk g y
  have PH := Lib.hid (fun w => rput4_no w h x hm)
  have PG := Lib.hid (fun w => rput4_no w g y gm)
  have B1 : Hid (((w.alloc (.cells (pkC h x) 27)).alloc (.cells (pkC g y) 27)).heap[w.heap.size]? = some (.cells (pkC h x) 27 (0, 0))) := heap_alloc2_old w _ _
  have B2 : Hid (((w.alloc (.cells (pkC h x) 27)).alloc (.cells (pkC g y) 27)).heap[w.heap.size + 1]? = some (.cells (pkC g y) 27 (0, 0))) := heap_alloc2_new w _ _
  have L0 : Hid (Below w.heap.size w ((w.alloc (.cells (pkC h x) 27)).alloc (.cells (pkC g y) 27))) := ((Below.refl _ _).alloc (Nat.le_refl _) _).alloc (by simp) _
  have LD := load_pk B1.out
  clear hm gm
  obtain ⟨n0, hn0⟩ : ∃ n, n = h.lp := ⟨_, rfl⟩
  rw [← hn0] at e0
  obtain ⟨n1, hn1⟩ : ∃ n, n = h.ve := ⟨_, rfl⟩
  obtain ⟨m1, hm1⟩ : ∃ n, n = g.ve := ⟨_, rfl⟩
  rw [← hn1, ← hm1] at ne
  have ne1 : ((n1 : Int) != (m1 : Int)) = true := by rw [bne_iff_ne]; omega
  have ne2 : ((n1 : Int) == (m1 : Int)) = false := by rw [beq_eq_false_iff_ne]; omega
  have ne3 : ¬ (n1 : Int) = (m1 : Int) := by omega
  go_enter Try.func13, Try.ntmps13
  go_wp2_with fail
  generalize (w.alloc (.cells (pkC h x) 27)).alloc (.cells (pkC g y) 27) = v at *
  refine (PH.out _).mono ?_; rintro e w1 ⟨rfl, l1⟩
  have LG : (loadP (.pointer (some ⟨w.heap.size + 1, 0, none⟩))).run Try.prog w1 = .ok (pkV g y) w1 := load_pk ((l1.block _ (Array.getElem?_eq_some_iff.1 B2.out).1).trans B2.out)
  have L1 := Lib.hid l1
  clear LD l1
  go_wp2_with fail
  refine (PG.out _).mono ?_; rintro e w2 ⟨rfl, l2⟩
  have L02 := L1.out.trans (l2.mono L1.out.size)
  have G1 := (L02.block _ (Array.getElem?_eq_some_iff.1 B1.out).1).trans B1.out
  have G2 := (L02.block _ (Array.getElem?_eq_some_iff.1 B2.out).1).trans B2.out
  have FIN : Hid (Below w.heap.size w w2) := L0.out.trans (L02.mono L0.out.size)
  have c0 : w2.cell? ⟨w.heap.size, 0, none⟩ = some (.int .u8 (n0 : Int)) := by rw [hn0]; exact pk_cell G1 0 rfl
  have k0 : w2.cell? ⟨w.heap.size + 1, 0, none⟩ = some (.int .u8 (n0 : Int)) := by rw [e0]; exact pk_cell G2 0 rfl
  have c1 : w2.cell? ⟨w.heap.size, 1, none⟩ = some (.int .u8 (n1 : Int)) := by rw [hn1]; exact pk_cell G1 1 rfl
  have k1 : w2.cell? ⟨w.heap.size + 1, 1, none⟩ = some (.int .u8 (m1 : Int)) := by rw [hm1]; exact pk_cell G2 1 rfl
  clear LG l2 L02 G1 G2
  go_wp2
  go_ret
  exact ⟨rfl, FIN.out⟩

set_option maxHeartbeats 8000000 in
theorem rsame4_none_c (w : World) (h g : Hd) (x y : Xt) (hm : ¬ mayH h) (gm : ¬ mayH g) (e0 : h.lp = g.lp) (e1 : h.ve = g.ve) (ne : h.mo ≠ g.mo) :
    Calls Try.prog 13 #[pkV h x, pkV g y] w fun e w' => e = .returned (.bool false) ∧ Below w.heap.size w w' := by
  have bx := box_pk h x
  have by' := box_pk g y
  have PH := Lib.hid (fun w => rput4_no w h x hm)
  have PG := Lib.hid (fun w => rput4_no w g y gm)
  have B1 : Hid (((w.alloc (.cells (pkC h x) 27)).alloc (.cells (pkC g y) 27)).heap[w.heap.size]? = some (.cells (pkC h x) 27 (0, 0))) := heap_alloc2_old w _ _
  have B2 : Hid (((w.alloc (.cells (pkC h x) 27)).alloc (.cells (pkC g y) 27)).heap[w.heap.size + 1]? = some (.cells (pkC g y) 27 (0, 0))) := heap_alloc2_new w _ _
  have L0 : Hid (Below w.heap.size w ((w.alloc (.cells (pkC h x) 27)).alloc (.cells (pkC g y) 27))) := ((Below.refl _ _).alloc (Nat.le_refl _) _).alloc (by simp) _
  have LD := load_pk B1.out
  clear hm gm
  obtain ⟨n0, hn0⟩ : ∃ n, n = h.lp := ⟨_, rfl⟩
  rw [← hn0] at e0
  obtain ⟨n1, hn1⟩ : ∃ n, n = h.ve := ⟨_, rfl⟩
  rw [← hn1] at e1
  obtain ⟨n2, hn2⟩ : ∃ n, n = h.mo := ⟨_, rfl⟩
  obtain ⟨m2, hm2⟩ : ∃ n, n = g.mo := ⟨_, rfl⟩
  rw [← hn2, ← hm2] at ne
  have ne1 : ((n2 : Int) != (m2 : Int)) = true := by rw [bne_iff_ne]; omega
  have ne2 : ((n2 : Int) == (m2 : Int)) = false := by rw [beq_eq_false_iff_ne]; omega
  have ne3 : ¬ (n2 : Int) = (m2 : Int) := by omega
  go_enter Try.func13, Try.ntmps13
  go_wp2_with fail
  generalize (w.alloc (.cells (pkC h x) 27)).alloc (.cells (pkC g y) 27) = v at *
  refine (PH.out _).mono ?_; rintro e w1 ⟨rfl, l1⟩
  have LG : (loadP (.pointer (some ⟨w.heap.size + 1, 0, none⟩))).run Try.prog w1 = .ok (pkV g y) w1 := load_pk ((l1.block _ (Array.getElem?_eq_some_iff.1 B2.out).1).trans B2.out)
  have L1 := Lib.hid l1
  clear LD l1
  go_wp2_with fail
  refine (PG.out _).mono ?_; rintro e w2 ⟨rfl, l2⟩
  have L02 := L1.out.trans (l2.mono L1.out.size)
  have G1 := (L02.block _ (Array.getElem?_eq_some_iff.1 B1.out).1).trans B1.out
  have G2 := (L02.block _ (Array.getElem?_eq_some_iff.1 B2.out).1).trans B2.out
  have FIN : Hid (Below w.heap.size w w2) := L0.out.trans (L02.mono L0.out.size)
  have c0 : w2.cell? ⟨w.heap.size, 0, none⟩ = some (.int .u8 (n0 : Int)) := by rw [hn0]; exact pk_cell G1 0 rfl
  have k0 : w2.cell? ⟨w.heap.size + 1, 0, none⟩ = some (.int .u8 (n0 : Int)) := by rw [e0]; exact pk_cell G2 0 rfl
  have c1 : w2.cell? ⟨w.heap.size, 1, none⟩ = some (.int .u8 (n1 : Int)) := by rw [hn1]; exact pk_cell G1 1 rfl
  have k1 : w2.cell? ⟨w.heap.size + 1, 1, none⟩ = some (.int .u8 (n1 : Int)) := by rw [e1]; exact pk_cell G2 1 rfl
  have c2 : w2.cell? ⟨w.heap.size, 2, none⟩ = some (.int .u8 (n2 : Int)) := by rw [hn2]; exact pk_cell G1 2 rfl
  have k2 : w2.cell? ⟨w.heap.size + 1, 2, none⟩ = some (.int .u8 (m2 : Int)) := by rw [hm2]; exact pk_cell G2 2 rfl
  clear LG l2 L02 G1 G2
  go_wp2
  go_ret
  exact ⟨rfl, FIN.out⟩

set_option maxHeartbeats 8000000 in
theorem rsame4_none_d (w : World) (h g : Hd) (x y : Xt) (hw : h.wf) (gw : g.wf) (hm : ¬ mayH h) (gm : ¬ mayH g) (e0 : h.lp = g.lp) (e1 : h.ve = g.ve) (e2 : h.mo = g.mo) :
    Calls Try.prog 13 #[pkV h x, pkV g y] w fun e w' => e = .returned (.bool (decide (h = g))) ∧ Below w.heap.size w w' := by
  have ED : decide (bytesH (normH h) = bytesH (normH g)) = decide (h = g) := by
    rw [Bool.eq_iff_iff, decide_eq_true_iff, decide_eq_true_iff]
    exact ⟨fun e => normH_eq (bytesH_inj (normH_wf hw) (normH_wf gw) (normH_may h) (normH_may g) e) e0 e1 e2, fun e => by rw [e]⟩
  rw [← ED]
  have QH := Lib.hid (fun w => rput4_yes w (normH h) x (normH_wf hw) (normH_may h))
  have QG := Lib.hid (fun w => rput4_yes w (normH g) y (normH_wf gw) (normH_may g))
  clear ED hw gw
  have bx := box_pk h x
  have by' := box_pk g y
  have PH := Lib.hid (fun w => rput4_no w h x hm)
  have PG := Lib.hid (fun w => rput4_no w g y gm)
  have B1 : Hid (((w.alloc (.cells (pkC h x) 27)).alloc (.cells (pkC g y) 27)).heap[w.heap.size]? = some (.cells (pkC h x) 27 (0, 0))) := heap_alloc2_old w _ _
  have B2 : Hid (((w.alloc (.cells (pkC h x) 27)).alloc (.cells (pkC g y) 27)).heap[w.heap.size + 1]? = some (.cells (pkC g y) 27 (0, 0))) := heap_alloc2_new w _ _
  have L0 : Hid (Below w.heap.size w ((w.alloc (.cells (pkC h x) 27)).alloc (.cells (pkC g y) 27))) := ((Below.refl _ _).alloc (Nat.le_refl _) _).alloc (by simp) _
  have LD := load_pk B1.out
  clear hm gm
  obtain ⟨n0, hn0⟩ : ∃ n, n = h.lp := ⟨_, rfl⟩
  rw [← hn0] at e0
  obtain ⟨n1, hn1⟩ : ∃ n, n = h.ve := ⟨_, rfl⟩
  rw [← hn1] at e1
  obtain ⟨n2, hn2⟩ : ∃ n, n = h.mo := ⟨_, rfl⟩
  rw [← hn2] at e2
  go_enter Try.func13, Try.ntmps13
  go_wp2_with fail
  generalize (w.alloc (.cells (pkC h x) 27)).alloc (.cells (pkC g y) 27) = v at *
  refine (PH.out _).mono ?_; rintro e w1 ⟨rfl, l1⟩
  have LG : (loadP (.pointer (some ⟨w.heap.size + 1, 0, none⟩))).run Try.prog w1 = .ok (pkV g y) w1 := load_pk ((l1.block _ (Array.getElem?_eq_some_iff.1 B2.out).1).trans B2.out)
  have L1 := Lib.hid l1
  clear LD l1
  go_wp2_with fail
  refine (PG.out _).mono ?_; rintro e w2 ⟨rfl, l2⟩
  have L02 := L1.out.trans (l2.mono L1.out.size)
  have G1 := (L02.block _ (Array.getElem?_eq_some_iff.1 B1.out).1).trans B1.out
  have G2 := (L02.block _ (Array.getElem?_eq_some_iff.1 B2.out).1).trans B2.out
  have FIN : Hid (Below w.heap.size w w2) := L0.out.trans (L02.mono L0.out.size)
  have c0 : w2.cell? ⟨w.heap.size, 0, none⟩ = some (.int .u8 (n0 : Int)) := by rw [hn0]; exact pk_cell G1 0 rfl
  have k0 : w2.cell? ⟨w.heap.size + 1, 0, none⟩ = some (.int .u8 (n0 : Int)) := by rw [e0]; exact pk_cell G2 0 rfl
  have c1 : w2.cell? ⟨w.heap.size, 1, none⟩ = some (.int .u8 (n1 : Int)) := by rw [hn1]; exact pk_cell G1 1 rfl
  have k1 : w2.cell? ⟨w.heap.size + 1, 1, none⟩ = some (.int .u8 (n1 : Int)) := by rw [e1]; exact pk_cell G2 1 rfl
  have c2 : w2.cell? ⟨w.heap.size, 2, none⟩ = some (.int .u8 (n2 : Int)) := by rw [hn2]; exact pk_cell G1 2 rfl
  have k2 : w2.cell? ⟨w.heap.size + 1, 2, none⟩ = some (.int .u8 (n2 : Int)) := by rw [e2]; exact pk_cell G2 2 rfl
  have f0 : w2.frozen? ⟨w.heap.size, 0, none⟩ = false := blk_free G1
  have g0 : w2.frozen? ⟨w.heap.size + 1, 0, none⟩ = false := blk_free G2
  have f1 : w2.frozen? ⟨w.heap.size, 1, none⟩ = false := blk_free G1
  have g1 : w2.frozen? ⟨w.heap.size + 1, 1, none⟩ = false := blk_free G2
  have f2 : w2.frozen? ⟨w.heap.size, 2, none⟩ = false := blk_free G1
  have g2 : w2.frozen? ⟨w.heap.size + 1, 2, none⟩ = false := blk_free G2
  have G3 : Hid (((((((w2.setCell ⟨w.heap.size, 0, none⟩ (.int .u8 0)).setCell ⟨w.heap.size, 1, none⟩ (.int .u8 1)).setCell ⟨w.heap.size, 2, none⟩ (.int .u8 0)).setCell ⟨w.heap.size + 1, 0, none⟩ (.int .u8 0)).setCell ⟨w.heap.size + 1, 1, none⟩ (.int .u8 1)).setCell ⟨w.heap.size + 1, 2, none⟩ (.int .u8 0)).heap[w.heap.size]? = some (.cells (pkC (normH h) x) 27 (0, 0))) := keep3 (set3 G1) (by omega) _ _ _
  have G4 : Hid (((((((w2.setCell ⟨w.heap.size, 0, none⟩ (.int .u8 0)).setCell ⟨w.heap.size, 1, none⟩ (.int .u8 1)).setCell ⟨w.heap.size, 2, none⟩ (.int .u8 0)).setCell ⟨w.heap.size + 1, 0, none⟩ (.int .u8 0)).setCell ⟨w.heap.size + 1, 1, none⟩ (.int .u8 1)).setCell ⟨w.heap.size + 1, 2, none⟩ (.int .u8 0)).heap[w.heap.size + 1]? = some (.cells (pkC (normH g) y) 27 (0, 0))) := set3 (keep3 G2 (by omega) _ _ _)
  have FV : Hid (Below w.heap.size w ((((((w2.setCell ⟨w.heap.size, 0, none⟩ (.int .u8 0)).setCell ⟨w.heap.size, 1, none⟩ (.int .u8 1)).setCell ⟨w.heap.size, 2, none⟩ (.int .u8 0)).setCell ⟨w.heap.size + 1, 0, none⟩ (.int .u8 0)).setCell ⟨w.heap.size + 1, 1, none⟩ (.int .u8 1)).setCell ⟨w.heap.size + 1, 2, none⟩ (.int .u8 0))) := (((((FIN.out.setCell (Nat.le_refl _) _).setCell (Nat.le_refl _) _).setCell (Nat.le_refl _) _).setCell (Nat.le_succ _) _).setCell (Nat.le_succ _) _).setCell (Nat.le_succ _) _
  have LH := load_pk G3.out
  clear LG l2 L02 G1 G2 hn0 hn1 hn2 e0 e1 e2
  go_wp2_with fail
  generalize ((((((w2.setCell ⟨w.heap.size, 0, none⟩ (.int .u8 0)).setCell ⟨w.heap.size, 1, none⟩ (.int .u8 1)).setCell ⟨w.heap.size, 2, none⟩ (.int .u8 0)).setCell ⟨w.heap.size + 1, 0, none⟩ (.int .u8 0)).setCell ⟨w.heap.size + 1, 1, none⟩ (.int .u8 1)).setCell ⟨w.heap.size + 1, 2, none⟩ (.int .u8 0)) = v3 at *
  refine (QH.out _).mono ?_; rintro e w3 ⟨pa, ca, rfl, ha, l3⟩
  have LG : (loadP (.pointer (some ⟨w.heap.size + 1, 0, none⟩))).run Try.prog w3 = .ok (pkV (normH g) y) w3 := load_pk ((l3.block _ (Array.getElem?_eq_some_iff.1 G4.out).1).trans G4.out)
  have HA := Lib.hid ha
  have L3 := Lib.hid l3
  clear LH ha l3 c0 c1 c2 k0 k1 k2 f0 f1 f2 g0 g1 g2
  go_wp2_with fail
  refine (QG.out _).mono ?_; rintro e w4 ⟨pb, cb, rfl, hb, l4⟩
  have SA := str_held (HA.out.below l4)
  have SB := str_held hb
  have EQ := eql_str w4 (bytesH_byt (normH h)) (bytesH_byt (normH g))
  have FN : Hid (Below w.heap.size w w4) := FV.out.trans ((L3.out.trans (l4.mono L3.out.size)).mono FV.out.size)
  clear LG hb l4
  go_wp2
  go_ret
  exact ⟨rfl, FN.out⟩

/-- Same, whatever the heads. -/
theorem rsame4_any (w : World) (h g : Hd) (x y : Xt) (hw : h.wf) (gw : g.wf) :
    Calls Try.prog 13 #[pkV h x, pkV g y] w fun e w' => e = .returned (.bool (decide (h = g))) ∧ Below w.heap.size w w' := by
  have no : h ≠ g → decide (h = g) = false := fun n => decide_eq_false n
  by_cases hm : mayH h
  · by_cases gm : mayH g
    · exact rsame4_both w h g x y hw gw hm gm
    · rw [no (fun e => gm (e ▸ hm))]
      exact rsame4_first w h g x y hw hm gm
  · by_cases gm : mayH g
    · rw [no (fun e => hm (e ▸ gm))]
      exact rsame4_second w h g x y gw hm gm
    · by_cases a : h.lp = g.lp
      · by_cases b : h.ve = g.ve
        · by_cases c : h.mo = g.mo
          · exact rsame4_none_d w h g x y hw gw hm gm a b c
          · rw [no (fun e => c (by rw [e]))]
            exact rsame4_none_c w h g x y hm gm a b c
        · rw [no (fun e => b (by rw [e]))]
          exact rsame4_none_b w h g x y hm gm a b
      · rw [no (fun e => a (by rw [e]))]
        exact rsame4_none_a w h g x y hm gm a
end Go.Proofs.Ytjjbalgonkphjaa
