/- SaneUses: nothing but Mode, Leap, Stratum, Delay, Disp, and whether Rec and Xmt are 0, does matter: the walk. (Written by wip/tools/gensaneuses.py.) -/
import Derived.Test.YtggogcbmdillfaaDoorSaneUsesA
import Derived.Deep.DeepCutAuto
set_option maxRecDepth 100000
namespace Go.Proofs.YtggogcbmdillfaaDoor
open Go.ChangeShapes Go.WideShapes Go.ChangeAt Go.RowKit OctM StampM SaneM

attribute [local go_sem ↓] loadP_eq storeP_eq boxP_eq allocP_eq eqlS_eq idxS_eq

/-- the second packet, with what matters of the first. -/
def Hd.lent (h g : Hd) (r s : Nat) : Hd := ⟨h.lp, g.ve, h.mo, h.st, g.po, g.pr, h.de, h.di, g.ri, g.rf, g.og, r, s⟩
def setFive (v : World) (M : Nat) (h : Hd) : World :=
  ((((v.setCell ⟨M, 2, none⟩ (.int .u8 (h.mo : Nat))).setCell ⟨M, 0, none⟩ (.int .u8 (h.lp : Nat))).setCell ⟨M, 3, none⟩ (.int .u8 (h.st : Nat))).setCell ⟨M, 6, none⟩ (.int .u32 (h.de : Nat))).setCell ⟨M, 7, none⟩ (.int .u32 (h.di : Nat))
theorem set_five {v : World} {M : Nat} {h g : Hd} {y : Xt} (hg : v.heap[M]? = some (.cells (pkC g y) 27 (0, 0))) : (setFive v M h).heap[M]? = some (.cells (pkC (h.lent g g.rc g.xm) y) 27 (0, 0)) :=
  blk_set (o := 7) (u := .int .u32 (h.di : Nat)) (blk_set (o := 6) (u := .int .u32 (h.de : Nat)) (blk_set (o := 3) (u := .int .u8 (h.st : Nat)) (blk_set (o := 0) (u := .int .u8 (h.lp : Nat)) (blk_set (o := 2) (u := .int .u8 (h.mo : Nat)) hg))))
theorem five_other {v : World} {M N : Nat} {h : Hd} {o : Obj} (n : N ≠ M) (hg : v.heap[N]? = some o) : (setFive v M h).heap[N]? = some o := by
  unfold setFive
  rw [Go.Deep.blk_setCell_other _ _ _ _ n, Go.Deep.blk_setCell_other _ _ _ _ n, Go.Deep.blk_setCell_other _ _ _ _ n, Go.Deep.blk_setCell_other _ _ _ _ n, Go.Deep.blk_setCell_other _ _ _ _ n]
  exact hg
theorem five_low {w v : World} {N M : Nat} {h : Hd} (l : Below N w v) (n : N ≤ M) : Below N w (setFive v M h) :=
  ((((l.setCell n _).setCell n _).setCell n _).setCell n _).setCell n _
theorem set_two {v : World} {M : Nat} {h g : Hd} {y : Xt} {r s : Nat} (r' s' : Nat) (hg : v.heap[M]? = some (.cells (pkC (h.lent g r s) y) 27 (0, 0))) :
    ((v.setCell ⟨M, 11, none⟩ (.int .u64 (r' : Nat))).setCell ⟨M, 12, none⟩ (.int .u64 (s' : Nat))).heap[M]? = some (.cells (pkC (h.lent g r' s') y) 27 (0, 0)) :=
  blk_set (o := 12) (u := .int .u64 (s' : Nat)) (blk_set (o := 11) (u := .int .u64 (r' : Nat)) hg)
theorem set_rec {v : World} {M : Nat} {h g : Hd} {y : Xt} {r s : Nat} (hg : v.heap[M]? = some (.cells (pkC (h.lent g r s) y) 27 (0, 0))) :
    (v.setCell ⟨M, 11, none⟩ (.int .u64 0)).heap[M]? = some (.cells (pkC (h.lent g 0 s) y) 27 (0, 0)) := blk_set (o := 11) (u := .int .u64 0) hg
theorem set_xmt {v : World} {M : Nat} {h g : Hd} {y : Xt} {r s : Nat} (hg : v.heap[M]? = some (.cells (pkC (h.lent g r s) y) 27 (0, 0))) :
    (v.setCell ⟨M, 12, none⟩ (.int .u64 0)).heap[M]? = some (.cells (pkC (h.lent g r 0) y) 27 (0, 0)) := blk_set (o := 12) (u := .int .u64 0) hg

/-- the code's text, as the law asks it. -/
def CodeOk (st : Nat) (S : ByteArray) : Prop := (S = ⟨#[]⟩) ∨ (st = 0 ∧ ∃ m z : Nat, S.size = m + 1 ∧ m + 1 ≤ 4 ∧ z ≠ 0 ∧ ∀ w, (idxS (.string S) (.int .i64 (m : Int))).run Tryd.prog w = .ok (.int .u8 (z : Int)) w)
theorem code_ok (st : Nat) {ri : Nat} (hr : ri < 4294967296) : CodeOk st (kissS st ri) := by
  unfold CodeOk kissS
  by_cases e : st = 0
  · rw [if_pos e]
    by_cases n : codeL ri = []
    · exact .inl (by rw [n]; rfl)
    · right
      have l0 : 0 < (codeL ri).length := List.length_pos_iff.2 n
      have l4 := code_len ri
      obtain ⟨z, hz⟩ : ∃ z, (codeL ri)[(codeL ri).length - 1]? = some z := ⟨_, List.getElem?_eq_getElem (by omega)⟩
      exact ⟨e, (codeL ri).length - 1, z, by rw [strN_size]; omega, by omega, code_last z hz, fun w => index_str w (code_byt hr) hz⟩
  · rw [if_neg e]
    exact .inl rfl

theorem pk8_cellr {v : World} {M : Nat} {h g : Hd} {y : Xt} {r s : Nat} (hg : v.heap[M]? = some (.cells (pkC (h.lent g r s) y) 27 (0, 0))) : v.cell? ⟨M, 11, none⟩ = some (.int .u64 (r : Nat)) := pk8_cell hg 11 rfl
theorem pk8_cells {v : World} {M : Nat} {h g : Hd} {y : Xt} {r s : Nat} (hg : v.heap[M]? = some (.cells (pkC (h.lent g r s) y) 27 (0, 0))) : v.cell? ⟨M, 12, none⟩ = some (.int .u64 (s : Nat)) := pk8_cell hg 12 rfl
set_option maxHeartbeats 8000000 in
theorem uses8_walk (w : World) (h g : Hd) (x y : Xt) (hw : h.wf) (gw : g.wf) :
    Calls Tryd.prog 5 #[pkV h x, pkV g y] w fun e w' => e = .returned (.bool true) ∧ Below w.heap.size w w' := by
  obtain ⟨N, hN⟩ : ∃ N, w.heap.size = N := ⟨_, rfl⟩
  have az := alloc_pk
  have bx := box_pk h x w
  have by' := box_pk g y (w.alloc (.cells (pkC h x) 27))
  have s1 : (w.alloc (.cells (pkC h x) 27)).heap.size = w.heap.size + 1 := by simp
  have s2 : (((w.alloc (.cells (pkC h x) 27)).alloc (.cells (pkC g y) 27))).heap.size = w.heap.size + 1 + 1 := by simp
  have B0 : Hid ((((w.alloc (.cells (pkC h x) 27)).alloc (.cells (pkC g y) 27))).heap[w.heap.size]? = some (.cells (pkC h x) 27 (0, 0))) := heap_alloc2_old w _ _
  have C0 : Hid ((((w.alloc (.cells (pkC h x) 27)).alloc (.cells (pkC g y) 27))).heap[w.heap.size + 1]? = some (.cells (pkC g y) 27 (0, 0))) := heap_alloc2_new w _ _
  have L0 : Hid (Below w.heap.size w (((w.alloc (.cells (pkC h x) 27)).alloc (.cells (pkC g y) 27)))) := ((Below.refl _ _).alloc (Nat.le_refl _) _).alloc (by simp) _
  rw [s1] at by'
  rw [hN] at bx by' B0 C0 L0 s2 ⊢
  have HN := Lib.hid hN
  have SZ : Hid ((((w.alloc (.cells (pkC h x) 27)).alloc (.cells (pkC g y) 27))).heap.size = N + 2) := s2
  clear hN s1 s2
  have LD := load_pk B0.out
  have PT := Lib.hid (fun w => ptest8_any w h x hw.de hw.di)
  have PK := Lib.hid (fun w => pkiss8_any w h x hw.ri)
  have PR := Lib.hid (fun w => prho8_any w h x hw.de hw.di)
  have CO := Lib.hid (code_ok h.st hw.ri)
  have TQ : Hid (∀ r s : Nat, (r = 0 ↔ h.rc = 0) → (s = 0 ↔ h.xm = 0) → ∀ w, Calls Tryd.prog 14 #[pkV (h.lent g r s) y] w fun e w' => e = .returned (.int .i64 (testH h : Nat)) ∧ Below w.heap.size w w') := fun r s e1 e2 w => by
    have t := ptest8_any w (h.lent g r s) y hw.de hw.di
    rwa [show testH (h.lent g r s) = testH h from uses_test h.lp h.mo h.st (rhoN h.de h.di) e1 e2] at t
  have RQ : Hid (∀ r s : Nat, ∀ w, Calls Tryd.prog 12 #[pkV (h.lent g r s) y] w fun e w' => e = .returned (.int .i64 (rhoN h.de h.di : Nat)) ∧ Below w.heap.size w w') := fun r s w => prho8_any w (h.lent g r s) y hw.de hw.di
  have T0 : Hid (testH h = 0 → h.mo = 4 ∧ h.st ≠ 0 ∧ h.lp ≠ 3 ∧ h.st ≤ 15 ∧ h.rc ≠ 0 ∧ h.xm ≠ 0 ∧ rhoN h.de h.di ≤ 16000000000) := fun e => uses_zero e
  have T23 : Hid (testH h = 23 → h.st = 0) := fun e => uses_kiss e
  have GR := Lib.hid gw.rc
  have GX := Lib.hid gw.xm
  obtain ⟨b, hb⟩ : ∃ b, decide (h.st = 0) = b := ⟨_, rfl⟩
  rw [hb] at PK
  have BT : Hid (h.st = 0 → b = true) := fun e => by rw [← hb]; exact decide_eq_true e
  have BF : Hid (h.st ≠ 0 → b = false) := fun e => by rw [← hb]; exact decide_eq_false e
  clear hb hw gw
  generalize testH h = T at *
  generalize rhoN h.de h.di = R at *
  generalize kissS h.st h.ri = S at *
  go_enter Tryd.func5, Tryd.ntmps5
  go_wp2_with fail
  generalize ((w.alloc (.cells (pkC h x) 27)).alloc (.cells (pkC g y) 27)) = v at *
  refine (PT.out _).mono ?_; rintro e v1 ⟨rfl, l1⟩
  have B1 := Lib.hid (pk8_keep B0.out l1)
  have C1 := Lib.hid (pk8_keep C0.out l1)
  have L1 := Lib.hid (low_call HN.out L0.out l1)
  have S1 : Hid (N + 2 ≤ v1.heap.size) := by have := l1.size; have := SZ.out; unfold Hid; omega
  have LD1 := load_pk B1.out
  clear l1 LD B0 C0 L0 SZ bx by'
  go_wp2_with fail
  refine (PK.out _).mono ?_; rintro e v2 ⟨rfl, l2⟩
  have B2 := Lib.hid (pk8_keep B1.out l2)
  have C2 := Lib.hid (pk8_keep C1.out l2)
  have L2 := Lib.hid (low_call HN.out L1.out l2)
  have S2 : Hid (N + 2 ≤ v2.heap.size) := by have := l2.size; have := S1.out; unfold Hid; omega
  have LD2 := load_pk B2.out
  clear l2 LD1 B1 C1 L1 S1
  go_wp2_with fail
  refine (PR.out _).mono ?_; rintro e v3 ⟨rfl, l3⟩
  have B3 := Lib.hid (pk8_keep B2.out l3)
  have C3 := Lib.hid (pk8_keep C2.out l3)
  have L3 := Lib.hid (low_call HN.out L2.out l3)
  have S3 : Hid (N + 2 ≤ v3.heap.size) := by have := l3.size; have := S2.out; unfold Hid; omega
  clear l3 LD2 B2 C2 L2 S2 PT PK PR
  go_upto_region 4 with fail
  go_cut [76] (fun b wx => b = .bool false ∧ v3 = wx)
  case first =>
    have c0 := pk8_cell (v := .int .u8 (h.lp : Nat)) B3.out 0 rfl
    have c2 := pk8_cell (v := .int .u8 (h.mo : Nat)) B3.out 2 rfl
    have c3 := pk8_cell (v := .int .u8 (h.st : Nat)) B3.out 3 rfl
    have c11 := pk8_cell (v := .int .u64 (h.rc : Nat)) B3.out 11 rfl
    have c12 := pk8_cell (v := .int .u64 (h.xm : Nat)) B3.out 12 rfl
    have r0 : decide ((R : Int) < 0) = false := decide_eq_false (by omega)
    generalize h.lp = lp at *
    generalize h.mo = mo at *
    generalize h.st = st at *
    generalize h.rc = rc at *
    generalize h.xm = xm at *
    by_cases t0 : T = 0
    · obtain ⟨a1, a2, a3, a4, a5, a6, a7⟩ := T0.out t0
      obtain rfl := BF.out a2
      have j1 : ((mo : Int) != 4) = false := by rw [a1]; rfl
      have j2 : ((st : Int) == 0) = false := beq_eq_false_iff_ne.2 (by omega)
      have j3 : ((lp : Int) == 3) = false := beq_eq_false_iff_ne.2 (by omega)
      have j4 : decide (15 < (st : Int)) = false := decide_eq_false (by omega)
      have j5 : ((rc : Int) == 0) = false := beq_eq_false_iff_ne.2 (by omega)
      have j6 : ((xm : Int) == 0) = false := beq_eq_false_iff_ne.2 (by omega)
      have j7 : decide (16000000000 < (R : Int)) = false := decide_eq_false (by omega)
      have j8 : ((T : Int) == 0) = true := by rw [t0]; rfl
      have j9 : ((T : Int) == 23) = false := by rw [t0]; rfl
      have k4 : decide (15 < st) = false := decide_eq_false (by omega)
      have k7 : decide (16000000000 < R) = false := decide_eq_false (by omega)
      clear t0 a1 a2 a3 a4 a5 a6 a7 T0 T23 BT BF CO TQ RQ
      go_wp2_with fail
      go_meet
      exact ⟨rfl, rfl⟩
    · have j8 : ((T : Int) == 0) = false := beq_eq_false_iff_ne.2 (by omega)
      by_cases s0 : st = 0
      · obtain rfl := BT.out s0
        have j2 : ((st : Int) == 0) = true := by rw [s0]; rfl
        by_cases t3 : T = 23
        · have j9 : ((T : Int) == 23) = true := by rw [t3]; rfl
          clear t0 t3 s0 T0 T23 BT BF CO TQ RQ
          go_wp2_with fail
          go_meet
          exact ⟨rfl, rfl⟩
        · have j9 : ((T : Int) == 23) = false := beq_eq_false_iff_ne.2 (by omega)
          clear t0 t3 s0 T0 T23 BT BF CO TQ RQ
          go_wp2_with fail
          go_meet
          exact ⟨rfl, rfl⟩
      · obtain rfl := BF.out s0
        have j2 : ((st : Int) == 0) = false := beq_eq_false_iff_ne.2 (by omega)
        have j9 : ((T : Int) == 23) = false := beq_eq_false_iff_ne.2 (fun k => s0 (T23.out (by omega)))
        clear t0 s0 T0 T23 BT BF CO TQ RQ
        go_wp2_with fail
        go_meet
        exact ⟨rfl, rfl⟩
  case rest =>
  obtain ⟨rfl, rfl⟩ := hcut
  go_upto_region 6 with fail
  go_cut [96] (fun b wx => b = .bool false ∧ v3 = wx)
  case first =>
    rcases CO.out with rfl | ⟨e, m, z, hs, hm, hz, ix⟩
    · clear T0 T23 BT BF CO TQ RQ
      go_wp2_with fail
      go_meet
      exact ⟨rfl, rfl⟩
    · obtain rfl := BT.out e
      have j1 : decide ((4 : Int) < (m : Int) + 1) = false := decide_eq_false (by omega)
      have j2 : ((z : Int) == 0) = false := beq_eq_false_iff_ne.2 (by omega)
      clear T0 T23 BT BF CO TQ RQ hz e
      go_wp2_with fail
      go_meet
      exact ⟨rfl, rfl⟩
  case rest =>
  obtain ⟨rfl, rfl⟩ := hcut
  clear T0 T23 BT BF CO
  go_upto_region 8 with fail
  as_aux_lemma =>
    have LDC := load_pk C3.out
    have SN := store_new v3 (pkC Hd.zero Xt.zero) g y rfl
    have AL : Below v3.heap.size v3 (v3.alloc (.cells (pkC g y) 27)) := (Below.refl _ _).alloc (Nat.le_refl _) _
    have B4 := Lib.hid (pk8_keep B3.out AL)
    have C4 := Lib.hid (pk8_keep C3.out AL)
    have D4 : Hid ((v3.alloc (.cells (pkC g y) 27)).heap[v3.heap.size]? = some (.cells (pkC g y) 27 (0, 0))) := heap_alloc_new v3 _
    have L4 := Lib.hid (low_alloc HN.out L3.out (.cells (pkC g y) 27))
    clear AL B3 C3 L3
    go_upto_region 9 with fail
    generalize v3.alloc (.cells (pkC g y) 27) = v4 at *
    generalize v3.heap.size = M at *
    have SM := S3.out
    have n1 : ¬ N = M := by omega
    have n2 : ¬ M = N := by omega
    have n3 : ¬ N + 1 = M := by omega
    have n4 : ¬ M = N + 1 := by omega
    have p0 := pk8_cell (v := .int .u8 (h.lp : Nat)) B4.out 0 rfl
    have p2 := pk8_cell (v := .int .u8 (h.mo : Nat)) B4.out 2 rfl
    have p3 := pk8_cell (v := .int .u8 (h.st : Nat)) B4.out 3 rfl
    have p6 := pk8_cell (v := .int .u32 (h.de : Nat)) B4.out 6 rfl
    have p7 := pk8_cell (v := .int .u32 (h.di : Nat)) B4.out 7 rfl
    have q0 := pk8_cell (v := .int .u8 (g.lp : Nat)) D4.out 0 rfl
    have q2 := pk8_cell (v := .int .u8 (g.mo : Nat)) D4.out 2 rfl
    have q3 := pk8_cell (v := .int .u8 (g.st : Nat)) D4.out 3 rfl
    have q6 := pk8_cell (v := .int .u32 (g.de : Nat)) D4.out 6 rfl
    have q7 := pk8_cell (v := .int .u32 (g.di : Nat)) D4.out 7 rfl
    have f0 := blk_free (o := 0) D4.out
    have f2 := blk_free (o := 2) D4.out
    have f3 := blk_free (o := 3) D4.out
    have f6 := blk_free (o := 6) D4.out
    have f7 := blk_free (o := 7) D4.out
    have D5 := Lib.hid (set_five (h := h) D4.out)
    have B5 := Lib.hid (five_other (h := h) n1 B4.out)
    have C5 := Lib.hid (five_other (h := h) n3 C4.out)
    have L5 := Lib.hid (five_low (h := h) L4.out (by omega : N ≤ M))
    as_aux_lemma =>
      unfold setFive at D5 B5 C5 L5
      clear LDC SN S3
      go_region
      generalize ((((v4.setCell ⟨M, 2, none⟩ (.int .u8 (h.mo : Nat))).setCell ⟨M, 0, none⟩ (.int .u8 (h.lp : Nat))).setCell ⟨M, 3, none⟩ (.int .u8 (h.st : Nat))).setCell ⟨M, 6, none⟩ (.int .u32 (h.de : Nat))).setCell ⟨M, 7, none⟩ (.int .u32 (h.di : Nat)) = v5 at *
      clear B4 C4 D4 L4 p0 p2 p3 p6 p7 q0 q2 q3 q6 q7 f0 f2 f3 f6 f7
      as_aux_lemma =>
        have B6 : Hid (v5.drew.heap[N]? = some (.cells (pkC h x) 27 (0, 0))) := B5.out
        have C6 : Hid (v5.drew.heap[N + 1]? = some (.cells (pkC g y) 27 (0, 0))) := C5.out
        have D6 : Hid (v5.drew.heap[M]? = some (.cells (pkC (h.lent g g.rc g.xm) y) 27 (0, 0))) := D5.out
        have L6 : Hid (Below N w v5.drew) := L5.out.drew
        generalize v5.drew = v6 at *
        clear B5 C5 D5 L5
        obtain ⟨r, er, rn', -⟩ := or_one GR.out
        obtain ⟨s, es, sn', -⟩ := or_one GX.out
        have rn := Lib.hid rn'
        have sn := Lib.hid sn'
        clear rn' sn'
        have p11 := pk8_cell (v := .int .u64 (g.rc : Nat)) C6.out 11 rfl
        have p12 := pk8_cell (v := .int .u64 (g.xm : Nat)) C6.out 12 rfl
        have q11 := pk8_cell (v := .int .u64 (g.rc : Nat)) D6.out 11 rfl
        have q12 := pk8_cell (v := .int .u64 (g.xm : Nat)) D6.out 12 rfl
        have f11 := blk_free (o := 11) D6.out
        have f12 := blk_free (o := 12) D6.out
        have D7 := Lib.hid (set_two r s D6.out)
        have B7 : Hid (((v6.setCell ⟨M, 11, none⟩ (.int .u64 (r : Nat))).setCell ⟨M, 12, none⟩ (.int .u64 (s : Nat))).heap[N]? = some (.cells (pkC h x) 27 (0, 0))) := by
          unfold Hid
          rw [Go.Deep.blk_setCell_other _ _ _ _ n1, Go.Deep.blk_setCell_other _ _ _ _ n1]
          exact B6.out
        have L7 : Hid (Below N w ((v6.setCell ⟨M, 11, none⟩ (.int .u64 (r : Nat))).setCell ⟨M, 12, none⟩ (.int .u64 (s : Nat)))) := (L6.out.setCell (show N ≤ M by omega) _).setCell (show N ≤ M by omega) _
        as_aux_lemma =>
          go_upto_region 10 with fail
          go_region
          generalize (v6.setCell ⟨M, 11, none⟩ (.int .u64 (r : Nat))).setCell ⟨M, 12, none⟩ (.int .u64 (s : Nat)) = v8 at *
          clear B6 C6 D6 L6 p11 p12 q11 q12 f11 f12
          have B8 : Hid (v8.drew.heap[N]? = some (.cells (pkC h x) 27 (0, 0))) := B7.out
          have D8 : Hid (v8.drew.heap[M]? = some (.cells (pkC (h.lent g r s) y) 27 (0, 0))) := D7.out
          have L8 : Hid (Below N w v8.drew) := L7.out.drew
          clear B7 D7 L7
          generalize v8.drew = v7 at *
          have B7 := B8
          have D7 := D8
          have L7 := L8
          clear B8 D8 L8
          have TT : ((T : Int) == (T : Int)) = true := beq_self_eq_true _
          have RR : ((R : Int) == (R : Int)) = true := beq_self_eq_true _
          replace rn := rn.out
          replace sn := sn.out
          as_aux_lemma =>
            by_cases e1 : h.rc = 0
            · by_cases e2 : h.xm = 0
              · skip
                have k1 : ((h.rc : Int) == 0) = true := by rw [e1]; rfl
                have k2 : ((h.xm : Int) == 0) = true := by rw [e2]; rfl
                have c11 := pk8_cell (v := .int .u64 (h.rc : Nat)) B7.out 11 rfl
                have c12 := pk8_cell (v := .int .u64 (h.xm : Nat)) B7.out 12 rfl
                have f11 := blk_free (o := 11) D7.out
                have f12 := blk_free (o := 12) D7.out
                have d11 := pk8_cellr D7.out
                have d12 := pk8_cells D7.out
                have D8 := Lib.hid (set_rec D7.out)
                have L8 := Lib.hid (L7.out.setCell (show N ≤ M by omega) (.int .u64 0) (p := ⟨M, 11, none⟩))
                have D9 := Lib.hid (set_xmt D8.out)
                have L9 := Lib.hid (L8.out.setCell (show N ≤ M by omega) (.int .u64 0) (p := ⟨M, 12, none⟩))
                have TF := Lib.hid (TQ.out 0 0 (by omega) (by omega))
                have RF := Lib.hid (RQ.out 0 0)
                clear TQ RQ e1 e2
                go_upto_region 15 with fail
                generalize (v7.setCell ⟨M, 11, none⟩ (.int .u64 0)).setCell ⟨M, 12, none⟩ (.int .u64 0) = v9 at *
                clear D8 L8
                clear D7 L7 B7 c11 c12 f11 f12 d11 d12
                have LDM := load_pk D9.out
                go_wp2_with fail
                refine (TF.out _).mono ?_; rintro e va ⟨rfl, la⟩
                have DA := Lib.hid (pk8_keep D9.out la)
                have LA := Lib.hid (low_call HN.out L9.out la)
                have LDA := load_pk DA.out
                clear la LDM D9 L9 TF
                go_wp2_with fail
                refine (RF.out _).mono ?_; rintro e vb ⟨rfl, lb⟩
                have LB := Lib.hid (low_call HN.out LA.out lb)
                clear lb LDA DA LA RF
                go_wp2_with fail
                refine (alive8_any _).mono ?_; rintro e vc ⟨rfl, lc⟩
                have LC := Lib.hid (low_call HN.out LB.out lc)
                clear lc
                go_wp2
                go_ret
                exact ⟨rfl, LC.out⟩
              · skip
                have k1 : ((h.rc : Int) == 0) = true := by rw [e1]; rfl
                have k2 : ((h.xm : Int) == 0) = false := beq_eq_false_iff_ne.2 (by omega)
                have c11 := pk8_cell (v := .int .u64 (h.rc : Nat)) B7.out 11 rfl
                have c12 := pk8_cell (v := .int .u64 (h.xm : Nat)) B7.out 12 rfl
                have f11 := blk_free (o := 11) D7.out
                have f12 := blk_free (o := 12) D7.out
                have d11 := pk8_cellr D7.out
                have d12 := pk8_cells D7.out
                have D8 := Lib.hid (set_rec D7.out)
                have L8 := Lib.hid (L7.out.setCell (show N ≤ M by omega) (.int .u64 0) (p := ⟨M, 11, none⟩))
                have D9 := D8
                have L9 := L8
                have TF := Lib.hid (TQ.out 0 s (by omega) (by omega))
                have RF := Lib.hid (RQ.out 0 s)
                clear TQ RQ e1 e2
                go_upto_region 15 with fail
                generalize v7.setCell ⟨M, 11, none⟩ (.int .u64 0) = v9 at *
                clear D8 L8
                clear D7 L7 B7 c11 c12 f11 f12 d11 d12
                have LDM := load_pk D9.out
                go_wp2_with fail
                refine (TF.out _).mono ?_; rintro e va ⟨rfl, la⟩
                have DA := Lib.hid (pk8_keep D9.out la)
                have LA := Lib.hid (low_call HN.out L9.out la)
                have LDA := load_pk DA.out
                clear la LDM D9 L9 TF
                go_wp2_with fail
                refine (RF.out _).mono ?_; rintro e vb ⟨rfl, lb⟩
                have LB := Lib.hid (low_call HN.out LA.out lb)
                clear lb LDA DA LA RF
                go_wp2_with fail
                refine (alive8_any _).mono ?_; rintro e vc ⟨rfl, lc⟩
                have LC := Lib.hid (low_call HN.out LB.out lc)
                clear lc
                go_wp2
                go_ret
                exact ⟨rfl, LC.out⟩
            · by_cases e2 : h.xm = 0
              · skip
                have k1 : ((h.rc : Int) == 0) = false := beq_eq_false_iff_ne.2 (by omega)
                have k2 : ((h.xm : Int) == 0) = true := by rw [e2]; rfl
                have c11 := pk8_cell (v := .int .u64 (h.rc : Nat)) B7.out 11 rfl
                have c12 := pk8_cell (v := .int .u64 (h.xm : Nat)) B7.out 12 rfl
                have f11 := blk_free (o := 11) D7.out
                have f12 := blk_free (o := 12) D7.out
                have d11 := pk8_cellr D7.out
                have d12 := pk8_cells D7.out
                have D8 := D7
                have L8 := L7
                have D9 := Lib.hid (set_xmt D8.out)
                have L9 := Lib.hid (L8.out.setCell (show N ≤ M by omega) (.int .u64 0) (p := ⟨M, 12, none⟩))
                have TF := Lib.hid (TQ.out r 0 (by omega) (by omega))
                have RF := Lib.hid (RQ.out r 0)
                clear TQ RQ e1 e2
                go_upto_region 15 with fail
                generalize v7.setCell ⟨M, 12, none⟩ (.int .u64 0) = v9 at *
                clear D8 L8
                clear D7 L7 B7 c11 c12 f11 f12 d11 d12
                have LDM := load_pk D9.out
                go_wp2_with fail
                refine (TF.out _).mono ?_; rintro e va ⟨rfl, la⟩
                have DA := Lib.hid (pk8_keep D9.out la)
                have LA := Lib.hid (low_call HN.out L9.out la)
                have LDA := load_pk DA.out
                clear la LDM D9 L9 TF
                go_wp2_with fail
                refine (RF.out _).mono ?_; rintro e vb ⟨rfl, lb⟩
                have LB := Lib.hid (low_call HN.out LA.out lb)
                clear lb LDA DA LA RF
                go_wp2_with fail
                refine (alive8_any _).mono ?_; rintro e vc ⟨rfl, lc⟩
                have LC := Lib.hid (low_call HN.out LB.out lc)
                clear lc
                go_wp2
                go_ret
                exact ⟨rfl, LC.out⟩
              · skip
                have k1 : ((h.rc : Int) == 0) = false := beq_eq_false_iff_ne.2 (by omega)
                have k2 : ((h.xm : Int) == 0) = false := beq_eq_false_iff_ne.2 (by omega)
                have c11 := pk8_cell (v := .int .u64 (h.rc : Nat)) B7.out 11 rfl
                have c12 := pk8_cell (v := .int .u64 (h.xm : Nat)) B7.out 12 rfl
                have f11 := blk_free (o := 11) D7.out
                have f12 := blk_free (o := 12) D7.out
                have d11 := pk8_cellr D7.out
                have d12 := pk8_cells D7.out
                have D8 := D7
                have L8 := L7
                have D9 := D8
                have L9 := L8
                have TF := Lib.hid (TQ.out r s (by omega) (by omega))
                have RF := Lib.hid (RQ.out r s)
                clear TQ RQ e1 e2
                go_upto_region 15 with fail
                clear B7 c11 c12 f11 f12 d11 d12
                have LDM := load_pk D9.out
                go_wp2_with fail
                refine (TF.out _).mono ?_; rintro e va ⟨rfl, la⟩
                have DA := Lib.hid (pk8_keep D9.out la)
                have LA := Lib.hid (low_call HN.out L9.out la)
                have LDA := load_pk DA.out
                clear la LDM D9 L9 TF
                go_wp2_with fail
                refine (RF.out _).mono ?_; rintro e vb ⟨rfl, lb⟩
                have LB := Lib.hid (low_call HN.out LA.out lb)
                clear lb LDA DA LA RF
                go_wp2_with fail
                refine (alive8_any _).mono ?_; rintro e vc ⟨rfl, lc⟩
                have LC := Lib.hid (low_call HN.out LB.out lc)
                clear lc
                go_wp2
                go_ret
                exact ⟨rfl, LC.out⟩
end Go.Proofs.YtggogcbmdillfaaDoor
