/- Layer 8 (sane): Test: the program's, over its array of closures; the document's own. -/
import Derived.Test.YtggogcbmdillfaaDoorSaneB
import Derived.LoopTactic
set_option maxRecDepth 100000
namespace Go.Proofs.YtggogcbmdillfaaDoor
open Go.ChangeShapes Go.WideShapes Go.ChangeAt Go.RowKit StampM SaneM

attribute [local go_sem ↓] loadP_eq storeP_eq boxP_eq allocP_eq storeQ_eq

/-- the first error, by a packet's head. -/
def testH (h : Hd) : Nat := testN h.lp h.mo h.st h.rc h.xm (rhoN h.de h.di)

set_option maxHeartbeats 4000000 in
theorem ptest8_any (w : World) (h : Hd) (x : Xt) (h6 : h.de < 4294967296) (h7 : h.di < 4294967296) :
    Calls Tryd.prog 14 #[pkV h x] w fun e w' => e = .returned (.int .i64 (testH h : Nat)) ∧ Below w.heap.size w w' := by
  have bx := box_pk h x
  have LD := load_pk (heap_alloc_new w (.cells (pkC h x) 27))
  have L0 : Hid (Below w.heap.size w (w.alloc (.cells (pkC h x) 27))) := (Below.refl _ _).alloc (Nat.le_refl _) _
  obtain ⟨z1, h1⟩ : ∃ z : Int, (if h.mo ≠ 4 then 22 else 0) = z := ⟨_, rfl⟩
  obtain ⟨z2, h2⟩ : ∃ z : Int, (if h.st = 0 then 23 else 0) = z := ⟨_, rfl⟩
  obtain ⟨z3, h3⟩ : ∃ z : Int, (if deaf h.lp h.st h.rc h.xm (rhoN h.de h.di) then 24 else 0) = z := ⟨_, rfl⟩
  have EV : Hid (((testH h : Nat) : Int) = if z1 ≠ 0 then z1 else if z2 ≠ 0 then z2 else z3) := by
    unfold Hid testH testN
    rw [← h1, ← h2, ← h3]
    by_cases a : h.mo = 4 <;> by_cases b : h.st = 0 <;> by_cases c : deaf h.lp h.st h.rc h.xm (rhoN h.de h.di) <;> simp [a, b, c]
  have C1 := Lib.hid (fun W N (hg : W.heap[N]? = some (.cells (pkC h x) 27 (0, 0))) => show Calls Tryd.prog _ _ W fun e w' => e = .returned (.int .i64 z1) ∧ w' = W from h1 ▸ pq1_any W N h x hg)
  have C2 := Lib.hid (fun W N (hg : W.heap[N]? = some (.cells (pkC h x) 27 (0, 0))) => show Calls Tryd.prog _ _ W fun e w' => e = .returned (.int .i64 z2) ∧ w' = W from h2 ▸ pq2_any W N h x hg)
  have C3 := Lib.hid (fun W N (hg : W.heap[N]? = some (.cells (pkC h x) 27 (0, 0))) => show Calls Tryd.prog _ _ W fun e w' => e = .returned (.int .i64 z3) ∧ Below W.heap.size W w' from h3 ▸ pq3_any W N h x h6 h7 hg)
  have Q := Lib.hid (fun w => pquestions8_any w h x)
  generalize testH h = T at *
  clear h1 h2 h3
  go_enter Tryd.func14, Tryd.ntmps14
  go_wp2_with fail
  refine (Q.out _).mono ?_; rintro e w1 ⟨rfl, hg, l1⟩
  have L1 : Hid (Below w.heap.size w w1) := L0.out.trans (l1.mono L0.out.size)
  generalize (w.alloc (.cells (pkC h x) 27)).heap.size = N at *
  have HG := Lib.hid hg
  have i0 := qu_0 N
  have i1 := qu_1 N
  have i2 := qu_2 N
  clear hg l1 LD L0 h6 h7 Q
  go_wp2_with fail
  go_loopw [8] (fun i wr => ∃ k : Nat, i = .int .i64 k ∧ Hid (k ≤ 3) ∧ Hid ((0 < k → z1 = 0) ∧ (1 < k → z2 = 0) ∧ (2 < k → z3 = 0)) ∧ Hid (wr.heap[N]? = some (.cells (pkC h x) 27 (0, 0))) ∧ Hid (Below w.heap.size w wr)) (fun i _ => 10 - (intOf i).toNat)
  case atStart => exact ⟨0, rfl, Nat.zero_le _, ⟨by omega, by omega, by omega⟩, HG.out, L1.out⟩
  case round =>
    obtain ⟨k, rfl, hk, hb, hgr, low⟩ := hrel
    have cases4 : k = 0 ∨ k = 1 ∨ k = 2 ∨ k = 3 := by have := hk.out; omega
    rcases cases4 with rfl | rfl | rfl | rfl
    · have B := Lib.hid (C1.out wr N hgr.out)
      clear hk hb
      go_wp2_with fail
      refine B.out.mono ?_; rintro e w2 ⟨rfl, rfl⟩
      by_cases n1 : z1 = 0
      · have E1 := Lib.hid n1
        subst n1
        go_wp2
        go_roundw
        case rel => exact ⟨1, rfl, by unfold Hid; omega, ⟨fun _ => E1.out, by omega, by omega⟩, hgr.out, low.out⟩
        case measure => simp [intOf]
      · have F : Hid ((T : Int) = z1) := EV.out.trans <| if_pos n1
        go_wp2
        go_ret
        exact ⟨ret_int F.out.symm, low.out⟩
    · have e1 := hb.out.1 (by omega)
      have B := Lib.hid (C2.out wr N hgr.out)
      clear hk hb
      go_wp2_with fail
      refine B.out.mono ?_; rintro e w2 ⟨rfl, rfl⟩
      have E1 := Lib.hid e1
      by_cases n1 : z2 = 0
      · have E2 := Lib.hid n1
        subst n1
        clear e1
        go_wp2
        go_roundw
        case rel => exact ⟨2, rfl, by unfold Hid; omega, ⟨fun _ => E1.out, fun _ => E2.out, by omega⟩, hgr.out, low.out⟩
        case measure => simp [intOf]
      · have F : Hid ((T : Int) = z2) := EV.out.trans <| (if_neg (fun k => k e1)).trans (if_pos n1)
        clear e1
        go_wp2
        go_ret
        exact ⟨ret_int F.out.symm, low.out⟩
    · have e1 := hb.out.1 (by omega)
      have e2 := hb.out.2.1 (by omega)
      have B := Lib.hid (C3.out wr N hgr.out)
      clear hk hb
      have F : Hid ((T : Int) = z3) := EV.out.trans <| (if_neg (fun k => k e1)).trans (if_neg (fun k => k e2))
      have E1 := Lib.hid e1
      have E2 := Lib.hid e2
      clear e1 e2
      go_wp2_with fail
      refine B.out.mono ?_; rintro e w2 ⟨rfl, l2⟩
      have G2 := Lib.hid (pk8_keep hgr.out l2)
      have L2 : Hid (Below w.heap.size w w2) := low.out.trans (l2.mono low.out.size)
      clear l2
      by_cases n1 : z3 = 0
      · have E3 := Lib.hid n1
        subst n1
        go_wp2
        go_roundw
        case rel => exact ⟨3, rfl, by unfold Hid; omega, ⟨fun _ => E1.out, fun _ => E2.out, fun _ => E3.out⟩, G2.out, L2.out⟩
        case measure => simp [intOf]
      · go_wp2
        go_ret
        exact ⟨ret_int F.out.symm, L2.out⟩
    · have e1 := hb.out.1 (by omega)
      have e2 := hb.out.2.1 (by omega)
      have e3 := hb.out.2.2 (by omega)
      have F : Hid ((T : Int) = 0) := EV.out.trans <| (if_neg (fun k => k e1)).trans ((if_neg (fun k => k e2)).trans e3)
      clear hk hb e1 e2 e3
      go_wp2
      go_ret
      exact ⟨ret_int F.out.symm, low.out⟩

theorem rtest8_any (w : World) (h : Hd) (x : Xt) (h6 : h.de < 4294967296) (h7 : h.di < 4294967296) :
    Calls Tryd.prog 15 #[pkV h x] w fun e w' => e = .returned (.int .i64 (testH h : Nat)) ∧ Below w.heap.size w w' := by
  have bx := box_pk h x
  have B0 : Hid ((w.alloc (.cells (pkC h x) 27)).heap[w.heap.size]? = some (.cells (pkC h x) 27 (0, 0))) := heap_alloc_new w _
  have L0 : Hid (Below w.heap.size w (w.alloc (.cells (pkC h x) 27))) := (Below.refl _ _).alloc (Nat.le_refl _) _
  have LD := load_pk B0.out
  have c0 := pk8_cell (v := .int .u8 (h.lp : Nat)) B0.out 0 rfl
  have c2 := pk8_cell (v := .int .u8 (h.mo : Nat)) B0.out 2 rfl
  have c3 := pk8_cell (v := .int .u8 (h.st : Nat)) B0.out 3 rfl
  have c11 := pk8_cell (v := .int .u64 (h.rc : Nat)) B0.out 11 rfl
  have c12 := pk8_cell (v := .int .u64 (h.xm : Nat)) B0.out 12 rfl
  have RH := Lib.hid (fun w => rrho8_any w h x h6 h7)
  have RB := rho_lt h6 h7
  have TE : Hid (testH h = if h.mo ≠ 4 then 22 else if h.st = 0 then 23 else if h.lp = 3 ∨ 15 < h.st ∨ h.rc = 0 ∨ h.xm = 0 ∨ 16000000000 < rhoN h.de h.di then 24 else 0) := rfl
  generalize testH h = T at *
  generalize rhoN h.de h.di = R at *
  generalize h.lp = lp at *
  generalize h.mo = mo at *
  generalize h.st = st at *
  generalize h.rc = rc at *
  generalize h.xm = xm at *
  clear h6 h7
  by_cases em : mo = 4
  case neg =>
    have im : ¬ (mo : Int) = 4 := by omega
    have F : Hid (T = 22) := by unfold Hid; rw [TE.out, if_pos em]
    clear em
    rw [F.out]
    clear TE F RB
    go_enter Tryd.func15, Tryd.ntmps15
    go_wp2
    all_goals
      go_ret
      exact ⟨rfl, L0.out⟩
  have im : (mo : Int) = 4 := by omega
  rw [if_neg (fun k => k em)] at TE
  clear em
  by_cases es : st = 0
  case pos =>
    have i1 : (st : Int) = 0 := by omega
    have F : Hid (T = 23) := by unfold Hid; rw [TE.out, if_pos es]
    clear es
    rw [F.out]
    clear TE F RB
    go_enter Tryd.func15, Tryd.ntmps15
    go_wp2
    all_goals
      go_ret
      exact ⟨rfl, L0.out⟩
  have i1 : ¬ (st : Int) = 0 := by omega
  rw [if_neg es] at TE
  clear es
  by_cases e0 : lp = 3
  case pos =>
    have i0 : (lp : Int) = 3 := by omega
    have F : Hid (T = 24) := by unfold Hid; rw [TE.out, if_pos (.inl e0)]
    clear e0
    rw [F.out]
    clear TE F RB
    go_enter Tryd.func15, Tryd.ntmps15
    go_wp2
    all_goals
      go_ret
      exact ⟨rfl, L0.out⟩
  have i0 : ¬ (lp : Int) = 3 := by omega
  by_cases e1 : 15 < st
  case pos =>
    have j1 : 16 ≤ (st : Int) := by omega
    have F : Hid (T = 24) := by unfold Hid; rw [TE.out, if_pos (.inr (.inl e1))]
    clear e1 e0
    rw [F.out]
    clear TE F RB
    go_enter Tryd.func15, Tryd.ntmps15
    go_wp2
    all_goals
      go_ret
      exact ⟨rfl, L0.out⟩
  have j1 : ¬ 16 ≤ (st : Int) := by omega
  by_cases e2 : rc = 0
  case pos =>
    have F : Hid (T = 24) := by unfold Hid; rw [TE.out, if_pos (.inr (.inr (.inl e2)))]
    subst e2
    clear e1 e0
    rw [F.out]
    clear TE F RB
    go_enter Tryd.func15, Tryd.ntmps15
    go_wp2
    all_goals
      go_ret
      exact ⟨rfl, L0.out⟩
  have i2 : ¬ (rc : Int) = 0 := by omega
  by_cases e3 : xm = 0
  case pos =>
    have F : Hid (T = 24) := by unfold Hid; rw [TE.out, if_pos (.inr (.inr (.inr (.inl e3))))]
    subst e3
    clear e1 e0 e2
    rw [F.out]
    clear TE F RB
    go_enter Tryd.func15, Tryd.ntmps15
    go_wp2
    all_goals
      go_ret
      exact ⟨rfl, L0.out⟩
  have i3 : ¬ (xm : Int) = 0 := by omega
  by_cases e4 : 16000000000 < R
  case pos =>
    have i4 : 16000000000 < (R : Int) := by omega
    have F : Hid (T = 24) := by unfold Hid; rw [TE.out, if_pos (.inr (.inr (.inr (.inr e4))))]
    clear e1 e0 e2 e3 e4
    rw [F.out]
    clear TE F
    go_enter Tryd.func15, Tryd.ntmps15
    go_wp2_with fail
    refine (RH.out _).mono ?_; rintro e w1 ⟨rfl, l1⟩
    have LF : Hid (Below w.heap.size w w1) := L0.out.trans (l1.mono L0.out.size)
    clear l1
    go_wp2
    all_goals
      go_ret
      exact ⟨rfl, LF.out⟩
  have i4 : ¬ 16000000000 < (R : Int) := by omega
  have F : Hid (T = 0) := by unfold Hid; rw [TE.out, if_neg (by omega)]
  have j0 : ((lp : Int) == 3) = false := by simpa using i0
  have j2 : ((rc : Int) == 0) = false := by simpa using i2
  have j3 : ((xm : Int) == 0) = false := by simpa using i3
  clear e1 e0 e2 e3 e4
  rw [F.out]
  clear TE F
  go_enter Tryd.func15, Tryd.ntmps15
  go_wp2_with fail
  refine (RH.out _).mono ?_; rintro e w1 ⟨rfl, l1⟩
  have LF : Hid (Below w.heap.size w w1) := L0.out.trans (l1.mono L0.out.size)
  clear l1
  go_wp2
  all_goals
    go_ret
    exact ⟨rfl, LF.out⟩
end Go.Proofs.YtggogcbmdillfaaDoor
