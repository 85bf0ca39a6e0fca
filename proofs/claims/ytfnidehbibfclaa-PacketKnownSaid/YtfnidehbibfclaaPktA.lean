/- Layer 7 (packet): a packet by value with its fields; the document's own May, Same, Body. -/
import Derived.Test.YtfnidehbibfclaaPktM
import Derived.Test.YtfnidehbibfclaaGA
import Derived.Test.YtfnidehbibfclaaGF
import Derived.Test.YtfnidehbibfclaaGG
set_option maxRecDepth 100000
namespace Go.Proofs.Ytfnidehbibfclaa
open Go.ChangeShapes Go.WideShapes Go.ChangeAt Go.RowKit OctM

/-- The packet of that head and all else says k. -/
structure Pk (w : World) (h : Hd) (x : Xt) (fs : List Fld) (k : Pak) : Prop where
  e : k = ⟨h, says fs, x.sg, x.ky, x.tg⟩
  hx : HoldsX w x.p x.n x.c fs
  ok : PakOk k
theorem Pk.below {w w' : World} {h : Hd} {x : Xt} {fs : List Fld} {k : Pak} (I : Pk w h x fs k) (b : Below w.heap.size w w') : Pk w' h x fs k := ⟨I.e, I.hx.below b, I.ok⟩
theorem Pk.flds {w : World} {h : Hd} {x : Xt} {fs : List Fld} {k : Pak} (I : Pk w h x fs k) : FldsOk fs := fun f hf => by
  have := I.ok.fl (f.ty, f.ds) (by rw [I.e]; unfold says; exact List.mem_map.2 ⟨f, hf, rfl⟩)
  exact this
theorem pk_zero (w : World) : Pk w Hd.zero Xt.zero [] Pak.zero := ⟨rfl, holdsX_nil w none 0 (Nat.zero_le _) (fun _ => rfl), pakZero_ok⟩
theorem pk_at {w : World} {N : Nat} {h : Hd} {x : Xt} (hg : w.heap[N]? = some (.cells (pkC h x) 27 (0, 0))) : w.cell? ⟨N, 13, none⟩ = some (.slice x.p x.n x.c) ∧ w.cell? ⟨N, 14, none⟩ = some (.bool x.sg) ∧ w.cell? ⟨N, 15, none⟩ = some (.int .u32 (x.ky : Nat)) ∧ w.cell? ⟨N, 16, none⟩ = some (.int .u64 (x.tg : Nat)) :=
  ⟨pk_cell hg 13 rfl, pk_cell hg 14 rfl, pk_cell hg 15 rfl, pk_cell hg 16 rfl⟩
theorem pk_keep {w w' : World} {N : Nat} {c : Array Value} {T : TypeId} (hg : w.heap[N]? = some (.cells c T (0, 0))) (b : Below w.heap.size w w') : w'.heap[N]? = some (.cells c T (0, 0)) := (b.block _ (Array.getElem?_eq_some_iff.1 hg).1).trans hg

attribute [local go_sem ↓] loadP_eq storeP_eq boxP_eq allocP_eq

theorem rmay7_any (w : World) (h : Hd) (x : Xt) (fs : List Fld) (k : Pak) (I : Pk w h x fs k) :
    Calls Try.prog 18 #[pkV h x] w fun e w' => e = .returned (.bool (decide (mayP k))) ∧ Below w.heap.size w w' := by
  have bx := box_pk h x
  have B0 : Hid ((w.alloc (.cells (pkC h x) 27)).heap[w.heap.size]? = some (.cells (pkC h x) 27 (0, 0))) := heap_alloc_new w _
  have LD := load_pk B0.out
  have L0 : Hid (Below w.heap.size w (w.alloc (.cells (pkC h x) 27))) := (Below.refl _ _).alloc (Nat.le_refl _) _
  have RX := Lib.hid (fun w' (b : Below w.heap.size w w') => rmay5_any w' x.p x.n x.c fs (I.hx.below b))
  obtain ⟨mh, hmh⟩ : ∃ b, decide (mayH h) = b := ⟨_, rfl⟩
  obtain ⟨mx, hmx⟩ : ∃ b, decide (mayX (says fs)) = b := ⟨_, rfl⟩
  have RH : Hid (∀ w, Calls Try.prog 42 #[pkV h x] w fun e w' => e = .returned (.bool mh) ∧ Out w w') := fun w => hmh ▸ rmay_any w h x
  have EV : Hid (decide (mayP k) = (mh && mx && decide (mayS x.sg x.ky x.tg))) := by
    unfold Hid
    rw [I.e, ← hmh, ← hmx, Bool.eq_iff_iff]
    simp only [Bool.and_eq_true, decide_eq_true_eq]
    unfold mayP
    simp only [and_assoc]
  rw [hmx] at RX
  clear hmh hmx I
  rw [EV.out]
  clear EV
  go_enter Try.func18, Try.ntmps18
  go_wp2_with fail
  refine (RH.out _).mono ?_; rintro e w1 ⟨rfl, o⟩
  have B1 := Lib.hid (pk_keep B0.out o.b)
  have FW : Hid (Below w.heap.size w w1) := L0.out.trans (o.b.mono L0.out.size)
  obtain ⟨c13, c14, c15, c16⟩ := pk_at B1.out
  have RX1 := Lib.hid (RX.out _ FW.out)
  clear o LD bx RX RH
  obtain ⟨p, n, c, sg, ky, tg⟩ := x
  simp only at c13 c14 c15 c16 RX1 ⊢
  cases mh
  · go_wp2
    go_ret
    exact ⟨rfl, FW.out⟩
  · go_wp2_with fail
    refine RX1.out.mono ?_; rintro e w' ⟨rfl, rfl⟩
    cases mx
    · go_wp2
      go_ret
      exact ⟨rfl, FW.out⟩
    · cases sg
      · go_wp2
        all_goals
          go_ret
          refine ⟨ret_bool ?_, FW.out⟩
          rw [Bool.eq_iff_iff]
          simp [mayS]
          try omega
      · go_wp2
        go_ret
        refine ⟨ret_bool ?_, FW.out⟩
        rw [Bool.eq_iff_iff]
        simp [mayS]
        try omega

set_option maxHeartbeats 4000000 in
theorem rsame7_any (w : World) (h g : Hd) (x y : Xt) (fs gs : List Fld) (k j : Pak) (I : Pk w h x fs k) (J : Pk w g y gs j) :
    Calls Try.prog 16 #[pkV h x, pkV g y] w fun e w' => e = .returned (.bool (decide (sameP k j))) ∧ Below w.heap.size w w' := by
  have bx := box_pk h x
  have by' := box_pk g y
  have B1 : Hid (((w.alloc (.cells (pkC h x) 27)).alloc (.cells (pkC g y) 27)).heap[w.heap.size]? = some (.cells (pkC h x) 27 (0, 0))) := heap_alloc2_old w _ _
  have B2 : Hid (((w.alloc (.cells (pkC h x) 27)).alloc (.cells (pkC g y) 27)).heap[w.heap.size + 1]? = some (.cells (pkC g y) 27 (0, 0))) := heap_alloc2_new w _ _
  have L0 : Hid (Below w.heap.size w ((w.alloc (.cells (pkC h x) 27)).alloc (.cells (pkC g y) 27))) := ((Below.refl _ _).alloc (Nat.le_refl _) _).alloc (by simp) _
  have LD := load_pk B1.out
  have LE := load_pk B2.out
  have hw : h.wf := by have := I.ok.wf; rw [I.e] at this; exact this
  have gw : g.wf := by have := J.ok.wf; rw [J.e] at this; exact this
  have RX := Lib.hid (fun w' (b : Below w.heap.size w w') => rsame5_any w' x.p y.p x.n x.c y.n y.c fs gs (I.hx.below b) (J.hx.below b) I.flds J.flds)
  obtain ⟨mh, hmh⟩ : ∃ b, decide (h = g) = b := ⟨_, rfl⟩
  obtain ⟨mx, hmx⟩ : ∃ b, decide (says fs = says gs) = b := ⟨_, rfl⟩
  have RH : Hid (∀ w, Calls Try.prog 39 #[pkV h x, pkV g y] w fun e w' => e = .returned (.bool mh) ∧ Below w.heap.size w w') := fun w => hmh ▸ rsame4_any w h g x y hw gw
  have EV : Hid (decide (sameP k j) = (mh && mx && decide (x.sg = y.sg) && decide (x.ky = y.ky) && decide (x.tg = y.tg))) := by
    unfold Hid
    rw [I.e, J.e, ← hmh, ← hmx, Bool.eq_iff_iff]
    simp only [Bool.and_eq_true, decide_eq_true_eq]
    unfold sameP
    simp only [and_assoc]
  rw [hmx] at RX
  clear hmh hmx I J hw gw
  rw [EV.out]
  clear EV
  go_enter Try.func16, Try.ntmps16
  go_wp2_with fail
  generalize (w.alloc (.cells (pkC h x) 27)).alloc (.cells (pkC g y) 27) = v at *
  refine (RH.out _).mono ?_; rintro e w1 ⟨rfl, o⟩
  have C1 := Lib.hid (pk_keep B1.out o)
  have C2 := Lib.hid (pk_keep B2.out o)
  have FW : Hid (Below w.heap.size w w1) := L0.out.trans (o.mono L0.out.size)
  obtain ⟨c13, c14, c15, c16⟩ := pk_at C1.out
  obtain ⟨d13, d14, d15, d16⟩ := pk_at C2.out
  have RX1 := Lib.hid (RX.out _ FW.out)
  clear o LD LE bx by' RX RH L0 B1 B2
  obtain ⟨p, n, c, sg, ky, tg⟩ := x
  obtain ⟨q, m, d, sg', ky', tg'⟩ := y
  simp only at c13 c14 c15 c16 d13 d14 d15 d16 RX1 ⊢
  cases mh
  · go_wp2
    go_ret
    exact ⟨rfl, FW.out⟩
  · go_wp2_with fail
    refine RX1.out.mono ?_; rintro e w' ⟨rfl, n1, rfl⟩
    have FN : Hid (Below w.heap.size w (w1.drewN n1)) := FW.out.trans ((below_drewN (Below.refl _ _) n1).mono FW.out.size)
    have c14' : (w1.drewN n1).cell? ⟨w.heap.size, 14, none⟩ = some (.bool sg) := c14
    cases mx
    · go_wp2
      go_ret
      exact ⟨rfl, FN.out⟩
    · go_wp2
      all_goals
        go_ret
        refine ⟨ret_bool ?_, FN.out⟩
        first
          | rfl
          | (rw [Bool.eq_iff_iff]; simp; done)
          | (rw [Bool.eq_iff_iff]; simp; omega)
end Go.Proofs.Ytfnidehbibfclaa
