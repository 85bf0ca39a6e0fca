/- The walk of HeadForm, way 2: its head may be put: yes; the bytes: form. (Written by wip/tools/genheadform.py.) -/
import Derived.Test.YtjjbalgonkphjaaHeadFormA
namespace Go.Proofs.Ytjjbalgonkphjaa
open Go.ChangeShapes Go.WideShapes Go.ChangeAt Go.RowKit OctM

attribute [local go_sem ↓] loadP_eq storeP_eq boxP_eq allocP_eq zeroP_eq zeroP_eq' strB_eq eqlS_eq neqS_eq addS_eq
set_option maxRecDepth 100000 in
set_option maxHeartbeats 16000000 in
theorem form_yes_form (w : World) (h : Hd) (x : Xt) (p1 p2 : Option Addr) (n1 c1 m1 n2 c2 m2 : Nat) (bh ds : List Nat) (I : FormIn w h p1 p2 n1 c1 m1 n2 c2 m2 bh ds) (hm : mayH h) (hb : 48 ≤ m2) (hv : ¬ mayH (hdP ds)) :
    Calls Try.prog 5 #[pkV h x, .slice p1 n1 c1, .slice p2 n2 c2] w fun e w' => e = .returned (.bool true) ∧ Below w.heap.size w w' := by
  obtain ⟨i0, hi, hz0, hz1, hz2⟩ := info_of info8
  have bx := box_pk h x
  have sn := fun w h x => store_new w (pkC Hd.zero Xt.zero) h x rfl
  have al := alloc_pk
  have zr := zero_pk
  have II := Lib.hid I
  have HM := Lib.hid hm
  have e1 := I.e1
  have e2 := I.e2
  have i1 : (if (100 : Int) < (n1 : Int) then (100 : Int) else (n1 : Int)) = (m1 : Int) := by split <;> omega
  have i2 : (if (100 : Int) < (n2 : Int) then (100 : Int) else (n2 : Int)) = (m2 : Int) := by split <;> omega
  have q1 := I.q1
  have q2 := I.q2
  have b1 : (m1 : Int) ≤ 100 := by have := I.b1; omega
  have b2 : (m2 : Int) ≤ 100 := by have := I.b2; omega
  have hl := I.l2
  have T2 : Hid (Told ds Hd.zero 0 [] 5) := told_form I.y2 (by omega) (by have := I.b2; omega) hv
  have s48 : (48 : Int) ≤ (m2 : Int) := by omega
  have d48 : decide ((m2 : Int) < 48) = false := by simp; omega
  have d49 : decide (m2 < 48) = false := by simp; omega
  obtain ⟨D, hD⟩ : ∃ D, D = bytesH h ++ bh := ⟨_, rfl⟩
  have T1 : Hid (∀ (w : World) (p : Option Addr) (c : Nat), Holds w p (48 + m1) c (valsN .u8 D) → Calls Try.prog 15 #[.slice p (48 + m1) c] w (PQ w h m1 bh 0)) := fun w p c hh => by
    have t := (told_bytes h I.hw hm I.y1 (by have := I.l1; have := I.b1; omega)).prog w p c
    rw [show (bytesH h ++ bh).length = 48 + m1 by rw [List.length_append, bytesH_len, I.l1], I.l1, ← hD] at t
    exact t hh
  have ED : Hid (valsN .u8 (bytesH h) ++ valsN .u8 bh = valsN .u8 D) := by unfold Hid; rw [hD, valsN_append]
  clear hD
  have BM : Hid (48 + m1 ≤ maxLen) := by unfold Hid maxLen; have := I.b1; omega
  have BY : Hid ((48 + m1) * 1 ≤ 140737488355328) := by unfold Hid; have := I.b1; omega
  have MD : Hid (decide (mayH h) = true) := decide_eq_true hm
  have B0 : Hid ((w.alloc (.cells (pkC h x) 27)).heap[w.heap.size]? = some (.cells (pkC h x) 27 (0, 0))) := heap_alloc_new w _
  have L0 : Hid (Below w.heap.size w (w.alloc (.cells (pkC h x) 27))) := (Below.refl _ _).alloc (Nat.le_refl _) _
  clear I hm hl hb hv
  go_enter Try.func5, Try.ntmps5
  go_wp2_with fail
  generalize w.alloc (.cells (pkC h x) 27) = w0 at *
  go_quiet (fail)
  have W1 : Hid (Below w.heap.size w (w0.drewN nq)) := L0.out.trans (below_drewN (Below.refl _ _) nq)
  have B1 : Hid ((w0.drewN nq).heap[w.heap.size]? = some (.cells (pkC h x) 27 (0, 0))) := B0.out
  generalize w0.drewN nq = w1 at *
  have LD := load_pk B1.out
  go_wp2_with fail
  refine (pput_ok _ h x II.out.hw HM.out).mono ?_; rintro e w2 ⟨vx, rfl, ox, l2⟩
  have L2 := Lib.hid l2
  obtain ⟨px, cx, rfl, -⟩ := own_holds ox
  have OX := Lib.hid ox
  have LD2 := load_pk ((l2.block _ (Array.getElem?_eq_some_iff.1 B1.out).1).trans B1.out)
  clear l2 ox LD
  go_wp2_with fail
  refine (pmay_any _ h x).mono ?_; rintro e w3 ⟨rfl, l3⟩
  have L3 := Lib.hid l3.b
  clear l3 LD2
  rw [MD.out]
  have L13 : Hid (Below w1.heap.size w1 w3) := L2.out.trans (L3.out.mono L2.out.size)
  have W3 : Hid (Below w.heap.size w w3) := W1.out.trans (L13.out.mono W1.out.size)
  have O3 : Hid (w3.ownsRow w1.heap.size 5 1 (.slice px 48 cx) 48 (valsN .u8 (bytesH h))) := own_keep OX.out L3.out
  have HB3 : Hid (Holds w3 p1 m1 c1 (valsN .u8 bh)) := II.out.k1 _ W3.out
  go_wp2_with (at_builtin; refine append_more rfl _ _ 28 rfl w1.heap.size 5 i0 (.int .u8 0) 1 Try.underlying28 hi hz0 hz1 hz2 rfl _ 48 _ rfl O3.out p1 m1 c1 (valsN .u8 bh) rfl HB3.out (valsN_one _ _) BM.out BY.out L13.out.size ?_)
  intro v4 w4 o4 g4 _
  rw [ED.out] at o4
  have L14 : Hid (Below w1.heap.size w1 w4) := L13.out.grown g4 L13.out.size (fun j hj => (World.ownsRow.lt O3.out j hj).1)
  have W4 : Hid (Below w.heap.size w w4) := W1.out.trans (L14.out.mono W1.out.size)
  obtain ⟨p4, c4, rfl, h4⟩ := own_holds o4
  have H4 := Lib.hid h4
  clear o4 g4 h4
  go_wp2_with fail
  refine (T1.out w4 p4 c4 H4.out).mono ?_; rintro e w5 ⟨pr, cr, rfl, nr, l5⟩
  have L5 := Lib.hid l5
  have W5 : Hid (Below w.heap.size w w5) := W4.out.trans (l5.mono W4.out.size)
  have LA : Hid (Below w5.heap.size w5 (w5.alloc (.cells (pkC h Xt.zero) 27))) := (Below.refl _ _).alloc (Nat.le_refl _) _
  have NR := Lib.hid (nr.holds.below LA.out)
  have LQ := load_pk (heap_alloc_new w5 (.cells (pkC h Xt.zero) 27))
  have LP : (loadP (.pointer (some ⟨w.heap.size, 0, none⟩))).run Try.prog (w5.alloc (.cells (pkC h Xt.zero) 27)) = .ok (pkV h x) (w5.alloc (.cells (pkC h Xt.zero) 27)) := by
    have s5 : w.heap.size < w1.heap.size := (Array.getElem?_eq_some_iff.1 B1.out).1
    have s6 := L14.out.size
    have s7 := L5.out.size
    exact load_pk ((LA.out.block _ (by omega)).trans ((L5.out.block _ (by omega)).trans ((L14.out.block _ s5).trans B1.out)))
  have W6 : Hid (Below w.heap.size w (w5.alloc (.cells (pkC h Xt.zero) 27))) := W5.out.trans (LA.out.mono W5.out.size)
  clear nr l5
  go_wp2_with fail
  generalize w5.alloc (.cells (pkC h Xt.zero) 27) = w6 at *
  refine (psame_any _ h h x Xt.zero).mono ?_; rintro e w7 ⟨rfl, l7⟩
  rw [decide_eq_true (rfl : h = h)]
  have W7 : Hid (Below w.heap.size w w7) := W6.out.trans (l7.mono W6.out.size)
  have SR := str_held (NR.out.below l7)
  have SB := str_held (II.out.k1 _ W7.out)
  have NE := neq_str w7 II.out.y1 II.out.y1
  rw [decide_eq_true (rfl : bh = bh), Bool.not_true] at NE
  clear l7 LQ LP
  go_wp2_with fail
  have LN2 : Hid (m2 = ds.length) := II.out.l2.symm
  have HD7 : Hid (Holds w7 p2 ds.length c2 (valsN .u8 ds)) := by unfold Hid; rw [← LN2.out]; exact II.out.k2 _ W7.out
  have EC : ∀ Q, Calls Try.prog 15 #[.slice p2 ds.length c2] w7 Q → Calls Try.prog 15 #[.slice p2 m2 c2] w7 Q := fun Q q => by rw [LN2.out]; exact q
  refine EC _ ((T2.out.prog w7 p2 c2 HD7.out).mono ?_); rintro e w8 ⟨pz, cz, rfl, nz, l8⟩
  clear EC
  have W8 : Hid (Below w.heap.size w w8) := W7.out.trans (l8.mono W7.out.size)
  have W9 : Hid (Below w.heap.size w (w8.alloc (.cells (pkC Hd.zero Xt.zero) 27))) := W8.out.alloc W8.out.size _
  have LZ := load_pk (heap_alloc_new w8 (.cells (pkC Hd.zero Xt.zero) 27))
  clear l8 nz
  go_wp2_with fail
  generalize w8.alloc (.cells (pkC Hd.zero Xt.zero) 27) = w9 at *
  refine (psame_any _ Hd.zero Hd.zero Xt.zero Xt.zero).mono ?_; rintro e w10 ⟨rfl, l10⟩
  rw [decide_eq_true (rfl : Hd.zero = Hd.zero)]
  have W10 : Hid (Below w.heap.size w w10) := W9.out.trans (l10.mono W9.out.size)
  clear l10 LZ
  go_wp2_with fail
  refine (alive4_any _).mono ?_; rintro e w11 ⟨rfl, l11⟩
  have FIN : Hid (Below w.heap.size w w11) := W10.out.trans (l11.mono W10.out.size)
  clear l11
  go_wp2
  go_ret
  exact ⟨rfl, FIN.out⟩
end Go.Proofs.Ytjjbalgonkphjaa
