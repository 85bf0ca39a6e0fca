/- The walk of HeadForm, way 4: its head may be put: no; the bytes: short. (Written by wip/tools/genheadform.py.) -/
import Derived.Test.YtjjbalgonkphjaaHeadFormA
namespace Go.Proofs.Ytjjbalgonkphjaa
open Go.ChangeShapes Go.WideShapes Go.ChangeAt Go.RowKit OctM

attribute [local go_sem ↓] loadP_eq storeP_eq boxP_eq allocP_eq zeroP_eq zeroP_eq' strB_eq eqlS_eq neqS_eq addS_eq
set_option maxRecDepth 100000 in
set_option maxHeartbeats 16000000 in
theorem form_no_short (w : World) (h : Hd) (x : Xt) (p1 p2 : Option Addr) (n1 c1 m1 n2 c2 m2 : Nat) (bh ds : List Nat) (I : FormIn w h p1 p2 n1 c1 m1 n2 c2 m2 bh ds) (hm : ¬ mayH h) (hb : m2 < 48) :
    Calls Try.prog 5 #[pkV h x, .slice p1 n1 c1, .slice p2 n2 c2] w fun e w' => e = .returned (.bool true) ∧ Below w.heap.size w w' := by
  obtain ⟨i0, hi, hz0, hz1, hz2⟩ := info_of info8
  have bx := box_pk h x
  have sn := fun w h x => store_new w (pkC Hd.zero Xt.zero) h x rfl
  have al := alloc_pk
  have zr := zero_pk
  have II := Lib.hid I
  have HM := Lib.hid hm
  have e1 := I.e1
  have e2 := I.e2
  have i1 : (if (100 : Int) < (n1 : Int) then (100 : Int) else (n1 : Int)) = (m1 : Int) := by split <;> omega
  have i2 : (if (100 : Int) < (n2 : Int) then (100 : Int) else (n2 : Int)) = (m2 : Int) := by split <;> omega
  have q1 := I.q1
  have q2 := I.q2
  have b1 : (m1 : Int) ≤ 100 := by have := I.b1; omega
  have b2 : (m2 : Int) ≤ 100 := by have := I.b2; omega
  have hl := I.l2
  obtain rfl : m2 = n2 := by omega
  have T2 : Hid (Told ds Hd.zero 0 [] 4) := told_short (by omega)
  have s48 : (m2 : Int) < 48 := by omega
  have d48 : decide ((m2 : Int) < 48) = true := by simp; omega
  have MD : Hid (decide (mayH h) = false) := decide_eq_false hm
  have B0 : Hid ((w.alloc (.cells (pkC h x) 27)).heap[w.heap.size]? = some (.cells (pkC h x) 27 (0, 0))) := heap_alloc_new w _
  have L0 : Hid (Below w.heap.size w (w.alloc (.cells (pkC h x) 27))) := (Below.refl _ _).alloc (Nat.le_refl _) _
  clear I hm hl hb
  go_enter Try.func5, Try.ntmps5
  go_wp2_with fail
  generalize w.alloc (.cells (pkC h x) 27) = w0 at *
  go_quiet (fail)
  have W1 : Hid (Below w.heap.size w (w0.drewN nq)) := L0.out.trans (below_drewN (Below.refl _ _) nq)
  have B1 : Hid ((w0.drewN nq).heap[w.heap.size]? = some (.cells (pkC h x) 27 (0, 0))) := B0.out
  generalize w0.drewN nq = w1 at *
  have LD := load_pk B1.out
  go_wp2_with fail
  refine (pput_no _ h x HM.out).mono ?_; rintro e w2 ⟨rfl, l2⟩
  have L2 := Lib.hid l2
  have LD2 := load_pk ((l2.block _ (Array.getElem?_eq_some_iff.1 B1.out).1).trans B1.out)
  clear l2 LD
  go_wp2_with fail
  refine (pmay_any _ h x).mono ?_; rintro e w7 ⟨rfl, l3⟩
  rw [MD.out]
  have W7 : Hid (Below w.heap.size w w7) := W1.out.trans ((L2.out.trans (l3.b.mono L2.out.size)).mono W1.out.size)
  clear l3 LD2
  go_wp2_with fail
  have LN2 : Hid (m2 = ds.length) := II.out.l2.symm
  have HD7 : Hid (Holds w7 p2 ds.length c2 (valsN .u8 ds)) := by unfold Hid; rw [← LN2.out]; exact II.out.k2 _ W7.out
  have EC : ∀ Q, Calls Try.prog 15 #[.slice p2 ds.length c2] w7 Q → Calls Try.prog 15 #[.slice p2 m2 c2] w7 Q := fun Q q => by rw [LN2.out]; exact q
  refine EC _ ((T2.out.prog w7 p2 c2 HD7.out).mono ?_); rintro e w8 ⟨pz, cz, rfl, nz, l8⟩
  clear EC
  have W8 : Hid (Below w.heap.size w w8) := W7.out.trans (l8.mono W7.out.size)
  have W9 : Hid (Below w.heap.size w (w8.alloc (.cells (pkC Hd.zero Xt.zero) 27))) := W8.out.alloc W8.out.size _
  have LZ := load_pk (heap_alloc_new w8 (.cells (pkC Hd.zero Xt.zero) 27))
  clear l8 nz
  go_wp2_with fail
  generalize w8.alloc (.cells (pkC Hd.zero Xt.zero) 27) = w9 at *
  refine (psame_any _ Hd.zero Hd.zero Xt.zero Xt.zero).mono ?_; rintro e w10 ⟨rfl, l10⟩
  rw [decide_eq_true (rfl : Hd.zero = Hd.zero)]
  have W10 : Hid (Below w.heap.size w w10) := W9.out.trans (l10.mono W9.out.size)
  clear l10 LZ
  go_wp2_with fail
  refine (alive4_any _).mono ?_; rintro e w11 ⟨rfl, l11⟩
  have FIN : Hid (Below w.heap.size w w11) := W10.out.trans (l11.mono W10.out.size)
  clear l11
  go_wp2
  go_ret
  exact ⟨rfl, FIN.out⟩
end Go.Proofs.Ytjjbalgonkphjaa
