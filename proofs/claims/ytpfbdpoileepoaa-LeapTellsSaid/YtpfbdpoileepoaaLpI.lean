/- Layer 16 (leap), work ahead, the law's 'same': the program's table and the document's tell the same. -/
import Derived.Test.YtpfbdpoileepoaaLpF
import Derived.Test.YtpfbdpoileepoaaLpC
import Derived.Test.YtpfbdpoileepoaaSmQ
set_option maxRecDepth 100000
namespace Go.Proofs.Ytpfbdpoileepoaa
open Go.ChangeShapes Go.WideShapes Go.ChangeAt Go.RowKit SmM

theorem rem_tm (x : Int) : ∃ t, x.tmod 4611686018427387904 = t ∧ -4611686018427387904 < t ∧ t < 4611686018427387904 := by
  refine ⟨x.tmod 4611686018427387904, rfl, ?_⟩
  rw [Int.tmod_eq_emod]
  split <;> omega
theorem nextE_form (l : List Lp) (t : Int) : ∃ yt yk g, NextE l t = .returned (.tuple #[.agg #[.int .i64 yt, .int .i64 yk], .bool g]) := by
  unfold NextE
  cases nextI l t with
  | none => exact ⟨0, 0, false, rfl⟩
  | some y => exact ⟨y.t, y.k, true, rfl⟩
set_option maxHeartbeats 8000000 in
theorem same16 (C : LCode) {w : World} {F : Nat → Prop} {N M : Nat} {p : Option Addr} {n c : Nat} {l : List Lp} {e b : Int} (ht : C.Tb w F N l e b) (hr : RfP w M p n c l e b) (x y : Int) :
    Calls Try.prog 13 #[.pointer (some ⟨N, 0, none⟩), .pointer (some ⟨M, 0, none⟩), .int .i64 x, .int .i64 y] w fun r w' => r = .returned (.bool true) ∧ Below w.heap.size w w' := by
  obtain ⟨t, hxt, t0, t1⟩ := rem_tm x
  obtain ⟨u, hyu, u0, u1⟩ := rem_tm y
  have T := Lib.hid ht
  have R := Lib.hid hr
  have TF : Hid (TmI t) := by unfold Hid TmI; omega
  have UF : Hid (-4611700000000000000 ≤ u ∧ u ≤ 4611700000000000000) := by unfold Hid; omega
  obtain ⟨e1, e2⟩ := wr16 (x := t) (by unfold I64; omega)
  obtain ⟨e3, e4⟩ := wr16 (x := u) (by unfold I64; omega)
  obtain ⟨yt, yk, g, hN⟩ := nextE_form l t
  have HN := Lib.hid hN
  have LA := Lib.hid (fun w' (k : Below w.heap.size w w') => C.label t (C.below T.out k) TF.out)
  have OF := Lib.hid (fun w' (k : Below w.heap.size w w') => C.offset t (C.below T.out k) TF.out)
  have NX := Lib.hid (fun w' (k : Below w.heap.size w w') => C.next t (C.below T.out k) TF.out)
  have BT := Lib.hid (fun w' (k : Below w.heap.size w w') => C.bits t (C.below T.out k) TF.out)
  have EV := Lib.hid (fun w' (k : Below w.heap.size w w') i => C.even u i (C.below T.out k) UF.out)
  have LA2 := Lib.hid (fun w' (k : Below w.heap.size w w') => rlab16 (R.out.below k) t TF.out)
  have OF2 := Lib.hid (fun w' (k : Below w.heap.size w w') => roff16 (R.out.below k) t)
  have NX2 := Lib.hid (fun w' (k : Below w.heap.size w w') => rnext16 (R.out.below k) t)
  have BT2 := Lib.hid (fun w' (k : Below w.heap.size w w') => rbits16 (R.out.below k) t)
  have EV2 := Lib.hid (fun w' (k : Below w.heap.size w w') i => reven16 (R.out.below k) u UF.out i)
  generalize labI l b t = la at *
  generalize insB l t = li at *
  generalize offI l b t = lo at *
  generalize bitsI l e t = lb at *
  have NQ := fun w => neq_lp w yt yk
  have gg : (g != g) = false := by cases g <;> rfl
  have ii : (li != li) = false := by cases li <;> rfl
  have K0 : Below w.heap.size w w := Below.refl _ _
  clear ht hr t0 t1 u0 u1 hN
  go_enter Try.func13, Try.ntmps13
  go_wp2_with fail
  clear hxt hyu e1 e2 e3 e4
  refine (LA.out _ K0).mono ?_; rintro r1 w1 ⟨rfl, b1⟩
  have k1 := K0.trans (b1.mono K0.size)
  go_wp2_with fail
  refine (LA2.out _ k1).mono ?_; rintro r2 w2 ⟨rfl, hw⟩
  obtain rfl := hw.symm
  go_wp2_with fail
  refine (NX.out _ k1).mono ?_; rintro r3 w3 ⟨rfl, b3⟩
  rw [HN.out]
  have k3 := k1.trans (b3.mono k1.size)
  have B1 := heap_alloc_new w3 (.cells #[.int .i64 yt, .int .i64 yk] 33)
  have k4 := k3.alloc k3.size (.cells #[.int .i64 yt, .int .i64 yk] 33)
  have l4 := (Array.getElem?_eq_some_iff.1 B1).1
  clear b1 k1 b3 K0 LA LA2 NX
  go_wp2_with fail
  refine (NX2.out _ k4).mono ?_; rintro r5 w5 ⟨rfl, b5⟩
  rw [HN.out]
  have k5 := k4.trans (b5.mono k4.size)
  have B1' := (b5.block _ l4).trans B1
  have l5 := (Array.getElem?_eq_some_iff.1 B1').1
  have B2 := heap_alloc_new w5 (.cells #[.int .i64 yt, .int .i64 yk] 33)
  have a5 : Below w5.heap.size w5 (w5.alloc (.cells #[.int .i64 yt, .int .i64 yk] 33)) := (Below.refl _ _).alloc (Nat.le_refl _) _
  have B1'' := (a5.block _ l5).trans B1'
  have k6 := k5.trans (a5.mono k5.size)
  have l6 := (Array.getElem?_eq_some_iff.1 B2).1
  have l6' := (Array.getElem?_eq_some_iff.1 B1'').1
  have BB := Lib.hid (And.intro B1'' B2)
  have LL := Lib.hid (And.intro l6' l6)
  clear b5 k4 k3 B1 l4 B1' l5 B2 a5 B1'' k5 l6 l6' NX2 HN
  go_wp2_with fail
  refine (OF.out _ k6).mono ?_; rintro r7 w7 ⟨rfl, b7⟩
  have k7 := k6.trans (b7.mono k6.size)
  have c1 := (b7.block _ LL.out.1).trans BB.out.1
  have c2 := (b7.block _ LL.out.2).trans BB.out.2
  have d1 := blk_cell (o := 0) c1
  have d2 := blk_cell (o := 1) c1
  have d3 := blk_cell (o := 0) c2
  have d4 := blk_cell (o := 1) c2
  simp only [List.getElem?_toArray, List.getElem?_cons_zero, List.getElem?_cons_succ] at d1 d2 d3 d4
  clear b7 k6 BB LL c1 c2 OF
  go_wp2_with fail
  refine (OF2.out _ k7).mono ?_; rintro r8 w8 ⟨rfl, hw⟩
  obtain rfl := hw.symm
  go_wp2_with fail
  refine (BT.out _ k7).mono ?_; rintro r9 w9 ⟨rfl, b9⟩
  have k9 := k7.trans (b9.mono k7.size)
  clear b9 k7 d1 d2 d3 d4 OF2 BT
  go_wp2_with fail
  refine (BT2.out _ k9).mono ?_; rintro r10 w10 ⟨rfl, b10⟩
  have k10 := Lib.hid (k9.trans (b10.mono k9.size))
  clear b10 k9 BT2
  go_wp2_with fail
  go_loopw [17] (fun jj wr => ∃ i : Nat, jj = .int .i64 (i : Nat) ∧ Hid (i ≤ 2) ∧ Hid (Below w.heap.size w wr)) (fun jj _ => 10 - (intOf jj).toNat)
  case atStart => exact ⟨0, rfl, show 0 ≤ 2 by decide, k10⟩
  case round =>
    clear k10
    obtain ⟨i, rfl, I, L⟩ := hrel
    have cs : i = 0 ∨ i = 1 ∨ i = 2 := by have := I.out; omega
    rcases cs with rfl | rfl | rfl
    · go_wp2_with fail
      refine (EV.out _ L.out false).mono ?_; rintro r11 w11 ⟨⟨s1, c1, rfl, v1⟩, b11⟩
      have k11 := L.out.trans (b11.mono L.out.size)
      go_wp2_with fail
      refine (EV2.out _ k11 false).mono ?_; rintro r12 w12 ⟨⟨s2, c2, rfl, v2⟩, hw⟩
      obtain rfl := hw.symm
      obtain ⟨rfl, rfl⟩ := even_one v1 v2
      have cc : (c1 != c1) = false := by cases c1 <;> rfl
      have K11 := Lib.hid k11
      clear b11 k11 v1 v2 I L
      go_wp2_with fail
      go_roundw
      case rel => exact ⟨1, rfl, show 1 ≤ 2 by decide, K11⟩
      case measure => decide
    · go_wp2_with fail
      refine (EV.out _ L.out true).mono ?_; rintro r11 w11 ⟨⟨s1, c1, rfl, v1⟩, b11⟩
      have k11 := L.out.trans (b11.mono L.out.size)
      go_wp2_with fail
      refine (EV2.out _ k11 true).mono ?_; rintro r12 w12 ⟨⟨s2, c2, rfl, v2⟩, hw⟩
      obtain rfl := hw.symm
      obtain ⟨rfl, rfl⟩ := even_one v1 v2
      have cc : (c1 != c1) = false := by cases c1 <;> rfl
      have K11 := Lib.hid k11
      clear b11 k11 v1 v2 I L
      go_wp2_with fail
      go_roundw
      case rel => exact ⟨2, rfl, show 2 ≤ 2 by decide, K11⟩
      case measure => decide
    · go_wp2
      go_ret
      exact ⟨rfl, L.out⟩
end Go.Proofs.Ytpfbdpoileepoaa
