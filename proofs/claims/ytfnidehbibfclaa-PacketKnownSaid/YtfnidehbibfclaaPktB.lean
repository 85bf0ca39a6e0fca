/- Layer 7 (packet): the document's own Body, Put. -/
import Derived.Test.YtfnidehbibfclaaPktA
import Derived.Test.YtfnidehbibfclaaGG
import Derived.Test.YtfnidehbibfclaaGB
set_option maxRecDepth 100000
namespace Go.Proofs.Ytfnidehbibfclaa
open Go.ChangeShapes Go.WideShapes Go.ChangeAt Go.RowKit OctM

theorem rowR_own {w w' : World} {v : Value} {n : Nat} {D : List Nat} (hn : n = D.length) (o : w'.ownsRow w.heap.size 5 1 v n (valsN .u8 D)) (l : Below w.heap.size w w') : RowR w D 0 (.returned (.tuple #[v, .int .i64 0])) w' := by
  subst hn
  obtain ⟨p, c, rfl, nw⟩ := own_new o
  exact ⟨p, c, rfl, nw, l⟩
theorem rowR_err {w w' : World} {E : Int} (l : Below w.heap.size w w') : RowR w [] E (.returned (.tuple #[.slice none 0 0, .int .i64 E])) w' := ⟨none, 0, rfl, New.nil _ _, l⟩
theorem Pk.wf {w : World} {h : Hd} {x : Xt} {fs : List Fld} {k : Pak} (I : Pk w h x fs k) : h.wf := by have := I.ok.wf; rw [I.e] at this; exact this
theorem Pk.l {w : World} {h : Hd} {x : Xt} {fs : List Fld} {k : Pak} (I : Pk w h x fs k) : k.l = says fs := by rw [I.e]
theorem Pk.h {w : World} {h : Hd} {x : Xt} {fs : List Fld} {k : Pak} (I : Pk w h x fs k) : k.h = h := by rw [I.e]

attribute [local go_sem ↓] loadP_eq storeP_eq boxP_eq allocP_eq

set_option maxHeartbeats 4000000 in
theorem rbody7_ok (w : World) (h : Hd) (x : Xt) (fs : List Fld) (k : Pak) (I : Pk w h x fs k) (mh : mayH k.h) (mx : mayX k.l) :
    Calls Try.prog 32 #[pkV h x] w (OwnPost w (bodyP k).length (bodyP k)) := by
  obtain ⟨i0, hi, hz0, hz1, hz2⟩ := info_of info8
  have bx := box_pk h x
  have B0 : Hid ((w.alloc (.cells (pkC h x) 27)).heap[w.heap.size]? = some (.cells (pkC h x) 27 (0, 0))) := heap_alloc_new w _
  have LD := load_pk B0.out
  have L0 : Hid (Below w.heap.size w (w.alloc (.cells (pkC h x) 27))) := (Below.refl _ _).alloc (Nat.le_refl _) _
  rw [I.h] at mh
  rw [I.l] at mx
  have RX := Lib.hid (fun w' (b : Below w.heap.size w w') => rput5_ok w' x.p x.n x.c fs (I.hx.below b) I.flds mx)
  have RH := Lib.hid (fun w => rput4_ok w h x I.wf mh)
  obtain ⟨D, hD⟩ : ∃ D, bytesX (says fs) = D := ⟨_, rfl⟩
  obtain ⟨F, hF⟩ : ∃ F, bytesH h = F := ⟨_, rfl⟩
  have DL : D.length ≤ 3744 := by rw [← hD]; exact fields_le mx
  have FL : F.length = 48 := by rw [← hF]; exact bytesH_len h
  have EB : bodyP k = F ++ D := by unfold bodyP; rw [I.h, I.l, hD, hF]
  rw [hD] at RX
  rw [hF] at RH
  have FIN : Hid (∀ (v : Value) (w' : World), w'.ownsRow w.heap.size 5 1 v (48 + D.length) (valsN .u8 F ++ valsN .u8 D) → Below w.heap.size w w' → OwnPost w (bodyP k).length (bodyP k) (.returned v) w') := fun v w' o l => ⟨v, rfl, by
    rw [EB, List.length_append, FL, valsN_append]
    exact o, l⟩
  have BM : Hid (48 + D.length ≤ maxLen) := by unfold Hid maxLen; omega
  have BY : Hid ((48 + D.length) * 1 ≤ 140737488355328) := by unfold Hid; omega
  clear EB hD hF mh mx I FL DL
  go_enter Try.func32, Try.ntmps32
  go_wp2_with fail
  refine (RH.out _).mono ?_; rintro e w1 ⟨v1, rfl, o1, l1⟩
  have B1 := Lib.hid (pk_keep B0.out l1)
  have L1 : Hid (Below w.heap.size w w1) := L0.out.trans (l1.mono L0.out.size)
  have O1 := Lib.hid (own_base o1 L0.out.size)
  obtain ⟨c13, -⟩ := pk_at B1.out
  have RX1 := Lib.hid (RX.out _ L1.out)
  clear o1 l1 LD RX RH
  go_wp2_with fail
  refine RX1.out.mono ?_; rintro e w2 ⟨v2, rfl, o2, l2⟩
  obtain ⟨p2, c2, rfl, nw⟩ := own_new o2
  have H2 := Lib.hid nw.holds
  have L2 : Hid (Below w.heap.size w w2) := L1.out.trans (l2.mono L1.out.size)
  have O2 := Lib.hid (own_keep O1.out l2)
  clear o2 l2 nw RX1 c13
  go_wp2_with (at_builtin; refine append_more rfl _ _ 31 rfl w.heap.size 5 i0 (.int .u8 0) 1 Try.underlying31 hi hz0 hz1 hz2 rfl _ 48 _ rfl O2.out p2 D.length c2 (valsN .u8 D) rfl H2.out (valsN_one _ _) BM.out BY.out L2.out.size ?_)
  intro v3 w3 o3 g3 _
  have F3 := Lib.hid (FIN.out v3 w3 o3 (L2.out.grown g3 L2.out.size (fun j hj => (World.ownsRow.lt O2.out j hj).1)))
  clear o3 g3
  go_wp2
  go_ret
  exact F3.out

set_option maxHeartbeats 16000000 in
theorem rput7_may (w : World) (h : Hd) (x : Xt) (fs : List Fld) (k : Pak) (I : Pk w h x fs k) (m : mayP k) :
    Calls Try.prog 11 #[pkV h x] w (RowR w (putD7 k) (putE7 k)) := by
  obtain ⟨i0, hi, hz0, hz1, hz2⟩ := info_of info8
  have bx := box_pk h x
  have B0 : Hid ((w.alloc (.cells (pkC h x) 27)).heap[w.heap.size]? = some (.cells (pkC h x) 27 (0, 0))) := heap_alloc_new w _
  have LD := load_pk B0.out
  have L0 : Hid (Below w.heap.size w (w.alloc (.cells (pkC h x) 27))) := (Below.refl _ _).alloc (Nat.le_refl _) _
  have RM := rmay7_any (w.alloc (.cells (pkC h x) 27)) h x fs k (I.below L0.out)
  rw [decide_eq_true m] at RM
  replace RM := Lib.hid RM
  have RB := Lib.hid (fun w' (b : Below w.heap.size w w') => rbody7_ok w' h x fs k (I.below b) m.1 m.2.1)
  have BL : (bodyP k).length ≤ 3792 := by rw [body_len]; have := fields_le m.2.1; omega
  have esg : k.sg = x.sg := by rw [I.e]
  have kyb : x.ky < 4294967296 := by have := I.ok.ky; rw [I.e] at this; exact this
  have tgb : x.tg < 18446744073709551616 := by have := I.ok.tg; rw [I.e] at this; exact this
  have es : sealP k = if x.sg = true then digN x.ky 4 ++ digN x.tg 8 else [] := by unfold sealP; rw [I.e]
  have LT : Hid ((bytesP k).length ≤ 512 → ∀ (v : Value) (n : Nat) (w' : World), n = (bytesP k).length → w'.ownsRow w.heap.size 5 1 v n (valsN .u8 (bytesP k)) → Below w.heap.size w w' → RowR w (putD7 k) (putE7 k) (.returned (.tuple #[v, .int .i64 0])) w') := fun g v n w' hn o l => by
    rw [putD_ok (putE_ok m g), putE_ok m g]
    exact rowR_own hn o l
  have GT : Hid (¬ (bytesP k).length ≤ 512 → ∀ (w' : World), Below w.heap.size w w' → RowR w (putD7 k) (putE7 k) (.returned (.tuple #[.slice none 0 0, .int .i64 3])) w') := fun g w' l => by
    rw [putD_bad (by rw [putE_long m g]; decide), putE_long m g]
    exact rowR_err l
  have EB : Hid (bytesP k = bodyP k ++ sealP k) := rfl
  generalize bytesP k = P at *
  generalize sealP k = S at *
  generalize bodyP k = D at *
  generalize putD7 k = PD at *
  generalize putE7 k = PE at *
  clear I m esg
  go_enter Try.func11, Try.ntmps11
  go_wp2_with fail
  refine RM.out.mono ?_; rintro e w1 ⟨rfl, l1⟩
  have B1 := Lib.hid (pk_keep B0.out l1)
  have L1 : Hid (Below w.heap.size w w1) := L0.out.trans (l1.mono L0.out.size)
  have LD1 := load_pk B1.out
  have RB1 := Lib.hid (RB.out _ L1.out)
  clear l1 LD RM RB
  go_wp2_with fail
  refine RB1.out.mono ?_; rintro e w2 ⟨v2, rfl, o2, l2⟩
  have B2 := Lib.hid (pk_keep B1.out l2)
  have L2 : Hid (Below w.heap.size w w2) := L1.out.trans (l2.mono L1.out.size)
  have O2 := Lib.hid (own_base o2 L1.out.size)
  obtain ⟨-, c14, c15, c16⟩ := pk_at B2.out
  clear o2 l2 LD1 RB1 B1
  obtain ⟨p, n, c, sg, ky, tg⟩ := x
  simp only at c14 c15 c16 es kyb tgb
  cases sg
  · have eP : P = D := by rw [EB.out, es]; simp
    subst eP
    have O2' := O2.out
    obtain ⟨pv, cv, rfl, -⟩ := own_new O2'
    by_cases g : P.length ≤ 512
    · have gi : (P.length : Int) ≤ 512 := by omega
      have F := Lib.hid (LT.out g _ _ w2 rfl O2.out L2.out)
      clear g O2' LT GT es BL EB
      go_wp2
      go_ret2
      exact F.out
    · have gi : 512 < (P.length : Int) := by omega
      have F := Lib.hid (GT.out g w2 L2.out)
      clear g O2' LT GT es BL EB
      go_wp2
      go_ret2
      exact F.out
  · have eP : P = D ++ (digN ky 4 ++ digN tg 8) := by rw [EB.out, es]; simp
    have kyi : (ky : Int) < 4294967296 := by omega
    have D4 := Lib.hid (rdigits_any w2 ky 4 (by omega) (by omega) (by omega))
    have D8 := Lib.hid (fun w' => rdigits_any w' tg 8 tgb (by omega) (by omega))
    have PL : P.length = D.length + 4 + 8 := by rw [eP]; simp [digN_len, Nat.add_assoc]
    have EPV : Hid (valsN .u8 P = valsN .u8 D ++ (valsN .u8 (digN ky 4) ++ valsN .u8 (digN tg 8))) := by unfold Hid; rw [eP, valsN_append, valsN_append]
    have BM : Hid (D.length + 4 ≤ maxLen) := by unfold Hid maxLen; omega
    have BY : Hid ((D.length + 4) * 1 ≤ 140737488355328) := by unfold Hid; omega
    have BM' : Hid (D.length + 4 + 8 ≤ maxLen) := by unfold Hid maxLen; omega
    have BY' : Hid ((D.length + 4 + 8) * 1 ≤ 140737488355328) := by unfold Hid; omega
    have PLh := Lib.hid PL
    clear eP es EB kyb tgb BL PL
    go_wp2_with fail
    refine D4.out.mono ?_; rintro e w3 ⟨cs4, rfl, hb4, hc4, l3⟩
    have O4 : Hid (w3.ownsRow w.heap.size 5 1 (.slice (some ⟨w2.heap.size, 0, none⟩) 4 4) 4 (valsN .u8 (digN ky 4))) := by
      have := own_of_blk (n := 4) (B := w.heap.size) hb4 (by have := congrArg List.length hc4; simpa [valsN_len, digN_len] using this) (by decide) L2.out.size
      rwa [hc4] at this
    have B3 := Lib.hid (pk_keep B2.out l3)
    have L3 : Hid (Below w.heap.size w w3) := L2.out.trans (l3.mono L2.out.size)
    have S3 : Hid (w2.heap.size ≤ w3.heap.size) := l3.size
    have O3 := Lib.hid (own_keep O2.out l3)
    obtain ⟨-, -, -, c16'⟩ := pk_at B3.out
    simp only at c16'
    have D8' := Lib.hid (D8.out w3)
    clear hb4 hc4 l3 D4 D8 c14 c15 c16
    go_wp2_with fail
    refine D8'.out.mono ?_; rintro e w4 ⟨cs8, rfl, hb8, hc8, l4⟩
    have O8 : Hid (w4.ownsRow w.heap.size 5 1 (.slice (some ⟨w3.heap.size, 0, none⟩) 8 8) 8 (valsN .u8 (digN tg 8))) := by
      have := own_of_blk (n := 8) (B := w.heap.size) hb8 (by have := congrArg List.length hc8; simpa [valsN_len, digN_len] using this) (by decide) L3.out.size
      rwa [hc8] at this
    have L4 : Hid (Below w.heap.size w w4) := L3.out.trans (l4.mono L3.out.size)
    have OD := Lib.hid (own_keep O3.out l4)
    have OK4 := own_keep O4.out l4
    have H4 : Hid (Holds w4 (some ⟨w2.heap.size, 0, none⟩) 4 4 (valsN .u8 (digN ky 4))) := by
      obtain ⟨p', c', e', hh⟩ := own_holds OK4
      cases e'
      exact hh
    have AP : Hid (Apart v2 (.slice (some ⟨w3.heap.size, 0, none⟩) 8 8)) := .inr (by
      intro e
      have a := (World.ownsRow.lt O2.out w3.heap.size e.symm).2
      have := S3.out
      omega)
    clear hb8 hc8 l4 c16' D8' OK4 O4
    go_wp2_with (at_builtin; refine append_more rfl _ _ 31 rfl w.heap.size 5 i0 (.int .u8 0) 1 Try.underlying31 hi hz0 hz1 hz2 rfl _ D.length _ rfl OD.out (some ⟨w2.heap.size, 0, none⟩) 4 4 (valsN .u8 (digN ky 4)) rfl H4.out (valsN_one _ _) BM.out BY.out L4.out.size ?_)
    intro v5 w5 o5 g5 m5
    obtain ⟨k8, -⟩ := apart_kept O8.out AP.out g5 m5
    have O5 := Lib.hid o5
    have L5 : Hid (Below w.heap.size w w5) := L4.out.grown g5 L4.out.size (fun j hj => (World.ownsRow.lt OD.out j hj).1)
    have H8 : Hid (Holds w5 (some ⟨w3.heap.size, 0, none⟩) 8 8 (valsN .u8 (digN tg 8))) := by
      obtain ⟨p', c', e', hh⟩ := own_holds k8
      cases e'
      exact hh
    clear o5 g5 m5 k8 OD H4 AP
    go_wp2_with (at_builtin; refine append_more rfl _ _ 31 rfl w.heap.size 5 i0 (.int .u8 0) 1 Try.underlying31 hi hz0 hz1 hz2 rfl _ (D.length + 4) _ rfl O5.out (some ⟨w3.heap.size, 0, none⟩) 8 8 (valsN .u8 (digN tg 8)) rfl H8.out (valsN_one _ _) BM'.out BY'.out L5.out.size ?_)
    intro v6 w6 o6 g6 _
    rw [← EPV.out, ← PLh.out] at o6
    have L6 : Hid (Below w.heap.size w w6) := L5.out.grown g6 L5.out.size (fun j hj => (World.ownsRow.lt O5.out j hj).1)
    have O6 := Lib.hid o6
    obtain ⟨pv, cv, rfl, -⟩ := own_new o6
    clear o6 g6 O5 H8 kyi
    by_cases g : P.length ≤ 512
    · have gi : (P.length : Int) ≤ 512 := by omega
      have F := Lib.hid (LT.out g _ _ w6 rfl O6.out L6.out)
      clear g LT GT
      go_wp2
      go_ret2
      exact F.out
    · have gi : 512 < (P.length : Int) := by omega
      have F := Lib.hid (GT.out g w6 L6.out)
      clear g LT GT
      go_wp2
      go_ret2
      exact F.out

theorem rput7_any (w : World) (h : Hd) (x : Xt) (fs : List Fld) (k : Pak) (I : Pk w h x fs k) :
    Calls Try.prog 11 #[pkV h x] w (RowR w (putD7 k) (putE7 k)) := by
  by_cases m : mayP k
  · exact rput7_may w h x fs k I m
  · rw [putD_bad (by rw [putE_arg m]; decide), putE_arg m]
    have bx := box_pk h x
    have B0 : Hid ((w.alloc (.cells (pkC h x) 27)).heap[w.heap.size]? = some (.cells (pkC h x) 27 (0, 0))) := heap_alloc_new w _
    have LD := load_pk B0.out
    have L0 : Hid (Below w.heap.size w (w.alloc (.cells (pkC h x) 27))) := (Below.refl _ _).alloc (Nat.le_refl _) _
    have RM := rmay7_any (w.alloc (.cells (pkC h x) 27)) h x fs k (I.below L0.out)
    rw [decide_eq_false m] at RM
    replace RM := Lib.hid RM
    clear I m
    go_enter Try.func11, Try.ntmps11
    go_wp2_with fail
    refine RM.out.mono ?_; rintro e w1 ⟨rfl, l1⟩
    have F : Hid (RowR w [] ((1 : Nat) : Int) (.returned (.tuple #[.slice none 0 0, .int .i64 1])) w1) := rowR_err (L0.out.trans (l1.mono L0.out.size))
    clear l1
    go_wp2
    go_ret2
    exact F.out
end Go.Proofs.Ytfnidehbibfclaa
