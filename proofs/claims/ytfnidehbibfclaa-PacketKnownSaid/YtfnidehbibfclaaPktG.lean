/- Layer 7 (packet): the program's Same, seal, Put. -/
import Derived.Test.YtfnidehbibfclaaPktF
import Derived.Test.YtfnidehbibfclaaConcat
import Derived.Test.YtfnidehbibfclaaGE
import Derived.Test.YtfnidehbibfclaaGG
import Derived.Test.YtfnidehbibfclaaGC
import Derived.Test.YtfnidehbibfclaaGK
set_option maxRecDepth 100000
namespace Go.Proofs.Ytfnidehbibfclaa
open Go.ChangeShapes Go.WideShapes Go.ChangeAt Go.RowKit OctM

attribute [local go_sem ↓] loadP_eq storeP_eq boxP_eq allocP_eq

set_option maxHeartbeats 4000000 in
theorem psame7_any (w : World) (h g : Hd) (x y : Xt) (fs gs : List Fld) (k j : Pak) (I : Pk w h x fs k) (J : Pk w g y gs j) :
    Calls Try.prog 19 #[pkV h x, pkV g y] w fun e w' => e = .returned (.bool (decide (sameP k j))) ∧ Below w.heap.size w w' := by
  have bx := box_pk h x
  have by' := box_pk g y
  have B1 : Hid (((w.alloc (.cells (pkC h x) 27)).alloc (.cells (pkC g y) 27)).heap[w.heap.size]? = some (.cells (pkC h x) 27 (0, 0))) := heap_alloc2_old w _ _
  have B2 : Hid (((w.alloc (.cells (pkC h x) 27)).alloc (.cells (pkC g y) 27)).heap[w.heap.size + 1]? = some (.cells (pkC g y) 27 (0, 0))) := heap_alloc2_new w _ _
  have L0 : Hid (Below w.heap.size w ((w.alloc (.cells (pkC h x) 27)).alloc (.cells (pkC g y) 27))) := ((Below.refl _ _).alloc (Nat.le_refl _) _).alloc (by simp) _
  have LD := load_pk B1.out
  have LE := load_pk B2.out
  have RX := Lib.hid (fun w' (b : Below w.heap.size w w') => psame5_any w' x.p y.p x.n x.c y.n y.c fs gs (I.hx.below b) (J.hx.below b) I.flds J.flds)
  obtain ⟨mh, hmh⟩ : ∃ b, decide (h = g) = b := ⟨_, rfl⟩
  obtain ⟨mx, hmx⟩ : ∃ b, decide (says fs = says gs) = b := ⟨_, rfl⟩
  have RH : Hid (∀ w, Calls Try.prog 44 #[pkV h x, pkV g y] w fun e w' => e = .returned (.bool mh) ∧ Below w.heap.size w w') := fun w => hmh ▸ psame_any w h g x y
  have EV : Hid (decide (sameP k j) = (mh && mx && decide (x.sg = y.sg) && decide (x.ky = y.ky) && decide (x.tg = y.tg))) := by
    unfold Hid
    rw [I.e, J.e, ← hmh, ← hmx, Bool.eq_iff_iff]
    simp only [Bool.and_eq_true, decide_eq_true_eq]
    unfold sameP
    simp only [and_assoc]
  rw [hmx] at RX
  clear hmh hmx I J
  rw [EV.out]
  clear EV
  go_enter Try.func19, Try.ntmps19
  go_wp2_with fail
  generalize (w.alloc (.cells (pkC h x) 27)).alloc (.cells (pkC g y) 27) = v at *
  refine (RH.out _).mono ?_; rintro e w1 ⟨rfl, o⟩
  have C1 := Lib.hid (pk_keep B1.out o)
  have C2 := Lib.hid (pk_keep B2.out o)
  have FW : Hid (Below w.heap.size w w1) := L0.out.trans (o.mono L0.out.size)
  obtain ⟨c13, -⟩ := pk_at C1.out
  obtain ⟨d13, -⟩ := pk_at C2.out
  have RX1 := Lib.hid (RX.out _ FW.out)
  clear o LD LE bx by' RX RH L0 B1 B2
  cases mh
  · go_wp2
    go_ret
    exact ⟨rfl, FW.out⟩
  · go_wp2_with fail
    refine RX1.out.mono ?_; rintro e w2 ⟨rfl, l2⟩
    have FN : Hid (Below w.heap.size w w2) := FW.out.trans (l2.mono FW.out.size)
    obtain ⟨-, c14, c15, c16⟩ := pk_at (pk_keep C1.out l2)
    obtain ⟨-, d14, d15, d16⟩ := pk_at (pk_keep C2.out l2)
    clear C1 C2 c13 d13 l2 RX1
    obtain ⟨p, n, c, sg, ky, tg⟩ := x
    obtain ⟨q, m, d, sg', ky', tg'⟩ := y
    simp only at c14 c15 c16 d14 d15 d16 ⊢
    cases mx
    · go_wp2
      go_ret
      exact ⟨rfl, FN.out⟩
    · go_wp2
      all_goals
        go_ret
        refine ⟨ret_bool ?_, FN.out⟩
        first
          | rfl
          | (rw [Bool.eq_iff_iff]; simp; done)
          | (rw [Bool.eq_iff_iff]; simp; omega)

theorem play_seal (w : World) (p q : Option Addr) (c c' t m : Nat) (hz : Holds w p 2 c (valsI .i64 [4, 8])) (hx : Holds w q 2 c' (valsN .u64 [t, m])) (ht : t < 4294967296) (hm : m < 18446744073709551616) :
    Calls Try.prog 56 #[.slice p 2 c, .slice q 2 c'] w (RowPost w 12 (digN t 4 ++ digN m 8)) := by
  have h := play_any w p q 2 c c' 12 [4, 8] [t, m] hz hx (fun x hx => by
    simp only [List.mem_cons, List.not_mem_nil, or_false] at hx
    rcases hx with rfl | rfl <;> omega) (by omega) (by decide) (by decide)
  refine h.mono ?_
  have fit : fitT [4, 8] [t, m] 2 := fun i hi => by
    have : i = 0 ∨ i = 1 := by omega
    rcases this with rfl | rfl
    · exact ht
    · exact hm
  have e : layT [4, 8] [t, m] 2 = digN t 4 ++ digN m 8 := rfl
  rintro en w' (⟨-, o⟩ | ⟨no, -⟩)
  · rwa [e] at o
  · exact absurd fit no

set_option maxHeartbeats 4000000 in
theorem pseal7_any (w : World) (h : Hd) (x : Xt) (fs : List Fld) (k : Pak) (I : Pk w h x fs k) :
    Calls Try.prog 31 #[pkV h x] w fun e w' => ∃ p c, e = .returned (.slice p (sealP k).length c) ∧ Holds w' p (sealP k).length c (valsN .u8 (sealP k)) ∧ Below w.heap.size w w' := by
  have bx := box_pk h x
  have B0 : Hid ((w.alloc (.cells (pkC h x) 27)).heap[w.heap.size]? = some (.cells (pkC h x) 27 (0, 0))) := heap_alloc_new w _
  have L0 : Hid (Below w.heap.size w (w.alloc (.cells (pkC h x) 27))) := (Below.refl _ _).alloc (Nat.le_refl _) _
  obtain ⟨-, c14, c15, c16⟩ := pk_at B0.out
  have kyb : x.ky < 4294967296 := by have := I.ok.ky; rw [I.e] at this; exact this
  have tgb : x.tg < 18446744073709551616 := by have := I.ok.tg; rw [I.e] at this; exact this
  have es : sealP k = if x.sg = true then digN x.ky 4 ++ digN x.tg 8 else [] := by unfold sealP; rw [I.e]
  rw [es]
  clear I es
  obtain ⟨p, n, c, sg, ky, tg⟩ := x
  simp only at c14 c15 c16 kyb tgb ⊢
  cases sg
  · go_enter Try.func31, Try.ntmps31
    go_wp2
    go_ret
    exact ⟨none, 0, rfl, Holds.nil _ _ _ (Nat.zero_le _) (fun _ => rfl), L0.out⟩
  · have kyi : IntKind.u64.wrap (ky : Int) = (ky : Int) := by rw [IntKind.wrap_u64]; omega
    have SL := Lib.hid (fun w p q c c' hz hx => play_seal w p q c c' ky tg hz hx kyb tgb)
    have Q1 := pk_keep B0.out ((Below.refl _ _).alloc (Nat.le_refl _) (.cells #[.int .i64 4, .int .i64 8] 3))
    have d15 := (pk_at Q1).2.2.1
    have d16 := (pk_at Q1).2.2.2
    simp only at d15 d16
    have W2 : (((w.alloc (.cells (pkC h ⟨p, n, c, true, ky, tg⟩) 27)).alloc (.cells #[.int .i64 4, .int .i64 8] 3)).alloc (.cells #[.int .u64 (ky : Nat), .int .u64 (tg : Nat)] 24)).heap[w.heap.size + 1]? = some (.cells #[.int .i64 4, .int .i64 8] 3 (0, 0)) := pk_keep (heap_alloc2_new w _ _) ((Below.refl _ _).alloc (Nat.le_refl _) _)
    have W3 : (((w.alloc (.cells (pkC h ⟨p, n, c, true, ky, tg⟩) 27)).alloc (.cells #[.int .i64 4, .int .i64 8] 3)).alloc (.cells #[.int .u64 (ky : Nat), .int .u64 (tg : Nat)] 24)).heap[w.heap.size + 1 + 1]? = some (.cells #[.int .u64 (ky : Nat), .int .u64 (tg : Nat)] 24 (0, 0)) := by
      have := heap_alloc_new ((w.alloc (.cells (pkC h ⟨p, n, c, true, ky, tg⟩) 27)).alloc (.cells #[.int .i64 4, .int .i64 8] 3)) (.cells #[.int .u64 (ky : Nat), .int .u64 (tg : Nat)] 24)
      simpa using this
    have HA : Hid (Holds (((w.alloc (.cells (pkC h ⟨p, n, c, true, ky, tg⟩) 27)).alloc (.cells #[.int .i64 4, .int .i64 8] 3)).alloc (.cells #[.int .u64 (ky : Nat), .int .u64 (tg : Nat)] 24)) (some ⟨w.heap.size + 1, 0, none⟩) 2 2 (valsI .i64 [4, 8])) := blk_holds W2 rfl (by decide)
    have HB : Hid (Holds (((w.alloc (.cells (pkC h ⟨p, n, c, true, ky, tg⟩) 27)).alloc (.cells #[.int .i64 4, .int .i64 8] 3)).alloc (.cells #[.int .u64 (ky : Nat), .int .u64 (tg : Nat)] 24)) (some ⟨w.heap.size + 1 + 1, 0, none⟩) 2 2 (valsN .u64 [ky, tg])) := blk_holds W3 rfl (by decide)
    have L2 : Hid (Below w.heap.size w (((w.alloc (.cells (pkC h ⟨p, n, c, true, ky, tg⟩) 27)).alloc (.cells #[.int .i64 4, .int .i64 8] 3)).alloc (.cells #[.int .u64 (ky : Nat), .int .u64 (tg : Nat)] 24))) := (L0.out.alloc L0.out.size _).alloc (by simp; omega) _
    clear kyb tgb Q1 W2 W3
    go_enter Try.func31, Try.ntmps31
    go_wp2_with fail
    refine (SL.out _ _ _ _ _ HA.out HB.out).mono ?_; rintro e w3 ⟨v3, rfl, o3, l3⟩
    obtain ⟨p3, c3, rfl, n3⟩ := own_new o3
    have F : Hid (Holds w3 p3 12 c3 (valsN .u8 (digN ky 4 ++ digN tg 8)) ∧ Below w.heap.size w w3) := ⟨n3.holds, L2.out.trans (l3.mono L2.out.size)⟩
    have LE : Hid (12 = (digN ky 4 ++ digN tg 8).length) := by unfold Hid; rw [List.length_append, digN_len, digN_len]
    clear o3 l3 n3
    go_wp2
    go_ret
    refine ⟨p3, c3, ?_, ?_, F.out.2⟩
    · show Ending.returned (Value.slice p3 12 c3) = .returned (.slice p3 (digN ky 4 ++ digN tg 8).length c3)
      rw [← LE.out]
    · show Holds w3 p3 (digN ky 4 ++ digN tg 8).length c3 (valsN .u8 (digN ky 4 ++ digN tg 8))
      rw [← LE.out]
      exact F.out.1

set_option maxHeartbeats 16000000 in
theorem pput7_may (w : World) (h : Hd) (x : Xt) (fs : List Fld) (k : Pak) (I : Pk w h x fs k) (m : mayP k) :
    Calls Try.prog 10 #[pkV h x] w (RowR w (putD7 k) (putE7 k)) := by
  have bx := box_pk h x
  have B0 : Hid ((w.alloc (.cells (pkC h x) 27)).heap[w.heap.size]? = some (.cells (pkC h x) 27 (0, 0))) := heap_alloc_new w _
  have LD := load_pk B0.out
  have L0 : Hid (Below w.heap.size w (w.alloc (.cells (pkC h x) 27))) := (Below.refl _ _).alloc (Nat.le_refl _) _
  have RM := pmay7_any (w.alloc (.cells (pkC h x) 27)) h x fs k (I.below L0.out)
  rw [decide_eq_true m] at RM
  replace RM := Lib.hid RM
  have mh := m.1
  have mx := m.2.1
  rw [I.h] at mh
  rw [I.l] at mx
  have RH := Lib.hid (fun w => pput_ok w h x I.wf mh)
  have RX := Lib.hid (fun w' (b : Below w.heap.size w w') => pput5_ok w' x.p x.n x.c fs (I.hx.below b) I.flds mx)
  have RS := Lib.hid (fun w' (b : Below w.heap.size w w') => pseal7_any w' h x fs k (I.below b))
  obtain ⟨D, hD⟩ : ∃ D, bytesX (says fs) = D := ⟨_, rfl⟩
  obtain ⟨F, hF⟩ : ∃ F, bytesH h = F := ⟨_, rfl⟩
  have DL : D.length ≤ 3744 := by rw [← hD]; exact fields_le mx
  have FL : F.length = 48 := by rw [← hF]; exact bytesH_len h
  have SL : (sealP k).length ≤ 12 := by rw [seal_len]; split <;> omega
  have EB : bytesP k = F ++ (D ++ sealP k) := by unfold bytesP bodyP; rw [I.h, I.l, hD, hF, List.append_assoc]
  rw [hD] at RX
  rw [hF] at RH
  have LT : Hid ((bytesP k).length ≤ 512 → ∀ (v : Value) (n : Nat) (w' : World), n = (bytesP k).length → w'.ownsRow w.heap.size 5 1 v n (valsN .u8 (bytesP k)) → Below w.heap.size w w' → RowR w (putD7 k) (putE7 k) (.returned (.tuple #[v, .int .i64 0])) w') := fun g v n w' hn o l => by
    rw [putD_ok (putE_ok m g), putE_ok m g]
    exact rowR_own hn o l
  have GT : Hid (¬ (bytesP k).length ≤ 512 → ∀ (w' : World), Below w.heap.size w w' → RowR w (putD7 k) (putE7 k) (.returned (.tuple #[.slice none 0 0, .int .i64 3])) w') := fun g w' l => by
    rw [putD_bad (by rw [putE_long m g]; decide), putE_long m g]
    exact rowR_err l
  generalize bytesP k = P at *
  generalize sealP k = S at *
  generalize putD7 k = PD at *
  generalize putE7 k = PE at *
  have JP : ∀ (p1 p2 p3 : Option Addr) (c1 c2 c3 : Nat), joinP [⟨p1, 48, c1, F⟩, ⟨p2, D.length, c2, D⟩, ⟨p3, S.length, c3, S⟩] = P := fun _ _ _ _ _ _ => by rw [EB]; simp [joinP]
  have JPh := Lib.hid JP
  have TT : Hid (48 + (D.length + S.length) ≤ 900000) := by unfold Hid; omega
  clear I m hD hF mh mx JP EB FL DL SL
  go_enter Try.func10, Try.ntmps10
  go_wp2_with fail
  refine RM.out.mono ?_; rintro e w1 ⟨rfl, l1⟩
  have B1 := Lib.hid (pk_keep B0.out l1)
  have L1 : Hid (Below w.heap.size w w1) := L0.out.trans (l1.mono L0.out.size)
  have LD1 := load_pk B1.out
  clear l1 LD RM
  go_wp2_with fail
  refine (RH.out _).mono ?_; rintro e w2 ⟨v2, rfl, o2, l2⟩
  obtain ⟨p2, c2, rfl, n2⟩ := own_new o2
  have H2 := Lib.hid n2.holds
  have B2 := Lib.hid (pk_keep B1.out l2)
  have L2 : Hid (Below w.heap.size w w2) := L1.out.trans (l2.mono L1.out.size)
  have c13 := (pk_at B2.out).1
  have RX2 := Lib.hid (RX.out _ L2.out)
  clear o2 l2 n2 LD1 RX RH B1
  go_wp2_with fail
  refine RX2.out.mono ?_; rintro e w3 ⟨v3, rfl, o3, l3⟩
  obtain ⟨p3, c3, rfl, n3⟩ := own_new o3
  have H3 := Lib.hid n3.holds
  have B3 := Lib.hid (pk_keep B2.out l3)
  have L3 : Hid (Below w.heap.size w w3) := L2.out.trans (l3.mono L2.out.size)
  have H23 := Lib.hid (H2.out.below l3)
  have LD3 := load_pk B3.out
  have RS3 := Lib.hid (RS.out _ L3.out)
  clear o3 l3 n3 RX2 c13 RS H2
  go_wp2_with fail
  refine RS3.out.mono ?_; rintro e w4 ⟨p4, c4, rfl, h4, l4⟩
  have L4 : Hid (Below w.heap.size w w4) := L3.out.trans (l4.mono L3.out.size)
  obtain ⟨ps, hps⟩ : ∃ ps : List Prt, ps = [⟨p2, 48, c2, F⟩, ⟨p3, D.length, c3, D⟩, ⟨p4, S.length, c4, S⟩] := ⟨_, rfl⟩
  have AB : Below w4.heap.size w4 (w4.alloc (.cells #[.slice p2 48 c2, .slice p3 D.length c3, .slice p4 S.length c4] 31)) := (Below.refl _ _).alloc (Nat.le_refl _) _
  have L5 : Hid (Below w.heap.size w (w4.alloc (.cells #[.slice p2 48 c2, .slice p3 D.length c3, .slice p4 S.length c4] 31))) := L4.out.trans (AB.mono L4.out.size)
  have HPS : HoldsP (w4.alloc (.cells #[.slice p2 48 c2, .slice p3 D.length c3, .slice p4 S.length c4] 31)) (some ⟨w4.heap.size, 0, none⟩) 3 3 ps := by
    rw [hps]
    refine litP _ (heap_alloc_new w4 _) rfl rfl ?_ (by decide)
    intro q hq
    simp only [List.mem_cons, List.not_mem_nil, or_false] at hq
    rcases hq with rfl | rfl | rfl
    · exact (H23.out.below l4).below AB
    · exact (H3.out.below l4).below AB
    · exact h4.below AB
  have CC := pconcat_any _ _ _ _ ps HPS (by decide) (by rw [hps]; show 48 + (D.length + (S.length + 0)) ≤ 900000; exact TT.out)
  rw [show joinP ps = P by rw [hps]; exact JPh.out _ _ _ _ _ _] at CC
  replace CC := Lib.hid CC
  clear HPS hps AB l4 h4 H3 H23 RS3 LD3 B3
  go_wp2_with fail
  refine CC.out.mono ?_; rintro e w5 ⟨v5, rfl, o5, l5⟩
  have L6 : Hid (Below w.heap.size w w5) := L5.out.trans (l5.mono L5.out.size)
  have O5 := Lib.hid (own_base o5 L5.out.size)
  obtain ⟨p5, c5, rfl, -⟩ := own_new o5
  clear o5 l5 CC
  by_cases g : P.length ≤ 512
  · have gi : (P.length : Int) ≤ 512 := by omega
    have F := Lib.hid (LT.out g _ _ w5 rfl O5.out L6.out)
    clear g LT GT
    go_wp2
    go_ret2
    exact F.out
  · have gi : 512 < (P.length : Int) := by omega
    have F := Lib.hid (GT.out g w5 L6.out)
    clear g LT GT
    go_wp2
    go_ret2
    exact F.out

theorem pput7_any (w : World) (h : Hd) (x : Xt) (fs : List Fld) (k : Pak) (I : Pk w h x fs k) :
    Calls Try.prog 10 #[pkV h x] w (RowR w (putD7 k) (putE7 k)) := by
  by_cases m : mayP k
  · exact pput7_may w h x fs k I m
  · rw [putD_bad (by rw [putE_arg m]; decide), putE_arg m]
    have bx := box_pk h x
    have B0 : Hid ((w.alloc (.cells (pkC h x) 27)).heap[w.heap.size]? = some (.cells (pkC h x) 27 (0, 0))) := heap_alloc_new w _
    have LD := load_pk B0.out
    have L0 : Hid (Below w.heap.size w (w.alloc (.cells (pkC h x) 27))) := (Below.refl _ _).alloc (Nat.le_refl _) _
    have RM := pmay7_any (w.alloc (.cells (pkC h x) 27)) h x fs k (I.below L0.out)
    rw [decide_eq_false m] at RM
    replace RM := Lib.hid RM
    clear I m
    go_enter Try.func10, Try.ntmps10
    go_wp2_with fail
    refine RM.out.mono ?_; rintro e w1 ⟨rfl, l1⟩
    have F : Hid (RowR w [] ((1 : Nat) : Int) (.returned (.tuple #[.slice none 0 0, .int .i64 1])) w1) := rowR_err (L0.out.trans (l1.mono L0.out.size))
    clear l1
    go_wp2
    go_ret2
    exact F.out
end Go.Proofs.Ytfnidehbibfclaa
