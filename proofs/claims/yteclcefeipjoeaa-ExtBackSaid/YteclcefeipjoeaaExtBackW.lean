/- ExtBack: fields there and back: the walk. -/
import Derived.Test.YteclcefeipjoeaaExtCutsW
import Derived.Test.YteclcefeipjoeaaAppend
namespace Go.Proofs.Yteclcefeipjoeaa
open Go.ChangeShapes Go.WideShapes Go.ChangeAt Go.RowKit OctM

def boxS (v : Value) : Sem Value := Instr.box 46 v
theorem boxS_eq (v : Value) : Instr.box 46 v = boxS v := rfl
theorem box_s (C : Array Value) (w : World) : (boxS (.agg C)).run Try.prog w = .ok (.pointer (some ⟨w.heap.size, 0, none⟩)) (w.alloc (.cells C 46)) := by
  unfold boxS Instr.box
  simp [go_sem, Value.cells]

/-- What is parsed of any bytes is an error, and nothing; or fields that may be, and what was left. -/
theorem parX_either {bs : List Nat} (hy : Byt bs) : ((parX bs).2.2 ≠ 0 ∧ (parX bs).1 = [] ∧ (parX bs).2.1 = []) ∨ ((parX bs).2.2 = 0 ∧ mayX (parX bs).1 ∧ (∀ x ∈ (parX bs).1, goodF x) ∧ bs = bytesX (parX bs).1 ++ (parX bs).2.1 ∧ ((parX bs).2.1.length = 0 ∨ (parX bs).2.1.length = 12)) := by
  by_cases h : (parX bs).2.2 = 0
  · obtain ⟨d, m, g, e⟩ := parX_spec hy h
    exact .inr ⟨h, m, g, e, d⟩
  · obtain ⟨a, b⟩ : (parX bs).1 = [] ∧ (parX bs).2.1 = [] := parF_bad 8 [] bs h
    exact .inl ⟨h, a, b⟩

attribute [local go_sem ↓] boxS_eq
set_option maxRecDepth 100000 in
set_option maxHeartbeats 16000000 in
theorem back_walk (w : World) (C : Array Value) (S : List Nat) (hC : C.size = 12) (hS : C.toList = valsN .u8 S) (yS : Byt S) (p : Option Addr) (n c : Nat) (fs : List Fld) (hx : HoldsX w p n c fs) (ok : FldsOk fs)
    (pb : Option Addr) (nb cb : Nat) (bs : List Nat) (hb : Holds w pb nb cb (valsN .u8 bs)) (yb : Byt bs) :
    Calls Try.prog 5 #[.slice p n c, .agg C, .slice pb nb cb] w fun e w' => e = .returned (.bool true) ∧ Below w.heap.size w w' := by
  obtain ⟨i0, ji, jz0, jz1, jz2⟩ := info_of info8
  have bx := box_s C
  have BX : (w.alloc (.cells C 46)).heap[w.heap.size]? = some (.cells C 46 (0, 0)) := heap_alloc_new w _
  have LX : Hid (Below w.heap.size w (w.alloc (.cells C 46))) := (Below.refl _ _).alloc (Nat.le_refl _) _
  have lS : S.length = 12 := by have := congrArg List.length hS; rw [Array.length_toList, hC, valsN_len] at this; omega
  have HS0 : Holds (w.alloc (.cells C 46)) (some ⟨w.heap.size, 0, none⟩) 12 12 (valsN .u8 S) := by
    have h := blk_holds BX hC (by decide)
    rwa [hS] at h
  have PR := Lib.hid (proper_any _ p n c fs (hx.below LX.out))
  have OK := Lib.hid (propX_ok (ok_says ok))
  have MY := Lib.hid (propX_may (says fs))
  generalize propX (says fs) = l at *
  obtain ⟨L, hL⟩ : ∃ L, L = (bytesX l).length := ⟨_, rfl⟩
  have Lb : L ≤ 4000 := by
    have a := bytesX_le MY.out.1
    have := MY.out.2
    omega
  have BYT := Lib.hid (bytesX_ok MY.out OK.out)
  have YS := Lib.hid yS
  have HL := Lib.hid hL
  have LB := Lib.hid Lb
  have LS := Lib.hid lS
  have P1 : Hid (parX (bytesX l) = (l, [], 0)) := by
    have h := parX_back (t := []) MY.out (.inl rfl)
    rwa [List.append_nil] at h
  have P2 : Hid (parX (bytesX l ++ S) = (l, S, 0)) := parX_back MY.out (.inr lS)
  have HBB := Lib.hid (hb.below LX.out)
  have HS := Lib.hid HS0
  have YB := Lib.hid yb
  have bc := hb.cap
  have bm := hb.max
  unfold maxLen at bm
  clear hx ok BX Lb hL hC hS yS lS HS0 hb yb
  go_enter Try.func5, Try.ntmps5
  go_wp2_with fail
  generalize (w.alloc (.cells C 46)) = w0 at *
  refine PR.out.mono ?_; rintro e w1 ⟨q, m, d, gs, rfl, hg, es, low1⟩
  have ml : m = l.length := by rw [← hg.len, ← says_len, es]
  have PP := pput5_ok w1 q m d gs hg (ok_of es OK.out) (by rw [es]; exact MY.out)
  rw [es, ← HL.out] at PP
  replace PP := Lib.hid PP
  have ES := Lib.hid es
  have HG := Lib.hid hg
  have LOW1 := Lib.hid low1
  have ML := Lib.hid ml
  clear hg es low1 ml
  go_wp2_with fail
  refine PP.out.mono ?_; rintro e w2 ⟨v, rfl, o2, low2⟩
  obtain ⟨px, cx, rfl, hx2⟩ := own_holds o2
  have LOW2 := Lib.hid low2
  have HX2 := Lib.hid hx2
  have PQ := Lib.hid (pparse5_any w2 px L cx _ hx2 BYT.out (by have := LB.out; omega))
  rw [P1.out] at PQ
  clear o2 hx2 low2
  go_wp2_with fail
  refine PQ.out.mono ?_; rintro e w3 ⟨p3, c3, q3, d3, f3, rfl, hs3, hh3, hn3, hr3, low3⟩
  simp only [← ML.out] at hh3 ⊢
  have LOW3 := Lib.hid low3
  have B03 : Hid (Below w0.heap.size w0 w3) := (LOW1.out.trans (LOW2.out.mono LOW1.out.size)).trans (low3.mono (LOW1.out.trans (LOW2.out.mono LOW1.out.size)).size)
  have HG3 := Lib.hid ((HG.out.below LOW2.out).below low3)
  have HX3 := Lib.hid (HX2.out.below low3)
  have HS3 := Lib.hid (HS.out.below B03.out)
  have HB3 := Lib.hid (HBB.out.below B03.out)
  have HH3 := Lib.hid hh3
  have HS3' := Lib.hid hs3
  have L4 : Hid (0 + L ≤ maxLen) := by unfold Hid maxLen; have := LB.out; omega
  have L5 : Hid ((0 + L) * 1 ≤ 140737488355328) := by unfold Hid; have := LB.out; omega
  have L6 : Hid (L + 12 ≤ maxLen) := by unfold Hid maxLen; have := LB.out; omega
  have L7 : Hid ((L + 12) * 1 ≤ 140737488355328) := by unfold Hid; have := LB.out; omega
  have CONV := Lib.hid (fun (w' : World) (v : Value) (o : w'.ownsRow w3.heap.size 5 1 v (L + 12) (valsN .u8 (bytesX l) ++ valsN .u8 S)) => show ∃ p c, v = .slice p (L + 12) c ∧ Calls Try.prog 21 #[.slice p (L + 12) c] w' (ParR w' (l, S, 0)) by
    rw [← valsN_append] at o
    obtain ⟨p, c, rfl, hh⟩ := own_holds o
    have h := pparse5_any w' p (L + 12) c _ hh (byt_append BYT.out YS.out) (by have := LB.out; omega)
    rw [P2.out] at h
    exact ⟨p, c, rfl, h⟩)
  have HB0 : Below w3.heap.size w3 w3.drew := (Below.refl _ _).drew
  clear hs3 hh3 hn3 hr3 low3
  go_upto_region 4 with fail
  go_cut [12, 13, 14] (fun x y z wx => ∃ p6 c6 q6 d6 f6, x = .slice p6 m c6 ∧ y = .slice q6 12 d6 ∧ z = .int .i64 0 ∧ Hid (says f6 = l) ∧ Hid (HoldsX wx p6 m c6 f6) ∧ Hid (Holds wx q6 12 d6 (valsN .u8 S)) ∧ Hid (Below w3.heap.size w3 wx))
  case first =>
    go_wp2_with fail
    go_region_held3 (fun _ => True)
      (trivial)
      (first
        | (go_at_call 21; refine c38.mono ?_; intro e w6 h6; obtain ⟨p6, c6, q6, d6, f6, rfl, hs6, hh6, hn6, hr6, low6⟩ := h6; have HB0 := HB0.trans (low6.mono HB0.size))
        | (refine step_append_more _ (by rfl) _ _ _ (by rfl) w3.heap.size 5 i0 (.int .u8 0) 1 Try.underlying25 ji jz0 jz1 jz2 (by rfl) (.slice (some ⟨w3.heap.size, 0, none⟩) 0 0) 0 [] (by rfl) (own_zero (heap_alloc_new w3.drew _) (Nat.le_refl _)) px L cx (valsN .u8 (bytesX l)) (by rfl) (HX3.out.below (HB0.alloc HB0.size _)) (valsN_one _ _) L4.out L5.out (HB0.alloc HB0.size _).size ?_; intro v36 wb ob gb mb; have HB0 := (HB0.alloc HB0.size _).grown gb (HB0.alloc HB0.size _).size (fun j hj => by have e : w3.heap.size = j := (Option.some.inj hj); omega); have ob := own_nil ob; clear gb mb)
        | (refine step_append_more _ (by rfl) _ _ _ (by rfl) w3.heap.size 5 i0 (.int .u8 0) 1 Try.underlying25 ji jz0 jz1 jz2 (by rfl) v36 L _ (by rfl) ob (some ⟨w.heap.size, 0, none⟩) 12 12 (valsN .u8 S) (by rfl) (HS3.out.below HB0) (valsN_one _ _) L6.out L7.out HB0.size ?_; intro v38 wc oc gc mc; have HB0 := HB0.grown gc HB0.size (fun j hj => (World.ownsRow.lt ob j hj).1); obtain ⟨p38, q38, rfl, c38⟩ := CONV.out _ _ oc; clear oc gc mc))
    all_goals
      have R : Hid (says f6 = l) ∧ Hid (HoldsX w6 p6 m c6 f6) ∧ Hid (Holds w6 q6 12 d6 (valsN .u8 S)) ∧ Hid (Below w3.heap.size w3 w6) := by
        refine ⟨hs6, ?_, ?_, HB0⟩
        · simp only [← ML.out] at hh6
          exact hh6
        · have h := hr6.holds
          simp only [LS.out] at h
          exact h
      go_wp2_with fail
      go_meet
      exact ⟨p6, c6, q6, d6, f6, by rw [ML.out], by rw [← LS.out], rfl, R⟩
  case rest =>
  obtain ⟨p6, c6, q6, d6, f6, rfl, rfl, rfl, hs6, hh6, hr6, low6⟩ := hcut
  have OKL : Hid (FldsOk gs) := ok_of ES.out OK.out
  have OK3 : Hid (FldsOk f3) := ok_of HS3'.out OK.out
  have OK6 : Hid (FldsOk f6) := ok_of hs6.out OK.out
  have M1 := Lib.hid (pmay5_any wc q m d gs (HG3.out.below low6.out))
  rw [decide_eq_true (show mayX (says gs) by rw [ES.out]; exact MY.out)] at M1
  have SA := Lib.hid (fun (w' : World) (b : Below wc.heap.size wc w') => show Calls Try.prog 19 #[.slice q m d, .slice p3 m c3] w' _ from psame5_any w' q p3 m d m c3 gs f3 ((HG3.out.below low6.out).below b) ((HH3.out.below low6.out).below b) OKL.out OK3.out)
  have SB := Lib.hid (fun (w' : World) (b : Below wc.heap.size wc w') => show Calls Try.prog 19 #[.slice q m d, .slice p6 m c6] w' _ from psame5_any w' q p6 m d m c6 gs f6 ((HG3.out.below low6.out).below b) (hh6.out.below b) OKL.out OK6.out)
  rw [decide_eq_true (show says gs = says f3 by rw [ES.out, HS3'.out])] at SA
  rw [decide_eq_true (show says gs = says f6 by rw [ES.out, hs6.out])] at SB
  have EA := Lib.hid (fun (w' : World) (b : Below wc.heap.size wc w') => bequal_same w' q6 (some ⟨w.heap.size, 0, none⟩) 12 d6 12 12 S (hr6.out.below b) ((HS3.out.below low6.out).below b) YS.out)
  have BWC : Hid (Below w.heap.size w wc) := (LX.out.trans (B03.mono LX.out.size)).trans (low6.out.mono (LX.out.trans (B03.mono LX.out.size)).size)
  have HBC := Lib.hid (HB3.out.below low6.out)
  clear B03
  obtain ⟨k, hk⟩ : ∃ k, k = min nb 2000 := ⟨_, rfl⟩
  have EM : min (nb : Int) 2000 = (k : Int) := by omega
  have EI : (if (2000 : Int) < (nb : Int) then (2000 : Int) else (nb : Int)) = (k : Int) := by split <;> omega
  have kc : (k : Int) ≤ (cb : Int) := by omega
  have k2 : (k : Int) ≤ 2000 := by omega
  have KN : Hid (k ≤ nb) := by unfold Hid; omega
  have K2 : Hid (k ≤ 2000) := by unfold Hid; omega
  clear hk
  go_wp2_with fail
  refine M1.out.mono ?_; rintro e w7 ⟨rfl, l7⟩
  have L7' := Lib.hid l7
  clear l7
  go_wp2_with fail
  refine (SA.out _ L7'.out).mono ?_; rintro e w8 ⟨rfl, l8⟩
  have L8 : Hid (Below wc.heap.size wc w8) := L7'.out.trans (l8.mono L7'.out.size)
  clear l8
  go_wp2_with fail
  refine (SB.out _ L8.out).mono ?_; rintro e w9 ⟨rfl, l9⟩
  have L9 : Hid (Below wc.heap.size wc w9) := L8.out.trans (l9.mono L8.out.size)
  clear l9
  go_wp2_with fail
  refine (EA.out _ L9.out).mono ?_; rintro e w' ⟨rfl, rfl⟩
  have BW9 : Hid (Below w.heap.size w w9) := BWC.out.trans (L9.out.mono BWC.out.size)
  have HK := Lib.hid (holdsN_take (HBC.out.below L9.out) KN.out)
  have YK := Lib.hid (byt_take YB.out k)
  have EITH := Lib.hid (parX_either YK.out)
  have PB := Lib.hid (pparse5_any w9 pb k cb _ HK.out YK.out (by have := K2.out; omega))
  have LK : Hid ((bs.take k).length = k) := by have := HK.out.len; rwa [valsN_len] at this
  generalize bs.take k = ds at *
  clear M1 SA SB EA HBC CONV P1 P2 PP PQ PR L7' L8
  go_wp2_with fail
  refine PB.out.mono ?_; rintro e wp ⟨pp, cp, qq, dd, fp, rfl, hsp, hhp, hnp, hrp, lowp⟩
  have LP : Hid (Below w.heap.size w wp) := BW9.out.trans (lowp.mono BW9.out.size)
  have LOWP := Lib.hid lowp
  rcases EITH.out with ⟨e0, a, b⟩ | ⟨e0, my, good, eds, dn⟩
  · have AW := Lib.hid (awake5_any wp)
    obtain ⟨x, hx⟩ : ∃ x, x = (parX ds).2.2 := ⟨_, rfl⟩
    simp only [a, b, ← hx, List.length_nil] at e0 ⊢
    have x1 : ((x : Int) != 0) = true := by simp; omega
    have x2 : ((x : Int) == 0) = false := by simp; omega
    have x3 : ¬ (x : Int) = 0 := by omega
    have x4 : ¬ x = 0 := e0
    clear hsp hhp hnp hrp lowp hx a b e0 PB EITH
    go_wp2_with fail
    refine AW.out.mono ?_; rintro e w4 ⟨rfl, low4⟩
    have L4' : Hid (Below w.heap.size w w4) := LP.out.trans (low4.mono LP.out.size)
    clear low4
    go_wp2
    go_ret
    exact ⟨rfl, L4'.out⟩
  · obtain ⟨o, ho⟩ : ∃ o, o = (parX ds).1 := ⟨_, rfl⟩
    obtain ⟨ov, hov⟩ : ∃ ov, ov = (parX ds).2.1 := ⟨_, rfl⟩
    simp only [← ho, ← hov, e0] at hsp hhp hrp my good eds dn ⊢
    obtain ⟨N, hN⟩ : ∃ N, N = o.length := ⟨_, rfl⟩
    obtain ⟨Lr, hLr⟩ : ∃ Lr, Lr = ov.length := ⟨_, rfl⟩
    obtain ⟨Ly, hLy⟩ : ∃ Ly, Ly = (bytesX o).length := ⟨_, rfl⟩
    have okp : FldsOk fp := ok_of hsp (fun x hx => (good x hx).2)
    have PY := pput5_ok wp pp _ cp fp hhp okp (by rw [hsp]; exact my)
    rw [hsp, ← hLy, ← hN] at PY
    replace PY := Lib.hid PY
    have HRP := Lib.hid hrp.holds
    simp only [← hN, ← hLr] at HRP dn ⊢
    have SUM : Hid (Ly + Lr = k) := by
      unfold Hid
      have := congrArg List.length eds
      rw [List.length_append, ← hLy, ← hLr, LK.out] at this
      exact this.symm
    have A1 : Hid (Ly + Lr ≤ maxLen) := by unfold Hid maxLen; have := SUM.out; omega
    have A2 : Hid ((Ly + Lr) * 1 ≤ 140737488355328) := by unfold Hid; have := SUM.out; omega
    have CONV := Lib.hid (fun (B N : Nat) (w : World) (v : Value) (o' : w.ownsRow B 5 1 v N (valsN .u8 (bytesX o) ++ valsN .u8 ov)) (e : N = k) => show ∃ p c, v = .slice p k c ∧ Holds w p k c (valsN .u8 ds) by
      rw [← valsN_append, ← eds, e] at o'
      exact own_holds o')
    have EQ := Lib.hid (fun (w' : World) (b : Below wp.heap.size wp w') p7 c7 h7 => bequal_same w' p7 pb k c7 k cb _ h7 ((HK.out.below LOWP.out).below b) YK.out)
    clear hsp hhp hnp hrp lowp PB EITH okp my good eds hLr hLy hN ho hov e0
    rcases dn with rfl | rfl
    all_goals
      go_wp2_with fail
      refine PY.out.mono ?_; rintro e wy ⟨vy, rfl, oy, ly⟩
      obtain ⟨py, cy, rfl, -⟩ := own_holds oy
      have OY := Lib.hid oy
      have LY := Lib.hid ly
      have AW := Lib.hid (awake5_any wy)
      clear oy ly
      go_wp2_with fail
      refine AW.out.mono ?_; rintro e wz ⟨rfl, lz⟩
      have LZ := Lib.hid lz
      have LYZ : Hid (Below wp.heap.size wp wz) := LY.out.trans (lz.mono LY.out.size)
      clear lz
      go_wp2_with (at_builtin; refine append_want rfl _ _ 25 rfl wp.heap.size 5 i0 (.int .u8 0) 1 Try.underlying25 ji jz0 jz1 jz2 rfl (.slice py Ly cy) Ly _ rfl (own_keep OY.out LZ.out) qq _ dd (valsN .u8 ov) rfl (HRP.out.below LYZ.out) (valsN_one _ _) A1.out A2.out LYZ.out.size ?_)
      intro v7 w7 o7 g7
      have L7' : Hid (Below wp.heap.size wp w7) := LYZ.out.grown g7 LYZ.out.size (fun j hj => (World.ownsRow.lt OY.out j hj).1)
      obtain ⟨p7, c7, rfl, h7⟩ := CONV.out _ _ _ _ o7 (by have := SUM.out; omega)
      have H7 := Lib.hid h7
      clear o7 g7 h7
      go_wp2_with fail
      refine (EQ.out _ L7'.out p7 c7 H7.out).mono ?_; rintro e w8 ⟨rfl, rfl⟩
      have FW : Hid (Below w.heap.size w w7) := LP.out.trans (L7'.out.mono LP.out.size)
      go_wp2
      go_ret
      exact ⟨rfl, FW.out⟩
end Go.Proofs.Yteclcefeipjoeaa
