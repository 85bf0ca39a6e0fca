/- ExtCuts: of fields' bytes, cut anywhere, nothing is read but whole fields: the walk. -/
import Derived.Test.YteclcefeipjoeaaExtFindsW
import Derived.Test.YteclcefeipjoeaaExtG
import Derived.Test.YteclcefeipjoeaaAppendS
import Derived.Deep.DeepCutAuto
namespace Go.Proofs.Yteclcefeipjoeaa
open Go.ChangeShapes Go.WideShapes Go.ChangeAt Go.RowKit OctM

theorem HoldsX.take {w : World} {p : Option Addr} {n c k : Nat} {fs : List Fld} (h : HoldsX w p n c fs) (hk : k ≤ n) : HoldsX w p k c (fs.take k) :=
  ⟨by rw [List.length_take, h.len]; omega, Nat.le_trans hk h.cap, h.max, h.bare, fun i f hf => by
    have il : i < k := by
      have := (List.getElem?_eq_some_iff.1 hf).1
      rw [List.length_take] at this
      omega
    rw [List.getElem?_take, if_pos il] at hf
    exact h.cell i f hf⟩
theorem FldsOk.take {fs : List Fld} (h : FldsOk fs) (k : Nat) : FldsOk (fs.take k) := fun f hf => h f (List.mem_of_mem_take hf)
theorem mayX_take {l : Says} (h : mayX l) (k : Nat) : mayX (l.take k) := ⟨fun x hx => h.1 x (List.mem_of_mem_take hx), by rw [List.length_take]; have := h.2; omega⟩
theorem bytesX_ok {l : Says} (m : mayX l) (h : ∀ x ∈ l, x.1 < 65536 ∧ Byt x.2) : Byt (bytesX l) := bytesX_byt fun x hx => ⟨(h x hx).1, (h x hx).2, by have := m.1 x hx; unfold longN at this; omega⟩
theorem bytesX_pos {l : Says} (m : mayX l) (h : l ≠ []) : 16 ≤ (bytesX l).length := by
  cases l with
  | nil => exact absurd rfl h
  | cons x l =>
    have := m.1 x (List.mem_cons.2 (.inl rfl))
    unfold longN at this
    rw [bytesX_cons, List.length_append, bytesF_len]
    omega
theorem parX_cut {l : Says} (m : mayX l) {k : Nat} (hk : k ≤ (bytesX l).length) :
    (∃ j t, j ≤ l.length ∧ parX ((bytesX l).take k) = (l.take j, t, 0) ∧ bytesX (l.take j) ++ t = (bytesX l).take k) ∨ parX ((bytesX l).take k) = ([], [], 4) := by
  rcases parF_cut l 8 [] k m.2 m.1 hk with ⟨j, t, h1, h2, -, h3⟩ | h
  · exact .inl ⟨j, t, h1, h2, h3⟩
  · exact .inr h

set_option maxRecDepth 100000 in
set_option maxHeartbeats 16000000 in
theorem cuts_walk (w : World) (t : Nat) (p : Option Addr) (n c : Nat) (fs : List Fld) (hx : HoldsX w p n c fs) (ok : FldsOk fs) (ht : t < 65536) :
    Calls Try.prog 6 #[.slice p n c, .int .u16 (t : Nat)] w fun e w' => e = .returned (.bool true) ∧ Below w.heap.size w w' := by
  obtain ⟨i0, ji, jz0, jz1, jz2⟩ := info_of info8
  have PR := Lib.hid (proper_any w p n c fs hx)
  have OK := Lib.hid (propX_ok (ok_says ok))
  have MY := Lib.hid (propX_may (says fs))
  generalize propX (says fs) = l at *
  obtain ⟨L, hL⟩ : ∃ L, L = (bytesX l).length := ⟨_, rfl⟩
  have Lb : L ≤ 4000 := by
    have a := bytesX_le MY.out.1
    have := MY.out.2
    omega
  obtain ⟨k, hk⟩ : ∃ k, k = t % (L + 1) := ⟨_, rfl⟩
  obtain ⟨L1, hL1⟩ : ∃ L1, L1 = L + 1 := ⟨_, rfl⟩
  have kL : k ≤ L := by have := Nat.mod_lt t (show 0 < L + 1 by omega); omega
  have t16 : (t : Int) < 65536 := by omega
  have e1 : (L : Int) + 1 = (L1 : Int) := by omega
  have e2 : (t : Int) % (L1 : Int) = (k : Int) := by rw [hk, hL1]; rfl
  have e3 : (t : Int).tmod (L1 : Int) = (k : Int) := by rw [Int.tmod_eq_emod_of_nonneg (by omega)]; exact e2
  have v1 : IntKind.i64.wrap (L1 : Int) = (L1 : Int) := by rw [IntKind.wrap_i64]; omega
  have v2 : IntKind.i64.wrap (k : Int) = (k : Int) := by rw [IntKind.wrap_i64]; omega
  have v3 : IntKind.i64.wrap (t : Int) = (t : Int) := by rw [IntKind.wrap_i64]; omega
  have z1 : ¬ (L1 : Int) = 0 := by omega
  have z2 : ((L1 : Int) == 0) = false := by simp; omega
  have z3 : ¬ L1 = 0 := by omega
  have Lb' : (L : Int) ≤ 4000 := by omega
  have kL' : (k : Int) ≤ (L : Int) := by omega
  have CUT := Lib.hid (parX_cut MY.out (k := k) (by omega))
  have BYT := Lib.hid (byt_take (bytesX_ok MY.out OK.out) k)
  have HL := Lib.hid hL
  have KL := Lib.hid kL
  have LB := Lib.hid Lb
  clear hx ok hk hL1 kL Lb hL ht
  go_enter Try.func6, Try.ntmps6
  go_wp2_with fail
  refine PR.out.mono ?_; rintro e w1 ⟨q, m, d, gs, rfl, hg, es, low1⟩
  have lg := hg.len
  have ml : m = l.length := by rw [← lg, ← says_len, es]
  have PP := pput5_ok w1 q m d gs hg (ok_of es OK.out) (by rw [es]; exact MY.out)
  rw [es, ← HL.out] at PP
  replace PP := Lib.hid PP
  have ES := Lib.hid es
  have HG := Lib.hid hg
  have LOW1 := Lib.hid low1
  have ML := Lib.hid ml
  have mb : (m : Int) ≤ 8 := by have := MY.out.2; omega
  have MD : (m : Int) ≤ (d : Int) := by have := hg.cap; omega
  clear hg es low1 lg ml
  go_wp2_with fail
  refine PP.out.mono ?_; rintro e w2 ⟨v, rfl, o2, low2⟩
  obtain ⟨px, cx, rfl, hx2⟩ := own_holds o2
  have L2 : Hid (Below w.heap.size w w2) := LOW1.out.trans (low2.mono LOW1.out.size)
  have LOW2 := Lib.hid low2
  have cx2 := hx2.cap
  have kc : (k : Int) ≤ (cx : Int) := by have := KL.out; omega
  have k0 : (0 : Int) ≤ (k : Int) := by omega
  have HK := Lib.hid (holdsN_take hx2 KL.out)
  have PQ := Lib.hid (pparse5_any w2 px k cx _ HK.out BYT.out (by have := KL.out; have := LB.out; omega))
  have M0 : Hid (m = 0 → L = 0) := fun h => by
    have : l = [] := List.length_eq_zero_iff.1 (by have := ML.out; omega)
    rw [HL.out, this]
    rfl
  have M1 : Hid (m ≠ 0 → 16 ≤ L) := fun h => by
    rw [HL.out]
    exact bytesX_pos MY.out (fun e => h (by rw [ML.out, e]; rfl))
  clear o2 hx2 low2 cx2
  have E1 := Lib.hid e1
  have E2 := Lib.hid e2
  have E3 := Lib.hid e3
  have V1 := Lib.hid v1
  clear e1 e2 e3 v1
  go_upto_region 3 with fail
  go_cut [31] (fun b wx => b = .bool false ∧ w2 = wx)
  case first =>
    by_cases m0 : m = 0
    · have L0 := M0.out m0
      subst m0 L0
      go_wp2
      go_meet
      exact ⟨rfl, rfl⟩
    · have l16 := M1.out m0
      have s1 : ((L : Int) == 0) = false := by simp; omega
      have s2 : ¬ (L : Int) = 0 := by omega
      have s3 : ((L : Int) != 0) = true := by simp; omega
      have s4 : ¬ L = 0 := by omega
      clear m0 l16
      go_wp2
      go_meet
      exact ⟨rfl, rfl⟩
  case rest =>
  obtain ⟨rfl, rfl⟩ := hcut
  have e1 := E1.out
  have e2 := E2.out
  have e3 := E3.out
  have v1 := V1.out
  go_wp2_with fail
  refine PQ.out.mono ?_; intro e w3 h3
  rcases CUT.out with ⟨j, r, hj, hp, hb⟩ | hp
  · rw [hp] at h3
    obtain ⟨p3, c3, q3, d3, f3, rfl, hs3, hh3, hn3, hr3, low3⟩ := h3
    have j8 : j ≤ 8 := by have := MY.out.2; omega
    have lj : (l.take j).length = j := by rw [List.length_take]; omega
    simp only [lj] at hh3
    have L3 : Hid (Below w.heap.size w w3) := L2.out.trans (low3.mono L2.out.size)
    have LW3 := Lib.hid low3
    have ok3 : FldsOk f3 := ok_of hs3 (fun x hx => OK.out x (List.mem_of_mem_take hx))
    obtain ⟨Ly, hLy⟩ : ∃ Ly, Ly = (bytesX (l.take j)).length := ⟨_, rfl⟩
    obtain ⟨Lr, hLr⟩ : ∃ Lr, Lr = r.length := ⟨_, rfl⟩
    have sum : Ly + Lr = k := by
      have := congrArg List.length hb
      rw [List.length_append, ← hLy, ← hLr, List.length_take, ← HL.out] at this
      have := KL.out
      omega
    have PY := pput5_ok w3 p3 j c3 f3 hh3 ok3 (by rw [hs3]; exact mayX_take MY.out j)
    rw [hs3, ← hLy] at PY
    replace PY := Lib.hid PY
    have CONV := Lib.hid (fun (B : Nat) (w : World) (v : Value) (o : w.ownsRow B 5 1 v (Ly + Lr) (valsN .u8 (bytesX (l.take j)) ++ valsN .u8 r)) => show ∃ p c, v = .slice p k c ∧ Holds w p k c (valsN .u8 ((bytesX l).take k)) by
      rw [← valsN_append, hb, sum] at o
      exact own_holds o)
    have SA := Lib.hid (fun (w' : World) (b : Below w3.heap.size w3 w') => show Calls Try.prog 19 #[.slice p3 j c3, .slice q j d] w' _ from psame5_any w' p3 q j c3 j d f3 (gs.take j) (hh3.below b) (((HG.out.below (LOW2.out.trans (low3.mono LOW2.out.size))).below b).take (by rw [ML.out]; exact hj)) ok3 ((ok_of ES.out OK.out).take j))
    have same : decide (says f3 = says (gs.take j)) = true := decide_eq_true (by rw [hs3, says_take, ES.out])
    rw [same] at SA
    have f1 : (j : Int) ≤ (m : Int) := by have := ML.out; omega
    have f2 : (j : Int) ≤ (d : Int) := by omega
    have f3' : (0 : Int) ≤ (j : Int) := by omega
    have f4 : (Ly : Int) + (Lr : Int) = (k : Int) := by omega
    have HR3 := Lib.hid (hr3.holds)
    rw [← hLr] at HR3
    have LRB : Hid (Ly + Lr ≤ maxLen) := by unfold Hid maxLen; have := KL.out; have := LB.out; omega
    have LRB2 : Hid ((Ly + Lr) * 1 ≤ 140737488355328) := by unfold Hid; have := KL.out; have := LB.out; omega
    have EQ := Lib.hid (fun (w' : World) (b : Below w3.heap.size w3 w') p7 c7 h7 => bequal_same w' p7 px k c7 k cx _ h7 ((HK.out.below low3).below b) BYT.out)
    clear hs3 hh3 hn3 hr3 low3 ok3 sum hp hb hj same j8
    simp only [lj, ← hLr]
    clear lj hLy hLr
    go_wp2_with fail
    refine PY.out.mono ?_; rintro e w4 ⟨vy, rfl, oy, low4⟩
    obtain ⟨py, cy, rfl, -⟩ := own_holds oy
    have OY := Lib.hid oy
    have LW4 := Lib.hid low4
    have HB0 : Below w4.heap.size w4 w4.drew := (Below.refl _ _).drew
    have HC0 : Below w3.heap.size w3 w4.drew := LW4.out.trans (HB0.mono LW4.out.size)
    clear oy low4
    go_wp2_with fail
    go_region_held3 (fun _ => True)
      (trivial)
      (first
        | (go_at_call 16; refine (awake5_any _).mono ?_; rintro e w5 ⟨rfl, l5⟩; have HB0 := HB0.trans (l5.mono HB0.size); have HC0 := LW4.out.trans (HB0.mono LW4.out.size); clear l5)
        | (go_at_call 19; refine (SA.out _ HC0).mono ?_; rintro e w6 ⟨rfl, l6⟩; have HB0 := HB0.trans (l6.mono HB0.size); have HC0 := LW4.out.trans (HB0.mono LW4.out.size); clear l6)
        | (go_at_call 14; refine (EQ.out _ HC0 p7 c7 h7).mono ?_; rintro e w8 ⟨rfl, rfl⟩)
        | (refine step_append_more _ (by rfl) _ _ _ (by rfl) w3.heap.size 5 i0 (.int .u8 0) 1 Try.underlying25 ji jz0 jz1 jz2 (by rfl) (.slice py Ly cy) Ly _ (by rfl) (own_keep OY.out HB0) q3 Lr d3 (valsN .u8 r) (by rfl) (HR3.out.below HC0) (valsN_one _ _) LRB.out LRB2.out HC0.size ?_; intro v7 w7 o7 g7 mv7; have HC0 := HC0.grown g7 HC0.size (fun j hj => (World.ownsRow.lt OY.out j hj).1); obtain ⟨p7, c7, rfl, h7⟩ := CONV.out _ _ _ o7; clear o7 g7 mv7))
    all_goals
      have FW := L3.out.trans (HC0.mono L3.out.size)
      go_wp2
      go_ret
      exact ⟨rfl, FW⟩
  · rw [hp] at h3
    obtain ⟨p3, c3, q3, d3, rfl, -, low3⟩ := par_none h3
    have L3 : Hid (Below w.heap.size w w3) := L2.out.trans (low3.mono L2.out.size)
    have AW := Lib.hid (awake5_any w3)
    clear h3 low3 hp
    go_wp2_with fail
    refine AW.out.mono ?_; rintro e w4 ⟨rfl, low4⟩
    have L4 : Hid (Below w.heap.size w w4) := L3.out.trans (low4.mono L3.out.size)
    clear low4
    go_wp2
    go_ret
    exact ⟨rfl, L4.out⟩
end Go.Proofs.Yteclcefeipjoeaa
