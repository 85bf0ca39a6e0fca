/- The document's own answers for layer 5 (ext): whether fields may be; what is found; whether two are the same. -/
import Derived.Test.YteclcefeipjoeaaExtA
import Derived.Test.YteclcefeipjoeaaStr
import Derived.Test.YteclcefeipjoeaaStrN
import Derived.Deep.QuietTactic
import Derived.BigQuiet
namespace Go.Proofs.Yteclcefeipjoeaa
open Go.ChangeShapes Go.WideShapes Go.ChangeAt Go.RowKit OctM

theorem says_get {fs : List Fld} {i : Nat} {f : Fld} (h : fs[i]? = some f) : (says fs)[i]? = some (f.ty, f.ds) := by unfold says; rw [List.getElem?_map, h]; rfl
theorem says_len (fs : List Fld) : (says fs).length = fs.length := List.length_map _
theorem says_take (fs : List Fld) (k : Nat) : says (fs.take k) = (says fs).take k := by unfold says; rw [List.map_take]
theorem take_snoc {α : Type} {l : List α} {i : Nat} {x : α} (h : l[i]? = some x) : l.take (i + 1) = l.take i ++ [x] := by
  obtain ⟨hi, rfl⟩ := List.getElem?_eq_some_iff.1 h
  rw [List.take_succ_eq_append_getElem hi]

set_option maxHeartbeats 1600000 in
theorem rmay5_any (w : World) (p : Option Addr) (n c : Nat) (fs : List Fld) (hx : HoldsX w p n c fs) :
    Calls Try.prog 18 #[.slice p n c] w fun e w' => e = .returned (.bool (decide (mayX (says fs)))) ∧ w = w' := by
  have mx := hx.max
  have cp := hx.cap
  unfold maxLen at mx
  have nb : (n : Int) ≤ 9223372036854775807 := by omega
  have ln := hx.len
  have HX := Lib.hid hx
  have LN := Lib.hid ln
  obtain ⟨b, hb⟩ : ∃ b, decide (mayX (says fs)) = b := ⟨_, rfl⟩
  rw [hb]
  have HB := Lib.hid hb
  clear hx mx cp ln hb
  go_enter Try.func18, Try.ntmps18
  go_wp2_with fail
  go_loop [3] (fun i => ∃ k : Nat, i = .int .i64 k ∧ k ≤ n ∧ ∀ x ∈ (says fs).take k, longN x.2.length) (fun i => n - (intOf i).toNat)
  case atStart => exact ⟨0, rfl, Nat.zero_le _, fun x hx => by simp at hx⟩
  case round =>
    obtain ⟨k, rfl, k1, ok⟩ := hrel
    have kb : (k : Int) ≤ 9223372036854775807 := by omega
    by_cases g : k < n
    · have g' : (k : Int) < (n : Int) := by omega
      obtain ⟨a, f, rfl, hf, c0, c1, hh⟩ := HX.out.at g
      have lf : f.ds.length = f.n := by have := hh.len; rwa [valsN_len] at this
      have fb : f.n < 9223372036854775808 := by have := hh.cap; have := hh.max; unfold maxLen at this; omega
      have RL := Lib.hid (fun w => rlong5_any w f.n fb)
      obtain ⟨d, hd⟩ : ∃ d, decide (longN f.n) = d := ⟨_, rfl⟩
      rw [hd] at RL
      have SX := Lib.hid (take_snoc (says_get hf))
      have G := Lib.hid g
      have OK := Lib.hid ok
      have LF := Lib.hid lf
      have HD := Lib.hid hd
      have HF := Lib.hid (says_get hf)
      clear ok k1 g hf hh lf fb hd
      rcases d with _ | _
      · have FIN : Hid (b = false) := by
          unfold Hid
          rw [← HB.out]
          refine decide_eq_false fun m => ?_
          have := m.1 _ (List.mem_of_getElem? HF.out)
          have h2 := of_decide_eq_false HD.out
          rw [← LF.out] at h2
          exact h2 this
        go_wp2_with fail
        refine (RL.out _).mono ?_; rintro e w' ⟨rfl, rfl⟩
        go_wp2
        go_ret
        exact ⟨ret_bool FIN.out.symm, rfl⟩
      · go_wp2_with fail
        refine (RL.out _).mono ?_; rintro e w' ⟨rfl, rfl⟩
        go_wp2
        go_round
        case rel =>
          refine ⟨k + 1, by go_num, by have := G.out; omega, fun x hx => ?_⟩
          rw [SX.out] at hx
          rcases List.mem_append.1 hx with h | h
          · exact OK.out x h
          · obtain rfl : x = (f.ty, f.ds) := by simpa using h
            have h2 := of_decide_eq_true HD.out
            rw [← LF.out] at h2
            exact h2
        case measure => simp [intOf]; have := G.out; omega
    · have g' : (n : Int) ≤ (k : Int) := by omega
      have e : (says fs).take k = says fs := List.take_of_length_le (by rw [says_len, LN.out]; omega)
      rw [e] at ok
      have FIN : Hid (b = decide ((n : Int) ≤ 8)) := by
        unfold Hid
        rw [← HB.out, Bool.eq_iff_iff, decide_eq_true_iff, decide_eq_true_iff]
        unfold mayX
        rw [says_len, LN.out]
        constructor
        · intro h; have := h.2; omega
        · intro h; exact ⟨ok, by omega⟩
      obtain ⟨d, hd⟩ : ∃ d, decide ((n : Int) ≤ 8) = d := ⟨_, rfl⟩
      rw [hd] at FIN
      clear g ok e k1
      go_wp2
      go_ret
      exact ⟨ret_bool FIN.out.symm, rfl⟩

theorem HoldsX.drewN {w : World} {p : Option Addr} {n c : Nat} {fs : List Fld} (h : HoldsX w p n c fs) (q : Nat) : HoldsX (w.drewN q) p n c fs := h.below (below_drewN (Below.refl _ _) q)

attribute [local go_sem ↓] strB_eq neqS_eq
set_option maxHeartbeats 4000000 in
theorem rsame5_any (w : World) (p q : Option Addr) (n c m d : Nat) (fs gs : List Fld) (hx : HoldsX w p n c fs) (hy : HoldsX w q m d gs) (of' : FldsOk fs) (og : FldsOk gs) :
    Calls Try.prog 20 #[.slice p n c, .slice q m d] w fun e w' => e = .returned (.bool (decide (says fs = says gs))) ∧ ∃ k, w' = w.drewN k := by
  have mx := hx.max
  have cp := hx.cap
  unfold maxLen at mx
  have my := hy.max
  have cq := hy.cap
  unfold maxLen at my
  have nb : (n : Int) ≤ 9223372036854775807 := by omega
  have mb : (m : Int) ≤ 9223372036854775807 := by omega
  have la := hx.len
  have lb := hy.len
  by_cases e : n = m
  · subst e
    have HX := Lib.hid hx
    have HY := Lib.hid hy
    have LA := Lib.hid la
    have LB := Lib.hid lb
    have OF := Lib.hid of'
    have OG := Lib.hid og
    obtain ⟨b, hb⟩ : ∃ b, decide (says fs = says gs) = b := ⟨_, rfl⟩
    rw [hb]
    have HB := Lib.hid hb
    clear hx hy la lb mx cp my cq of' og hb
    go_enter Try.func20, Try.ntmps20
    go_wp2_with fail
    go_loopw [5] (fun i wr => ∃ k j : Nat, i = .int .i64 k ∧ Hid (k ≤ n) ∧ Hid ((says fs).take k = (says gs).take k) ∧ wr = w.drewN j) (fun i _ => n - (intOf i).toNat)
    case atStart => exact ⟨0, 0, rfl, Nat.zero_le _, rfl, rfl⟩
    case round =>
      obtain ⟨k, j, rfl, hk, he, rfl⟩ := hrel
      have kb : (k : Int) ≤ 9223372036854775807 := by have := hk.out; omega
      by_cases g : k < n
      · have g' : (k : Int) < (n : Int) := by omega
        have G := Lib.hid g
        obtain ⟨a1, f, rfl, hf, c0, c1, hh⟩ := HX.out.at g
        obtain ⟨a2, f2, rfl, hf2, c2, c3, hh2⟩ := HY.out.at g
        have SF := Lib.hid (says_get hf)
        have SG := Lib.hid (says_get hf2)
        have y1 := (OF.out f (List.mem_of_getElem? hf)).2
        have y2 := (OG.out f2 (List.mem_of_getElem? hf2)).2
        obtain ⟨t1, ht1⟩ : ∃ t, t = f.ty := ⟨_, rfl⟩
        obtain ⟨t2, ht2⟩ : ∃ t, t = f2.ty := ⟨_, rfl⟩
        rw [← ht1] at c0 SF
        rw [← ht2] at c2 SG
        have SA : ∀ q', (strB (.slice f.p f.n f.c)).run Try.prog (w.drewN q') = .ok (.string (strN f.ds)) (w.drewN q') := fun q' => str_held (holds_drewN hh q')
        have SB : ∀ q', (strB (.slice f2.p f2.n f2.c)).run Try.prog (w.drewN q') = .ok (.string (strN f2.ds)) (w.drewN q') := fun q' => str_held (holds_drewN hh2 q')
        have NE : ∀ w', (neqS (.string (strN f.ds)) (.string (strN f2.ds))).run Try.prog w' = .ok (.bool (!decide (f.ds = f2.ds))) w' := fun w' => neq_str w' y1 y2
        clear g hf hf2 hh hh2 y1 y2 ht1 ht2
        by_cases te : t1 = t2
        · subst te
          by_cases de : f.ds = f2.ds
          · rw [decide_eq_true de, Bool.not_true] at NE
            have DE := Lib.hid de
            clear de
            go_wp2_with fail
            go_quiet (fail)
            go_wp2
            go_roundw
            case rel =>
              refine ⟨k + 1, _, by go_num, G.out, ?_, by first | exact drewN_add _ _ _ | rfl⟩
              unfold Hid
              rw [take_snoc SF.out, take_snoc SG.out, he.out, DE.out]
            case measure => simp [intOf]; have := G.out; omega
          · rw [decide_eq_false de, Bool.not_false] at NE
            have FIN : Hid (b = false) := by
              unfold Hid
              rw [← HB.out]
              refine decide_eq_false fun h => de ?_
              have a := SF.out
              rw [h, SG.out] at a
              injection a with a
              injection a with _ a
              exact a.symm
            clear de
            go_wp2_with fail
            go_quiet (fail)
            go_wp2
            go_ret
            exact ⟨ret_bool FIN.out.symm, _, by first | exact drewN_add _ _ _ | rfl⟩
        · have f1 : ((t1 : Int) != (t2 : Int)) = true := by simp; omega
          have f2' : ((t1 : Int) == (t2 : Int)) = false := by simp; omega
          have f3 : ¬ (t1 : Int) = (t2 : Int) := by omega
          have FIN : Hid (b = false) := by
            unfold Hid
            rw [← HB.out]
            refine decide_eq_false fun h => te ?_
            have a := SF.out
            rw [h, SG.out] at a
            injection a with a
            injection a with a _
            exact a.symm
          clear te SA SB NE
          go_wp2_with fail
          go_quiet (fail)
          go_wp2
          go_ret
          exact ⟨ret_bool FIN.out.symm, _, by first | exact drewN_add _ _ _ | rfl⟩
      · have g' : (n : Int) ≤ (k : Int) := by omega
        have FIN : Hid (b = true) := by
          unfold Hid
          rw [← HB.out]
          have h := he.out
          rw [List.take_of_length_le (by rw [says_len, LA.out]; omega), List.take_of_length_le (by rw [says_len, LB.out]; omega)] at h
          exact decide_eq_true h
        clear g he hk
        go_wp2
        go_ret
        exact ⟨ret_bool FIN.out.symm, _, rfl⟩
  · have FIN : Hid (decide (says fs = says gs) = false) := by
      unfold Hid
      rw [decide_eq_false_iff_not]
      intro h
      have := congrArg List.length h
      rw [says_len, says_len] at this
      omega
    rw [FIN.out]
    have f1 : ((n : Int) != (m : Int)) = true := by simp; omega
    have f2 : ((n : Int) == (m : Int)) = false := by simp; omega
    have f3 : ¬ (n : Int) = (m : Int) := by omega
    clear hx hy la lb e mx cp my cq of' og
    go_enter Try.func20, Try.ntmps20
    go_wp2
    go_ret
    exact ⟨rfl, 0, rfl⟩
end Go.Proofs.Yteclcefeipjoeaa
