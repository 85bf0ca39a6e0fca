/- Layer 15 (smear), work ahead, the document's own: New. -/
import Derived.Test.YtpfbdpoileepoaaSmB
set_option maxRecDepth 100000
namespace Go.Proofs.Ytpfbdpoileepoaa
open Go.ChangeShapes Go.WideShapes Go.ChangeAt Go.RowKit SmM

/-- May a leap stand at its place? -/
def okAt (l : List Lp) (j : Nat) : Prop := ((gl l j).k = 1 ∨ (gl l j).k = -1) ∧ dayI ≤ (gl l j).t ∧ (gl l j).t ≤ topI ∧ (0 < j → (gl l (j - 1)).t + 2 * dayI ≤ (gl l j).t)
/-- Leaps that make a table. -/
def OkL (l : List Lp) : Prop := InL l ∧ GapL l
theorem gap_iff : ∀ (l : List Lp), GapL l ↔ ∀ j, 0 < j → j < l.length → (gl l (j - 1)).t + 2 * dayI ≤ (gl l j).t
  | [] => ⟨fun _ j _ h => by simp at h, fun _ => trivial⟩
  | [x] => ⟨fun _ j h0 h => by simp at h; omega, fun _ => trivial⟩
  | x :: y :: l => by
    have ih := gap_iff (y :: l)
    constructor
    · rintro ⟨a, b⟩ j h0 hj
      by_cases c : j = 1
      · subst c; exact a
      · have := ih.1 b (j - 1) (by omega) (by simp at hj ⊢; omega)
        obtain ⟨i, rfl⟩ : ∃ i, j = i + 2 := ⟨j - 2, by omega⟩
        exact this
    · intro h
      refine ⟨h 1 (by omega) (by simp), ih.2 fun j h0 hj => ?_⟩
      have := h (j + 1) (by omega) (by simp at hj ⊢; omega)
      obtain ⟨i, rfl⟩ : ∃ i, j = i + 1 := ⟨j - 1, by omega⟩
      exact this
theorem ok_iff (l : List Lp) : OkL l ↔ ∀ j, j < l.length → okAt l j := by
  unfold OkL InL
  rw [gap_iff]
  constructor
  · rintro ⟨a, b⟩ j hj
    have := a _ (gl_mem hj)
    exact ⟨this.2.2, this.1, this.2.1, fun h0 => b j h0 hj⟩
  · intro h
    refine ⟨fun y hy => ?_, fun j h0 hj => (h j hj).2.2.2 h0⟩
    obtain ⟨j, hj, rfl⟩ := List.getElem_of_mem hy
    rw [← gl_of hj]
    exact ⟨(h j hj).2.1, (h j hj).2.2.1, (h j hj).1⟩
/-- What New tells. -/
def NewE (l : List Lp) (r : Int) : Prop := (r = 7 ∧ 32 < l.length) ∨ (l.length ≤ 32 ∧ ((r = 0 ∧ OkL l) ∨ (r = 1 ∧ ¬ OkL l)))

/-- What the first test says. -/
def BadE (xk xt : Int) (q : Bool) : Prop := q = true ↔ ¬ ((xk = 1 ∨ xk = -1) ∧ dayI ≤ xt ∧ xt ≤ topI)
set_option maxHeartbeats 4000000 in
theorem rnew15 (w : World) (p : Option Addr) (n c : Nat) (l : List Lp) (h : HoldsL w p n c l) (hi : ∀ y ∈ l, I64 y.t ∧ I64 y.k) :
    Calls Try.prog 32 #[.slice p n c] w fun e w' => (∃ r, e = .returned (.int .i64 r) ∧ NewE l r) ∧ Below w.heap.size w w' := by
  have nb : (n : Int) ≤ 9223372036854775807 := by have := h.cap; have := h.max; unfold maxLen at this; omega
  have HL := Lib.hid h
  have LN := Lib.hid h.len
  have HI := Lib.hid hi
  by_cases big : 32 < n
  · have b1 : (32 : Int) < (n : Int) := by omega
    have F : Hid (NewE l 7) := .inl ⟨rfl, by rw [h.len]; exact big⟩
    clear h hi big
    go_enter Try.func32, Try.ntmps32
    go_wp2
    go_ret
    exact ⟨⟨7, rfl, F.out⟩, Below.refl _ _⟩
  · have b1 : (n : Int) ≤ 32 := by omega
    have b2 : decide ((32 : Int) < (n : Int)) = false := decide_eq_false (by omega)
    have SM : Hid (l.length ≤ 32) := by rw [h.len]; unfold Hid; omega
    clear h hi big
    go_enter Try.func32, Try.ntmps32
    go_wp2_with fail
    go_loopw [3] (fun ii wr => ∃ i : Nat, ii = .int .i64 (i : Nat) ∧ Hid (i ≤ n ∧ ∀ j, j < i → okAt l j) ∧ Hid (Below w.heap.size w wr)) (fun ii _ => 1000 - (intOf ii).toNat)
    case atStart => exact ⟨0, rfl, ⟨Nat.zero_le _, fun j hj => by omega⟩, Below.refl _ _⟩
    case round =>
      obtain ⟨i, rfl, I, L⟩ := hrel
      have i0 : (0 : Int) ≤ (i : Int) := by omega
      by_cases z : i < n
      · have z1 : (i : Int) < (n : Int) := by omega
        obtain ⟨a, rfl, c0, c1⟩ := (HL.out.below L.out).cell i z
        have il : i < l.length := by rw [LN.out]; exact z
        obtain ⟨x, hx⟩ : ∃ x, gl l i = x := ⟨_, rfl⟩
        have XI := HI.out x (by rw [← hx]; exact gl_mem il)
        rw [hx] at c0 c1
        have OA : Hid (okAt l i ↔ ((x.k = 1 ∨ x.k = -1) ∧ dayI ≤ x.t ∧ x.t ≤ topI ∧ (0 < i → (gl l (i - 1)).t + 2 * dayI ≤ x.t))) := by unfold Hid okAt; rw [hx]
        have BAD : Hid (¬ okAt l i → NewE l 1) := fun q => .inr ⟨SM.out, .inr ⟨rfl, fun o => q ((ok_iff l).1 o i il)⟩⟩
        obtain ⟨xt, xk⟩ := x
        dsimp only at c0 c1 XI OA
        obtain ⟨⟨xi0, xi1⟩, ⟨xj0, xj1⟩⟩ := XI
        have IL := Lib.hid il
        have ZN := Lib.hid z
        clear hx z il
        go_upto_region 6 with fail
        go_cut [42] from 13 to 42 (fun b wx => ∃ q : Bool, b = .bool q ∧ wx = wr ∧ BadE xk xt q)
        case first =>
          by_cases k1 : xk = 1
          · subst k1
            by_cases t1 : xt < 86400000000000
            · have t2 : decide (xt < 86400000000000) = true := decide_eq_true t1
              have Q : BadE (1) xt true := by unfold BadE dayI; simp; omega
              clear OA I
              go_wp2_with fail
              go_meet
              exact ⟨true, rfl, rfl, Q⟩
            · have t2 : decide (xt < 86400000000000) = false := decide_eq_false t1
              by_cases t3 : 4611686018427387904 < xt
              · have t4 : decide (4611686018427387904 < xt) = true := decide_eq_true t3
                have Q : BadE (1) xt true := by unfold BadE dayI topI; simp; omega
                clear OA I t1
                go_wp2_with fail
                go_meet
                exact ⟨true, rfl, rfl, Q⟩
              · have t4 : decide (4611686018427387904 < xt) = false := decide_eq_false t3
                have Q : BadE (1) xt false := by unfold BadE dayI topI; simp; omega
                clear OA I t1 t3
                go_wp2_with fail
                go_meet
                exact ⟨false, rfl, rfl, Q⟩
          · have k2 : (xk == 1) = false := by rw [beq_eq_false_iff_ne]; exact k1
            by_cases k3 : xk = -1
            · subst k3
              by_cases t1 : xt < 86400000000000
              · have t2 : decide (xt < 86400000000000) = true := decide_eq_true t1
                have Q : BadE (-1) xt true := by unfold BadE dayI; simp; omega
                clear OA I k1 k2
                go_wp2_with fail
                go_meet
                exact ⟨true, rfl, rfl, Q⟩
              · have t2 : decide (xt < 86400000000000) = false := decide_eq_false t1
                by_cases t3 : 4611686018427387904 < xt
                · have t4 : decide (4611686018427387904 < xt) = true := decide_eq_true t3
                  have Q : BadE (-1) xt true := by unfold BadE dayI topI; simp; omega
                  clear OA I t1 k1 k2
                  go_wp2_with fail
                  go_meet
                  exact ⟨true, rfl, rfl, Q⟩
                · have t4 : decide (4611686018427387904 < xt) = false := decide_eq_false t3
                  have Q : BadE (-1) xt false := by unfold BadE dayI topI; simp; omega
                  clear OA I t1 t3 k1 k2
                  go_wp2_with fail
                  go_meet
                  exact ⟨false, rfl, rfl, Q⟩
            · have k4 : (xk == -1) = false := by rw [beq_eq_false_iff_ne]; exact k3
              have Q : BadE xk xt true := by unfold BadE; simp [k1, k3]
              clear OA I
              go_wp2_with fail
              go_meet
              exact ⟨true, rfl, rfl, Q⟩
        obtain ⟨q, rfl, ewx, Q⟩ := hcut
        obtain ⟨wx, hwx⟩ : ∃ wx, wr = wx := ⟨_, rfl⟩
        rw [hwx] at c0 c1 L ewx
        subst ewx
        clear hwx
        cases q
        · have V := (Classical.not_not.1 fun r => absurd (Q.2 r) (by decide) : (xk = 1 ∨ xk = -1) ∧ dayI ≤ xt ∧ xt ≤ topI)
          have VV := Lib.hid V
          by_cases i1 : i = 0
          · subst i1
            have IN : Hid (0 + 1 ≤ n ∧ ∀ j, j < 0 + 1 → okAt l j) := ⟨ZN.out, fun j hj => by
              obtain rfl : j = 0 := by omega
              exact OA.out.2 ⟨VV.out.1, VV.out.2.1, VV.out.2.2, fun h => absurd h (by omega)⟩⟩
            have LD : Hid (Below w.heap.size w wc.drew) := L.out.drew
            clear OA BAD I Q V
            go_wp2_with fail
            go_region
            all_goals (
              go_wp2_with fail
              go_roundw
              case rel => exact ⟨0 + 1, by go_num, IN, LD⟩
              case measure => simp [intOf])
          · have i2 : (0 : Int) < (i : Int) := by omega
            have i3 : decide ((0 : Int) < (i : Int)) = true := decide_eq_true i2
            have i4 : decide (0 < i) = true := decide_eq_true (by omega)
            obtain ⟨h, hh⟩ : ∃ h, i - 1 = h := ⟨_, rfl⟩
            have h1 : (i : Int) - 1 = (h : Nat) := by omega
            have hn : h < n := by have := ZN.out; omega
            have h0 : (0 : Int) ≤ (h : Int) := by omega
            have h2 : (h : Int) < (n : Int) := by omega
            obtain ⟨a', ea, d0, -⟩ := (HL.out.below L.out).cell h hn
            injection ea with ea
            subst ea
            obtain ⟨y, hy⟩ : ∃ y, (gl l h).t = y := ⟨_, rfl⟩
            have yo := I.out.2 h (by omega)
            unfold okAt dayI topI at yo
            rw [hy] at d0 yo
            obtain ⟨y2, hy2⟩ : ∃ y2, y + 172800000000000 = y2 := ⟨_, rfl⟩
            have yb : 86400000000000 ≤ y ∧ y ≤ 4611686018427387904 := ⟨yo.2.1, yo.2.2.1⟩
            clear yo
            have WW : Hid ((wrap64 y2 = y2 ∧ IntKind.i64.wrap y2 = y2) ∧ wrap64 (h : Int) = (h : Nat) ∧ IntKind.i64.wrap (h : Int) = (h : Nat)) := ⟨⟨by unfold wrap64; omega, by rw [IntKind.wrap_i64]; omega⟩, by unfold wrap64; omega, by rw [IntKind.wrap_i64]; omega⟩
            have LD : Hid (Below w.heap.size w wc.drew) := L.out.drew
            by_cases g : xt < y2
            · have g1 : decide (xt < y2) = true := decide_eq_true g
              have FB := Lib.hid (BAD.out fun o => by
                have := (OA.out.1 o).2.2.2 (by omega)
                rw [hh, hy] at this
                unfold dayI at this
                omega)
              clear OA BAD I Q V hh hy yb i1 hn
              obtain ⟨⟨w1, w2⟩, w3, w4⟩ := WW.out
              go_wp2_with fail
              go_region
              all_goals (
                go_wp2
                go_ret
                exact ⟨⟨1, rfl, FB.out⟩, LD.out⟩)
            · have g1 : decide (xt < y2) = false := decide_eq_false g
              have IN : Hid (i + 1 ≤ n ∧ ∀ j, j < i + 1 → okAt l j) := ⟨ZN.out, fun j hj => by
                by_cases e : j = i
                · rw [e]
                  exact OA.out.2 ⟨VV.out.1, VV.out.2.1, VV.out.2.2, fun _ => by rw [hh, hy]; unfold dayI; omega⟩
                · exact I.out.2 j (by omega)⟩
              clear OA BAD I Q V hh hy yb i1 hn g
              obtain ⟨⟨w1, w2⟩, w3, w4⟩ := WW.out
              go_wp2_with fail
              go_region
              all_goals (
                go_wp2_with fail
                go_roundw
                case rel => exact ⟨i + 1, by go_num, IN, LD⟩
                case measure => simp [intOf]; omega)
        · have FB := Lib.hid (BAD.out fun o => Q.1 rfl (by have := OA.out.1 o; exact ⟨this.1, this.2.1, this.2.2.1⟩))
          clear OA BAD I Q
          go_wp2
          go_ret
          exact ⟨⟨1, rfl, FB.out⟩, L.out⟩
      · have z1 : (n : Int) ≤ (i : Int) := by omega
        have z2 : decide ((i : Int) < (n : Int)) = false := decide_eq_false (by omega)
        have FV : Hid (NewE l 0) := .inr ⟨SM.out, .inl ⟨rfl, (ok_iff l).2 fun j hj => I.out.2 j (by have := LN.out; have := I.out.1; omega)⟩⟩
        clear z I
        go_wp2
        go_ret
        exact ⟨⟨0, rfl, FV.out⟩, L.out⟩
end Go.Proofs.Ytpfbdpoileepoaa

