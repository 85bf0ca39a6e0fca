/- Layer 15 (smear): a leap's own day, in plain numbers: what it takes there, whose day it is. No Go in sight. -/
import Derived.Test.YtpfbdpoileepoaaSmO
set_option maxRecDepth 100000
namespace Go.Proofs.Ytpfbdpoileepoaa
open SmM

theorem gap_lt {l : List Lp} (g : GapL l) : ∀ (d j : Nat), j + d + 1 < l.length → (gl l j).t + 2 * dayI ≤ (gl l (j + d + 1)).t
  | 0, j, h => (gap_iff l).1 g (j + 1) (by omega) h
  | d + 1, j, h => by
    have a := gap_lt g d j (by omega)
    have b := (gap_iff l).1 g (j + (d + 1) + 1) (by omega) h
    rw [show j + (d + 1) + 1 - 1 = j + d + 1 by omega] at b
    unfold dayI at *
    omega
theorem gap_any {l : List Lp} (g : GapL l) {j k : Nat} (h : j < k) (hk : k < l.length) : (gl l j).t + 2 * dayI ≤ (gl l k).t := by
  have := gap_lt g (k - j - 1) j (by omega)
  rw [show j + (k - j - 1) + 1 = k by omega] at this
  exact this
theorem taken_app (a b : List Lp) (t : Int) : takenI (a ++ b) t = takenI a t + takenI b t := by
  unfold takenI
  rw [List.map_append, List.sum_append]
/-- Within its own day a leap takes a quarter each quarter; the others take nothing. -/
theorem day_taken {l : List Lp} (g : GapL l) {k : Nat} (hk : k < l.length) (hx : (gl l k).k = 1 ∨ (gl l k).k = -1) (q : Nat) (hq : q ≤ 4) :
    takenI l ((gl l k).t - halfI + 21600000000000 * q) - takenI l ((gl l k).t - halfI) = (q : Int) * (gl l k).k * 250000000 := by
  have sp : l = l.take k ++ gl l k :: l.drop (k + 1) := by rw [gl_of hk, ← List.drop_eq_getElem_cons hk, List.take_append_drop]
  obtain ⟨x, hx'⟩ : ∃ x, gl l k = x := ⟨_, rfl⟩
  have A : takenI (l.take k) (x.t - halfI + 21600000000000 * q) = takenI (l.take k) (x.t - halfI) := taken_out (by omega) fun y hy => by
    obtain ⟨j, hj, rfl⟩ := List.getElem_of_mem hy
    rw [List.length_take] at hj
    have := gap_any g (j := j) (k := k) (by omega) hk
    rw [gl_of (by omega), hx'] at this
    rw [List.getElem_take]
    left
    unfold halfI
    unfold dayI at this
    omega
  have B : takenI (l.drop (k + 1)) (x.t - halfI + 21600000000000 * q) = takenI (l.drop (k + 1)) (x.t - halfI) := taken_out (by omega) fun y hy => by
    obtain ⟨j, hj, rfl⟩ := List.getElem_of_mem hy
    rw [List.length_drop] at hj
    have := gap_any g (j := k) (k := k + 1 + j) (by omega) (by omega)
    rw [gl_of (i := k + 1 + j) (by omega), hx'] at this
    rw [List.getElem_drop]
    right
    unfold halfI
    unfold dayI at this
    omega
  have O0 : clipI x.t (x.t - halfI) = 0 := by unfold clipI; rw [if_pos (by omega)]
  have O1 : clipI x.t (x.t - halfI + 21600000000000 * q) = 21600000000000 * q := by
    unfold clipI halfI dayI
    split
    · omega
    · split <;> omega
  rw [hx'] at sp ⊢
  rw [hx'] at hx
  rw [sp, taken_app, taken_app, taken_cons, taken_cons, A, B, one_clip, one_clip, O0, O1, sg_k hx]
  rw [show (21600000000000 * (q : Int)) / 86400 = 250000000 * q by omega]
  rcases hx with e | e <;> rw [e] <;> omega
/-- Around a leap's day there is no other's. -/
theorem within_near {l : List Lp} (g : GapL l) {k : Nat} (hk : k < l.length) {s : Int} (h0 : (gl l k).t - halfI - 1 ≤ s) (h1 : s ≤ (gl l k).t + halfI) :
    ((gl l k).t - halfI ≤ s ∧ s < (gl l k).t + halfI → withinI l s = (k : Int)) ∧ (¬ ((gl l k).t - halfI ≤ s ∧ s < (gl l k).t + halfI) → withinI l s = -1) := by
  have far : ∀ j, j < l.length → j ≠ k → dayB (gl l j) s = false := fun j hj ne => by
    unfold dayB
    rw [Bool.and_eq_false_iff]
    rcases Nat.lt_or_gt_of_ne ne with c | c
    · right
      have := gap_any g c hk
      apply decide_eq_false
      unfold halfI at *
      unfold dayI at this
      omega
    · left
      have := gap_any g c hj
      apply decide_eq_false
      unfold halfI at *
      unfold dayI at this
      omega
  constructor
  · intro d
    refine within_some hk ?_ fun j hj => far j (by omega) (by omega)
    unfold dayB
    rw [decide_eq_true d.1, decide_eq_true d.2]
    rfl
  · intro d
    refine within_none fun j hj => ?_
    by_cases e : j = k
    · subst e
      unfold dayB
      rw [Bool.and_eq_false_iff]
      by_cases c : (gl l j).t - halfI ≤ s
      · right
        exact decide_eq_false fun e => d ⟨c, e⟩
      · left
        exact decide_eq_false c
    · exact far j hj e
end Go.Proofs.Ytpfbdpoileepoaa

