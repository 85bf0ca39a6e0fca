/- Layer 15 (smear): leaps told by gaps, in plain numbers: how far they are; what is touched; forward. No Go in sight. -/
import Derived.Test.YtpfbdpoileepoaaSmN
set_option maxRecDepth 100000
namespace Go.Proofs.Ytpfbdpoileepoaa
open SmM

/-- Leaps that are far from the last instant. -/
def FarL (l : List Lp) : Prop := ∀ y ∈ l, dayI ≤ y.t ∧ y.t ≤ 1000000000000000000 ∧ (y.k = 1 ∨ y.k = -1)
theorem mk_far {gs : List Gp} (h : gs.length ≤ 32) : FarL (mkL dayI gs) := by
  intro y hy
  have m := mk_mem hy
  have e := (end_in dayI gs).2
  have : (gs.length : Int) * 29660400000000000 ≤ 32 * 29660400000000000 := Int.mul_le_mul_of_nonneg_right (by omega) (by decide)
  unfold dayI at *
  exact ⟨m.1, by omega, m.2.2⟩
def hitL (t u : Int) (x : Lp) : Bool := decide (t < x.t + halfI) && decide (x.t - halfI < u)
def touchL (l : List Lp) (t u : Int) : Bool := l.any (hitL t u)
theorem touch_take {l : List Lp} {i : Nat} (h : i < l.length) (t u : Int) : touchL (l.take (i + 1)) t u = (touchL (l.take i) t u || hitL t u (gl l i)) := by
  unfold touchL
  rw [List.take_succ_eq_append_getElem h, List.any_append, gl_of h]
  simp
theorem sum_take {l : List Lp} {i : Nat} (h : i < l.length) : sumI (l.take (i + 1)) = sumI (l.take i) + sgI (gl l i) * 1000000000 := by
  unfold sumI
  rw [List.take_succ_eq_append_getElem h, List.map_append, List.sum_append, List.map_cons, List.map_nil, List.sum_cons, List.sum_nil, Int.add_zero, gl_of h]
theorem sum_bound (l : List Lp) : -(l.length * 1000000000) ≤ sumI l ∧ sumI l ≤ l.length * 1000000000 := by
  induction l with
  | nil => show -((0 : Int) * _) ≤ (0 : Int) ∧ (0 : Int) ≤ (0 : Int) * _; omega
  | cons x l ih =>
    have e : sumI (x :: l) = sgI x * 1000000000 + sumI l := by unfold sumI; rw [List.map_cons, List.sum_cons]
    rw [e, List.length_cons, Int.natCast_succ, Int.add_mul]
    rcases sg_one x with s | s <;> rw [s] <;> omega
theorem sg_k {x : Lp} (h : x.k = 1 ∨ x.k = -1) : sgI x = x.k := by unfold sgI; rcases h with e | e <;> rw [e] <;> rfl
/-- Where no day is touched. -/
theorem to_out {l : List Lp} {t u : Int} (h0 : 0 ≤ t) (h : t ≤ u) (h1 : u ≤ topI) (o : touchL l t u = false) : toI l u - toI l t = u - t := by
  have e := taken_out (l := l) h fun y hy => by
    unfold touchL at o
    rw [List.any_eq_false] at o
    have := o y hy
    unfold hitL at this
    simp only [Bool.and_eq_true, decide_eq_true_eq] at this
    omega
  unfold toI
  rw [near_of h0 (by omega), near_of (by omega) h1, e]
  omega
theorem to_ends {l : List Lp} (f : FarL l) : toI l topI = topI - sumI l ∧ toI l 0 = 0 := by
  constructor
  · unfold toI
    rw [near_of (by unfold topI; omega) (Int.le_refl _), taken_all fun y hy => by have := f y hy; unfold halfI topI; omega]
  · unfold toI
    rw [near_of (Int.le_refl _) (by unfold topI; omega), taken_zero fun y hy => by have := f y hy; unfold halfI; unfold dayI at this; omega]
    rfl
end Go.Proofs.Ytpfbdpoileepoaa

