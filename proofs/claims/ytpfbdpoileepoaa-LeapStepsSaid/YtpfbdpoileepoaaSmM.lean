/- Layer 15 (smear), work ahead: leaps in plain lists and numbers: what each has taken, smeared times, never back. No Go in sight. -/
import Derived.WalkKit
namespace Go.Proofs.Ytpfbdpoileepoaa.SmM

/-- A leap. -/
structure Lp where
  t : Int
  k : Int
def dayI : Int := 86400000000000
def halfI : Int := 43200000000000
def topI : Int := 4611686018427387904
def nearI (t : Int) : Int := if t < 0 then 0 else if topI < t then topI else t
theorem near_in (t : Int) : 0 ≤ nearI t ∧ nearI t ≤ topI := by unfold nearI topI; split <;> (try split) <;> omega
theorem near_of {t : Int} (h0 : 0 ≤ t) (h1 : t ≤ topI) : nearI t = t := by unfold nearI; rw [if_neg (by omega), if_neg (by omega)]
/-- What a leap has taken at an instant, as the chapter says it. -/
def oneI (x : Lp) (t : Int) : Int := if t ≤ x.t - halfI then 0 else (if x.k < 0 then -(if t < x.t + halfI then (t - (x.t - halfI)) / 86400 else 1000000000) else (if t < x.t + halfI then (t - (x.t - halfI)) / 86400 else 1000000000))
/-- How much of a leap's day is over. -/
def clipI (a t : Int) : Int := if t ≤ a - halfI then 0 else if t < a + halfI then t - (a - halfI) else dayI
theorem clip_in (a t : Int) : 0 ≤ clipI a t ∧ clipI a t ≤ dayI := by unfold clipI dayI halfI; split <;> (try split) <;> omega
theorem clip_mono {a t u : Int} (h : t ≤ u) : clipI a t ≤ clipI a u ∧ clipI a u - clipI a t ≤ u - t := by
  unfold clipI dayI halfI
  split <;> split <;> (try split) <;> (try split) <;> omega
/-- The sign of a leap. -/
def sgI (x : Lp) : Int := if x.k < 0 then -1 else 1
theorem sg_one (x : Lp) : sgI x = 1 ∨ sgI x = -1 := by unfold sgI; split <;> simp
theorem one_clip (x : Lp) (t : Int) : oneI x t = sgI x * (clipI x.t t / 86400) := by
  unfold oneI sgI clipI
  by_cases h : t ≤ x.t - halfI
  · rw [if_pos h, if_pos h]; simp
  · rw [if_neg h, if_neg h]
    by_cases g : t < x.t + halfI
    · rw [if_pos g, if_pos g]
      split
      · rw [Int.neg_mul, Int.one_mul]
      · rw [Int.one_mul]
    · rw [if_neg g, if_neg g, show dayI / 86400 = 1000000000 by decide]
      split
      · rfl
      · rfl

/-! ### Leaps in a row -/
/-- Each at least two Days behind the one ahead. -/
def GapL : List Lp → Prop
  | [] => True
  | [_] => True
  | x :: y :: l => x.t + 2 * dayI ≤ y.t ∧ GapL (y :: l)
theorem GapL.tail {x : Lp} {l : List Lp} (h : GapL (x :: l)) : GapL l := by
  cases l with
  | nil => trivial
  | cons y l => exact h.2
theorem GapL.behind : ∀ {x : Lp} {l : List Lp}, GapL (x :: l) → ∀ y ∈ l, x.t + 2 * dayI ≤ y.t
  | x, z :: l, h, y, hy => by
    rcases List.mem_cons.1 hy with rfl | hy
    · exact h.1
    · have := GapL.behind h.2 y hy
      have := h.1
      unfold dayI at *
      omega
def takenI (l : List Lp) (t : Int) : Int := (l.map fun x => oneI x t).sum
def clipsI (l : List Lp) (t : Int) : Int := (l.map fun x => clipI x.t t).sum
def flatI (l : List Lp) (t : Int) : Int := (l.map fun x => clipI x.t t / 86400).sum
theorem taken_cons (x : Lp) (l : List Lp) (t : Int) : takenI (x :: l) t = oneI x t + takenI l t := by unfold takenI; rw [List.map_cons, List.sum_cons]
theorem clips_cons (x : Lp) (l : List Lp) (t : Int) : clipsI (x :: l) t = clipI x.t t + clipsI l t := by unfold clipsI; rw [List.map_cons, List.sum_cons]
theorem flat_cons (x : Lp) (l : List Lp) (t : Int) : flatI (x :: l) t = clipI x.t t / 86400 + flatI l t := by unfold flatI; rw [List.map_cons, List.sum_cons]
/-- Ahead of all of their days nothing is over. -/
theorem clips_zero {l : List Lp} {t : Int} (h : ∀ y ∈ l, t ≤ y.t - halfI) : clipsI l t = 0 ∧ flatI l t = 0 := by
  induction l with
  | nil => exact ⟨rfl, rfl⟩
  | cons x l ih =>
    have a := ih fun y hy => h y (List.mem_cons_of_mem _ hy)
    have b := h x (List.mem_cons_self ..)
    have c : clipI x.t t = 0 := by unfold clipI; rw [if_pos b]
    rw [clips_cons, flat_cons, a.1, a.2, c]
    exact ⟨rfl, rfl⟩
theorem clips_nn (l : List Lp) (t : Int) : 0 ≤ clipsI l t := by
  induction l with
  | nil => exact Int.le_refl _
  | cons x l ih => rw [clips_cons]; have := (clip_in x.t t).1; omega
/-- Days don't meet: a whole number of parts, and one part alone. -/
theorem flat_is : ∀ {l : List Lp}, GapL l → ∀ t, flatI l t = clipsI l t / 86400
  | [], _, t => rfl
  | x :: l, h, t => by
    rw [clips_cons, flat_cons, flat_is h.tail t]
    by_cases c : t < x.t + halfI
    · have z := clips_zero (l := l) (t := t) fun y hy => by have := h.behind y hy; unfold dayI halfI at *; omega
      rw [z.1]
      simp
    · have e : clipI x.t t = dayI := by unfold clipI; rw [if_neg (by unfold halfI at *; omega), if_neg c]
      rw [e]
      unfold dayI
      omega
/-- Over a stretch no more of days is over than it is long. -/
theorem clips_step : ∀ {l : List Lp}, GapL l → ∀ {t u : Int}, t ≤ u → clipsI l t ≤ clipsI l u ∧ clipsI l u - clipsI l t ≤ u - t
  | [], _, t, u, h => by show (0 : Int) ≤ 0 ∧ (0 : Int) - 0 ≤ u - t; omega
  | x :: l, g, t, u, h => by
    rw [clips_cons, clips_cons]
    have m := clip_mono (a := x.t) h
    have bh := g.behind
    by_cases c : u < x.t + halfI
    · have z := clips_zero (l := l) (t := u) fun y hy => by have := bh y hy; unfold dayI halfI at *; omega
      have z' := clips_zero (l := l) (t := t) fun y hy => by have := bh y hy; unfold dayI halfI at *; omega
      rw [z.1, z'.1]
      omega
    · have eu : clipI x.t u = dayI := by unfold clipI; rw [if_neg (by unfold halfI at *; omega), if_neg c]
      by_cases d : t < x.t + halfI
      · have z' := clips_zero (l := l) (t := t) fun y hy => by have := bh y hy; unfold dayI halfI at *; omega
        have z := clips_zero (l := l) (t := x.t + halfI) fun y hy => by have := bh y hy; unfold dayI halfI at *; omega
        have ih := clips_step g.tail (t := x.t + halfI) (u := u) (by omega)
        have m' := clip_mono (a := x.t) (t := t) (u := x.t + halfI) (by omega)
        have ee : clipI x.t (x.t + halfI) = dayI := by unfold clipI; rw [if_neg (by unfold halfI; omega), if_neg (by omega)]
        rw [z.1] at ih
        rw [ee] at m'
        rw [z'.1, eu]
        omega
      · have et : clipI x.t t = dayI := by unfold clipI; rw [if_neg (by unfold halfI at *; omega), if_neg d]
        have ih := clips_step g.tail h
        rw [eu, et]
        omega
/-- What all have taken goes on by less than what is over does, an 86400th of it, and 1. -/
theorem taken_diff : ∀ (l : List Lp) {t u : Int}, t ≤ u → -(flatI l u - flatI l t) ≤ takenI l u - takenI l t ∧ takenI l u - takenI l t ≤ flatI l u - flatI l t
  | [], t, u, _ => by show -((0 : Int) - 0) ≤ (0 : Int) - 0 ∧ (0 : Int) - 0 ≤ (0 : Int) - 0; omega
  | x :: l, t, u, h => by
    have ih := taken_diff l h
    rw [taken_cons, taken_cons, flat_cons, flat_cons, one_clip, one_clip]
    have m := (clip_mono (a := x.t) h).1
    have q : clipI x.t t / 86400 ≤ clipI x.t u / 86400 := Int.ediv_le_ediv (by decide) m
    rcases sg_one x with e | e
    · rw [e, Int.one_mul, Int.one_mul]; omega
    · rw [e, Int.neg_mul, Int.neg_mul, Int.one_mul, Int.one_mul]; omega
theorem taken_step {l : List Lp} (g : GapL l) {t u : Int} (h : t ≤ u) : -((u - t) / 86400 + 1) ≤ takenI l u - takenI l t ∧ takenI l u - takenI l t ≤ (u - t) / 86400 + 1 := by
  have a := taken_diff l h
  have b := clips_step g h
  rw [flat_is g, flat_is g] at a
  omega
def toI (l : List Lp) (t : Int) : Int := nearI t - takenI l (nearI t)
/-- Never back: one instant on it goes on by 0, 1 or 2. -/
theorem to_step {l : List Lp} (g : GapL l) {t u : Int} (h0 : 0 ≤ t) (h : t ≤ u) (h1 : u ≤ topI) : u - t - ((u - t) / 86400 + 1) ≤ toI l u - toI l t ∧ toI l u - toI l t ≤ u - t + ((u - t) / 86400 + 1) := by
  unfold toI
  rw [near_of (by omega) h1, near_of h0 (by omega)]
  have := taken_step g h
  omega
theorem to_mono {l : List Lp} (g : GapL l) {t u : Int} (h0 : 0 ≤ t) (h : t ≤ u) (h1 : u ≤ topI) : toI l t ≤ toI l u := by
  have := to_step g h0 h h1
  by_cases c : t = u
  · rw [c]; exact Int.le_refl _
  · omega
/-- Far ahead nothing is taken, far behind all is. -/
theorem taken_zero {l : List Lp} {t : Int} (h : ∀ y ∈ l, t ≤ y.t - halfI) : takenI l t = 0 := by
  induction l with
  | nil => rfl
  | cons x l ih =>
    rw [taken_cons, ih fun y hy => h y (List.mem_cons_of_mem _ hy)]
    unfold oneI
    rw [if_pos (h x (List.mem_cons_self ..))]
    rfl
def sumI (l : List Lp) : Int := (l.map fun x => sgI x * 1000000000).sum
theorem taken_all {l : List Lp} {t : Int} (h : ∀ y ∈ l, y.t + halfI ≤ t) : takenI l t = sumI l := by
  induction l with
  | nil => rfl
  | cons x l ih =>
    have b := h x (List.mem_cons_self ..)
    rw [taken_cons, ih fun y hy => h y (List.mem_cons_of_mem _ hy), one_clip]
    have e : clipI x.t t = dayI := by unfold clipI; rw [if_neg (by unfold halfI at *; omega), if_neg (by omega)]
    rw [e, show dayI / 86400 = 1000000000 by decide]
    unfold sumI
    rw [List.map_cons, List.sum_cons]
/-- Out of all days: what is taken stays. -/
theorem taken_out {l : List Lp} {t u : Int} (h : t ≤ u) (o : ∀ y ∈ l, y.t + halfI ≤ t ∨ u ≤ y.t - halfI) : takenI l u = takenI l t := by
  induction l with
  | nil => rfl
  | cons x l ih =>
    rw [taken_cons, taken_cons, ih fun y hy => o y (List.mem_cons_of_mem _ hy), one_clip, one_clip]
    have e : clipI x.t u = clipI x.t t := by
      unfold clipI
      rcases o x (List.mem_cons_self ..) with c | c
      · rw [if_neg (by unfold halfI at *; omega), if_neg (by omega), if_neg (by unfold halfI at *; omega), if_neg (by omega)]
      · rw [if_pos c, if_pos (by omega)]
    rw [e]
/-- Bounds. -/
theorem one_bound (x : Lp) (t : Int) : -1000000000 ≤ oneI x t ∧ oneI x t ≤ 1000000000 := by
  rw [one_clip]
  have a := clip_in x.t t
  have b : 0 ≤ clipI x.t t / 86400 := Int.ediv_nonneg a.1 (by decide)
  have c : clipI x.t t / 86400 ≤ 1000000000 := by unfold dayI at a; omega
  rcases sg_one x with e | e
  · rw [e, Int.one_mul]; omega
  · rw [e, Int.neg_mul, Int.one_mul]; omega
theorem taken_bound (l : List Lp) (t : Int) : -(l.length * 1000000000) ≤ takenI l t ∧ takenI l t ≤ l.length * 1000000000 := by
  induction l with
  | nil => show -((0 : Int) * _) ≤ (0 : Int) ∧ (0 : Int) ≤ (0 : Int) * _; omega
  | cons x l ih =>
    rw [taken_cons, List.length_cons]
    have := one_bound x t
    rw [Int.natCast_succ, Int.add_mul]
    omega
/-- The other way round. -/
def turnL (x : Lp) : Lp := ⟨x.t, -x.k⟩
theorem taken_turn {l : List Lp} (hk : ∀ y ∈ l, y.k = 1 ∨ y.k = -1) (t : Int) : takenI (l.map turnL) t = -takenI l t := by
  induction l with
  | nil => rfl
  | cons x l ih =>
    rw [List.map_cons, taken_cons, taken_cons, ih fun y hy => hk y (List.mem_cons_of_mem _ hy), one_clip, one_clip]
    have s : sgI (turnL x) = -sgI x := by
      unfold sgI turnL
      rcases hk x (List.mem_cons_self ..) with e | e
      · rw [e]; rfl
      · rw [e]; rfl
    rw [s, Int.neg_mul]
    show -(sgI x * (clipI x.t t / 86400)) + _ = _
    omega
end Go.Proofs.Ytpfbdpoileepoaa.SmM

