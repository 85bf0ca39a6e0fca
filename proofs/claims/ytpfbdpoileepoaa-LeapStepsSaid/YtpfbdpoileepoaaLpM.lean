/- Layer 16 (leap), work ahead: offsets, labels, what is said, in plain lists and numbers: one label. No Go in sight. -/
import Derived.Test.YtpfbdpoileepoaaSmO
set_option maxRecDepth 100000
namespace Go.Proofs.Ytpfbdpoileepoaa
open SmM

/-- How many seconds were taken behind an instant and up to another; how many leaps. -/
def sumB (l : List Lp) (a b : Int) : Int := (l.map fun y => if a < y.t ∧ y.t ≤ b then y.k else 0).sum
def cntB (l : List Lp) (a b : Int) : Int := (l.map fun y => if a < y.t ∧ y.t ≤ b then (1 : Int) else 0).sum
/-- The seconds of all leaps that are not behind an instant. -/
def kindsI (l : List Lp) (t : Int) : Int := (l.map fun y => if y.t ≤ t then y.k else 0).sum
def offI (l : List Lp) (b t : Int) : Int := b + kindsI l t
def labI (l : List Lp) (b t : Int) : Int := t - offI l b t * 1000000000
def insX (t : Int) (y : Lp) : Bool := decide (y.k = 1) && (decide (y.t ≤ t) && decide (t < y.t + 1000000000))
def insB (l : List Lp) (t : Int) : Bool := l.any (insX t)
theorem kinds_cons (x : Lp) (l : List Lp) (t : Int) : kindsI (x :: l) t = (if x.t ≤ t then x.k else 0) + kindsI l t := by unfold kindsI; rw [List.map_cons, List.sum_cons]
theorem sumB_cons (x : Lp) (l : List Lp) (a b : Int) : sumB (x :: l) a b = (if a < x.t ∧ x.t ≤ b then x.k else 0) + sumB l a b := by unfold sumB; rw [List.map_cons, List.sum_cons]
theorem cntB_cons (x : Lp) (l : List Lp) (a b : Int) : cntB (x :: l) a b = (if a < x.t ∧ x.t ≤ b then 1 else 0) + cntB l a b := by unfold cntB; rw [List.map_cons, List.sum_cons]
theorem kinds_diff (l : List Lp) {a b : Int} (h : a ≤ b) : kindsI l b - kindsI l a = sumB l a b := by
  induction l with
  | nil => rfl
  | cons x l ih =>
    rw [kinds_cons, kinds_cons, sumB_cons, ← ih]
    by_cases c : x.t ≤ a
    · rw [if_pos (by omega), if_pos c, if_neg (by omega)]; omega
    · by_cases d : x.t ≤ b
      · rw [if_pos d, if_neg c, if_pos (by omega)]; omega
      · rw [if_neg d, if_neg c, if_neg (by omega)]; omega
theorem kinds_bound {l : List Lp} (hk : ∀ y ∈ l, y.k = 1 ∨ y.k = -1) (t : Int) : -(l.length : Int) ≤ kindsI l t ∧ kindsI l t ≤ l.length := by
  induction l with
  | nil => exact ⟨Int.le_refl _, Int.le_refl _⟩
  | cons x l ih =>
    rw [kinds_cons, List.length_cons]
    have := ih fun y hy => hk y (List.mem_cons_of_mem _ hy)
    have := hk x (List.mem_cons_self ..)
    split <;> omega
/-- The first of those between, and how far the others are. -/
theorem first_between : ∀ {l : List Lp}, GapL l → (∀ y ∈ l, y.k = 1 ∨ y.k = -1) → ∀ (a b : Int), (cntB l a b = 0 ∧ sumB l a b = 0 ∧ ∀ z ∈ l, ¬ (a < z.t ∧ z.t ≤ b)) ∨
    (1 ≤ cntB l a b ∧ sumB l a b ≤ cntB l a b ∧ ∃ y ∈ l, a < y.t ∧ y.t ≤ b ∧ (cntB l a b - 1) * 172800000000000 ≤ b - y.t ∧ (cntB l a b = 1 → sumB l a b = y.k))
  | [], _, _, _, _ => .inl ⟨rfl, rfl, fun z hz => by cases hz⟩
  | x :: l, g, hk, a, b => by
    have kx := hk x (List.mem_cons_self ..)
    have bh := g.behind
    rw [cntB_cons, sumB_cons]
    rcases first_between g.tail (fun y hy => hk y (List.mem_cons_of_mem _ hy)) a b with ⟨c0, s0, n0⟩ | ⟨c1, sc, y, hy, y1, y2, y3, y4⟩
    · by_cases c : a < x.t ∧ x.t ≤ b
      · rw [if_pos c, if_pos c, c0, s0]
        exact .inr ⟨by omega, by omega, x, List.mem_cons_self .., c.1, c.2, by omega, fun _ => by omega⟩
      · rw [if_neg c, if_neg c, c0, s0]
        refine .inl ⟨rfl, rfl, fun z hz => ?_⟩
        rcases List.mem_cons.1 hz with rfl | hz
        · exact c
        · exact n0 z hz
    · have xy := bh y hy
      unfold dayI at xy
      by_cases c : a < x.t ∧ x.t ≤ b
      · rw [if_pos c, if_pos c]
        exact .inr ⟨by omega, by omega, x, List.mem_cons_self .., c.1, c.2, by omega, fun e => by omega⟩
      · rw [if_neg c, if_neg c, Int.zero_add, Int.zero_add]
        exact .inr ⟨c1, sc, y, List.mem_cons_of_mem _ hy, y1, y2, y3, y4⟩
theorem ins_iff (l : List Lp) (t : Int) : insB l t = true ↔ ∃ y ∈ l, y.k = 1 ∧ y.t ≤ t ∧ t < y.t + 1000000000 := by
  unfold insB insX
  rw [List.any_eq_true]
  constructor
  · rintro ⟨y, hy, h⟩
    simp only [Bool.and_eq_true, decide_eq_true_eq] at h
    exact ⟨y, hy, h⟩
  · rintro ⟨y, hy, h⟩
    exact ⟨y, hy, by simp only [Bool.and_eq_true, decide_eq_true_eq]; exact h⟩
/-- Two leaps are far apart. -/
theorem far_apart : ∀ {l : List Lp}, GapL l → ∀ {y z : Lp}, y ∈ l → z ∈ l → y.t < z.t → y.t + 172800000000000 ≤ z.t
  | [], _, _, _, h, _, _ => by cases h
  | x :: l, g, y, z, hy, hz, h => by
    have bh := g.behind
    unfold dayI at bh
    rcases List.mem_cons.1 hy with e | hy'
    · rcases List.mem_cons.1 hz with e' | hz'
      · rw [e, e'] at h; omega
      · have := bh z hz'; rw [e]; omega
    · rcases List.mem_cons.1 hz with e' | hz'
      · have := bh y hy'; rw [e'] at h; omega
      · exact far_apart g.tail hy' hz' h
/-- ONE LABEL: of two that are both inserted, or both not, the later one has the greater label. -/
theorem lab_lt {l : List Lp} (ok : OkL l) (base : Int) {a b : Int} (h : a < b) (e : insB l a = insB l b) : labI l base a < labI l base b := by
  have g := ok.2
  have hk : ∀ y ∈ l, y.k = 1 ∨ y.k = -1 := fun y hy => (ok.1 y hy).2.2
  have d := kinds_diff l (show a ≤ b by omega)
  unfold labI offI
  rcases first_between g hk a b with ⟨-, s0, -⟩ | ⟨c1, sc, y, hy, y1, y2, y3, y4⟩
  · omega
  · by_cases c : cntB l a b = 1
    · have s := y4 c
      rcases hk y hy with k | k
      · by_cases q : y.t + 1000000000 ≤ b
        · omega
        · have ib : insB l b = true := (ins_iff l b).2 ⟨y, hy, k, y2, by omega⟩
          rw [ib] at e
          obtain ⟨z, hz, -, z1, z2⟩ := (ins_iff l a).1 e
          have := far_apart g hz hy (by omega)
          omega
      · omega
    · omega
theorem lab_inj {l : List Lp} (ok : OkL l) (base : Int) {a b : Int} (e : insB l a = insB l b) (h : labI l base a = labI l base b) : a = b := by
  rcases Int.lt_trichotomy a b with c | c | c
  · have := lab_lt ok base c e; omega
  · exact c
  · have := lab_lt ok base c e.symm; omega
/-- What Even tells. -/
def EvenP (l : List Lp) (base p : Int) (i : Bool) (t : Int) (b : Bool) : Prop :=
  (b = true ∧ 0 ≤ t ∧ t ≤ topI ∧ labI l base t = p ∧ insB l t = i ∧ ∀ u, 0 ≤ u → u < t → ¬ (labI l base u = p ∧ insB l u = i)) ∨ (b = false ∧ t = 0 ∧ ∀ u, 0 ≤ u → u ≤ topI → ¬ (labI l base u = p ∧ insB l u = i))
theorem even_one {l : List Lp} {base p : Int} {i : Bool} {t t' : Int} {b b' : Bool} (h : EvenP l base p i t b) (h' : EvenP l base p i t' b') : t = t' ∧ b = b' := by
  rcases h with ⟨rfl, a0, a1, a2, a3, a4⟩ | ⟨rfl, rfl, a⟩ <;> rcases h' with ⟨rfl, b0, b1, b2, b3, b4⟩ | ⟨rfl, rfl, b⟩
  · rcases Int.lt_trichotomy t t' with c | c | c
    · exact absurd ⟨a2, a3⟩ (b4 t a0 c)
    · exact ⟨c, rfl⟩
    · exact absurd ⟨b2, b3⟩ (a4 t' b0 c)
  · exact absurd ⟨a2, a3⟩ (b t a0 a1)
  · exact absurd ⟨b2, b3⟩ (a t' b0 b1)
  · exact ⟨rfl, rfl⟩
/-- Even of what Label tells. -/
theorem even_lab {l : List Lp} (ok : OkL l) {base u t : Int} {b : Bool} (h0 : 0 ≤ u) (h1 : u ≤ topI) (h : EvenP l base (labI l base u) (insB l u) t b) : b = true ∧ t = u := by
  rcases h with ⟨rfl, -, -, a2, a3, -⟩ | ⟨-, -, a⟩
  · exact ⟨rfl, lab_inj ok base a3 a2⟩
  · exact absurd ⟨rfl, rfl⟩ (a u h0 h1)
/-- The first leap behind an instant; what is said. -/
def nextI (l : List Lp) (t : Int) : Option Lp := l.find? fun y => decide (t < y.t)
def bitsO (t : Int) : Option Lp → Nat
  | none => 0
  | some y => if t < y.t - dayI then 0 else if y.k = 1 then 1 else 2
def bitsI (l : List Lp) (e t : Int) : Nat := if e ≤ t then 3 else bitsO t (nextI l t)
end Go.Proofs.Ytpfbdpoileepoaa
