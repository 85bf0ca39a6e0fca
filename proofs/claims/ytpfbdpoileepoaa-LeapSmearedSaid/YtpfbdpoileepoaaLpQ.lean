/- Layer 16 (leap), work ahead: the offset and the smeared time, in plain numbers. No Go in sight. -/
import Derived.Test.YtpfbdpoileepoaaLpN
set_option maxRecDepth 100000
namespace Go.Proofs.Ytpfbdpoileepoaa
open SmM

/-- How far a leap's second and what it has taken are apart. -/
def cutI (y : Lp) (t : Int) : Int := (if y.t ≤ t then y.k else 0) * 1000000000 - oneI y t
theorem cut_in {y : Lp} (hk : y.k = 1 ∨ y.k = -1) (t : Int) : -500000000 ≤ cutI y t ∧ cutI y t ≤ 500000000 := by
  unfold cutI
  rw [one_clip, sg_k hk]
  unfold clipI halfI dayI
  rcases hk with e | e <;> rw [e] <;> split <;> split <;> (try split) <;> omega
theorem cut_out {y : Lp} (hk : y.k = 1 ∨ y.k = -1) {t : Int} (h : dayB y t = false) : cutI y t = 0 := by
  unfold dayB at h
  rw [Bool.and_eq_false_iff, decide_eq_false_iff_not, decide_eq_false_iff_not] at h
  unfold cutI
  rw [one_clip, sg_k hk]
  unfold clipI
  unfold halfI dayI at *
  rcases hk with e | e <;> rw [e] <;> split <;> split <;> (try split) <;> omega
def cutsI (l : List Lp) (t : Int) : Int := kindsI l t * 1000000000 - takenI l t
theorem cuts_cons (x : Lp) (l : List Lp) (t : Int) : cutsI (x :: l) t = cutI x t + cutsI l t := by
  unfold cutsI cutI
  rw [kinds_cons, taken_cons, Int.add_mul]
  omega
theorem cuts_out {l : List Lp} (hk : ∀ y ∈ l, y.k = 1 ∨ y.k = -1) {t : Int} (h : ∀ y ∈ l, dayB y t = false) : cutsI l t = 0 := by
  induction l with
  | nil => rfl
  | cons x l ih =>
    rw [cuts_cons, cut_out (hk x (List.mem_cons_self ..)) (h x (List.mem_cons_self ..)), ih (fun y hy => hk y (List.mem_cons_of_mem _ hy)) fun y hy => h y (List.mem_cons_of_mem _ hy)]
    rfl
theorem cuts_in : ∀ {l : List Lp}, GapL l → (∀ y ∈ l, y.k = 1 ∨ y.k = -1) → ∀ (t : Int), -500000000 ≤ cutsI l t ∧ cutsI l t ≤ 500000000
  | [], _, _, t => by show -500000000 ≤ (0 : Int) ∧ (0 : Int) ≤ 500000000; omega
  | x :: l, g, hk, t => by
    have bh := g.behind
    have kx := hk x (List.mem_cons_self ..)
    have kl : ∀ y ∈ l, y.k = 1 ∨ y.k = -1 := fun y hy => hk y (List.mem_cons_of_mem _ hy)
    rw [cuts_cons]
    cases d : dayB x t
    · rw [cut_out kx d, Int.zero_add]
      exact cuts_in g.tail kl t
    · have o : ∀ y ∈ l, dayB y t = false := fun y hy => by
        have := bh y hy
        unfold dayB at d ⊢
        rw [Bool.and_eq_true, decide_eq_true_eq, decide_eq_true_eq] at d
        rw [Bool.and_eq_false_iff]
        left
        apply decide_eq_false
        unfold halfI dayI at *
        omega
      rw [cuts_out kl o, Int.add_zero]
      exact cut_in kx t
theorem within_no {l : List Lp} {t : Int} (h : withinI l t = -1) : ∀ y ∈ l, dayB y t = false := by
  unfold withinI at h
  split at h
  · omega
  · rename_i e
    intro y hy
    have := List.findIdx?_eq_none_iff.1 e y hy
    simpa using this
end Go.Proofs.Ytpfbdpoileepoaa
