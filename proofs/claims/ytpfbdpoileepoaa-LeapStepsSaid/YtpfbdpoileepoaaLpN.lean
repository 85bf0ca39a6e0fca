/- Layer 16 (leap), work ahead: at a leap, in plain numbers. No Go in sight. -/
import Derived.Test.YtpfbdpoileepoaaLpM
import Derived.Test.YtpfbdpoileepoaaSmP
set_option maxRecDepth 100000
namespace Go.Proofs.Ytpfbdpoileepoaa
open SmM

def ksum (l : List Lp) : Int := (l.map fun y => y.k).sum
theorem kinds_all {l : List Lp} {t : Int} (h : ∀ y ∈ l, y.t ≤ t) : kindsI l t = ksum l := by
  unfold kindsI ksum
  congr 1
  exact List.map_congr_left fun y hy => if_pos (h y hy)
theorem kinds_zero {l : List Lp} {t : Int} (h : ∀ y ∈ l, t < y.t) : kindsI l t = 0 := by
  induction l with
  | nil => rfl
  | cons x l ih =>
    rw [kinds_cons, ih fun y hy => h y (List.mem_cons_of_mem _ hy), if_neg (by have := h x (List.mem_cons_self ..); omega)]
    rfl
theorem kinds_app (a b : List Lp) (t : Int) : kindsI (a ++ b) t = kindsI a t + kindsI b t := by
  unfold kindsI
  rw [List.map_append, List.sum_append]
theorem ksum_take {l : List Lp} {i : Nat} (h : i < l.length) : ksum (l.take (i + 1)) = ksum (l.take i) + (gl l i).k := by
  unfold ksum
  rw [List.take_succ_eq_append_getElem h, List.map_append, List.sum_append, List.map_cons, List.map_nil, List.sum_cons, List.sum_nil, Int.add_zero, gl_of h]
/-- All ahead of a place, all from it on. -/
theorem kinds_split {l : List Lp} {i : Nat} {t : Int} (a : ∀ j, j < i → j < l.length → (gl l j).t ≤ t) (b : ∀ j, i ≤ j → j < l.length → t < (gl l j).t) : kindsI l t = ksum (l.take i) := by
  have e : kindsI l t = kindsI (l.take i ++ l.drop i) t := by rw [List.take_append_drop]
  rw [e, kinds_app, kinds_all, kinds_zero, Int.add_zero]
  · intro y hy
    obtain ⟨j, hj, rfl⟩ := List.getElem_of_mem hy
    rw [List.length_drop] at hj
    rw [List.getElem_drop, ← gl_of (by omega)]
    exact b (i + j) (by omega) (by omega)
  · intro y hy
    obtain ⟨j, hj, rfl⟩ := List.getElem_of_mem hy
    rw [List.length_take] at hj
    rw [List.getElem_take, ← gl_of (by omega)]
    exact a j (by omega) (by omega)
def preO (l : List Lp) (b : Int) (i : Nat) : Int := b + ksum (l.take i)
/-- At a leap. -/
structure StepP (l : List Lp) (b : Int) (i : Nat) (x : Lp) : Prop where
  o1 : offI l b (x.t - 1) = preO l b i
  o2 : offI l b x.t = preO l b (i + 1)
  on : preO l b (i + 1) = preO l b i + x.k
  i1 : insB l x.t = decide (x.k = 1)
  l2 : labI l b (x.t + 1000000000) = labI l b x.t + 1000000000
  i2 : insB l (x.t + 1000000000) = false
  up : x.k = 1 → ∀ t c, EvenP l b (labI l b x.t) false t c → c = true ∧ t = x.t - 1000000000
  dn : x.k = -1 → ∀ t c, EvenP l b (labI l b x.t - 1) false t c → c = false ∧ t = 0
  nx : nextI l (x.t - 1) = some x
theorem step_of {l : List Lp} (ok : OkL l) (fa : FarL l) (b : Int) {i : Nat} (h : i < l.length) : StepP l b i (gl l i) := by
  have g := ok.2
  have x := fa _ (gl_mem h)
  have lo : ∀ j, j < i → (gl l j).t + 2 * dayI ≤ (gl l i).t := fun j hj => gap_any g hj h
  have hi : ∀ j, i < j → j < l.length → (gl l i).t + 2 * dayI ≤ (gl l j).t := fun j hj hl => gap_any g hj hl
  unfold dayI at lo hi x
  have k1 : kindsI l ((gl l i).t - 1) = ksum (l.take i) := kinds_split (fun j hj _ => by have := lo j hj; omega) (fun j hj hl => by
    by_cases e : j = i
    · rw [e]; omega
    · have := hi j (by omega) hl; omega)
  have k2 : ∀ z, 0 ≤ z → z ≤ 1000000000 → kindsI l ((gl l i).t + z) = ksum (l.take (i + 1)) := fun z z0 z1 => kinds_split (fun j hj _ => by
    by_cases e : j = i
    · rw [e]; omega
    · have := lo j (by omega); omega) (fun j hj hl => by have := hi j (by omega) hl; omega)
  have k20 := k2 0 (by omega) (by omega)
  rw [Int.add_zero] at k20
  have k2s := k2 1000000000 (by omega) (by omega)
  have km : kindsI l ((gl l i).t - 1000000000) = ksum (l.take i) := kinds_split (fun j hj _ => by have := lo j hj; omega) (fun j hj hl => by
    by_cases e : j = i
    · rw [e]; omega
    · have := hi j (by omega) hl; omega)
  have st := ksum_take h
  -- who is inserted near it
  have near : ∀ t, (gl l i).t - 1000000000 ≤ t → t ≤ (gl l i).t + 1000000000 → insB l t = true → (gl l i).k = 1 ∧ (gl l i).t ≤ t ∧ t < (gl l i).t + 1000000000 := fun t t0 t1 q => by
    obtain ⟨y, hy, yk, y0, y1⟩ := (ins_iff l t).1 q
    obtain ⟨j, hj, rfl⟩ := List.getElem_of_mem hy
    rw [← gl_of hj] at yk y0 y1
    rcases Nat.lt_trichotomy j i with c | c | c
    · have := lo j c; omega
    · rw [c] at yk y0 y1; exact ⟨yk, y0, y1⟩
    · have := hi j c hj; omega
  have no : ∀ t, (gl l i).t - 1000000000 ≤ t → t ≤ (gl l i).t + 1000000000 → ¬ ((gl l i).k = 1 ∧ (gl l i).t ≤ t ∧ t < (gl l i).t + 1000000000) → insB l t = false := fun t t0 t1 q => by
    cases e : insB l t
    · rfl
    · exact absurd (near t t0 t1 e) q
  have i2 := no ((gl l i).t + 1000000000) (by omega) (by omega) (by omega)
  refine ⟨by unfold offI preO; rw [k1], by unfold offI preO; rw [k20], by unfold preO; rw [st]; omega, ?_, ?_, i2, ?_, ?_, ?_⟩
  · by_cases k : (gl l i).k = 1
    · rw [decide_eq_true k]
      exact (ins_iff l _).2 ⟨_, gl_mem h, k, Int.le_refl _, by omega⟩
    · rw [decide_eq_false k]
      exact no _ (by omega) (by omega) fun q => k q.1
  · unfold labI offI
    rw [k2s, k20]
    omega
  · intro k t c e
    have im := no ((gl l i).t - 1000000000) (by omega) (by omega) (by omega)
    have lm : labI l b ((gl l i).t - 1000000000) = labI l b (gl l i).t := by
      unfold labI offI
      rw [km, k20, st, k]
      omega
    rw [← lm, ← im] at e
    exact even_lab ok (by omega) (by unfold topI; omega) e
  · intro k t c e
    rcases e with ⟨-, t0, t1, a2, a3, -⟩ | ⟨rfl, rfl, -⟩
    · exfalso
      have ia : insB l (gl l i).t = false := no _ (by omega) (by omega) (by omega)
      have ib : insB l ((gl l i).t - 1) = false := no _ (by omega) (by omega) (by omega)
      have lb : labI l b ((gl l i).t - 1) = labI l b (gl l i).t - 1000000001 := by
        unfold labI offI
        rw [k1, k20, st, k]
        omega
      rcases Int.lt_or_le t (gl l i).t with c | c
      · by_cases e : t = (gl l i).t - 1
        · rw [e] at a2; omega
        · have := lab_lt ok b (show t < (gl l i).t - 1 by omega) (a3.trans ib.symm); omega
      · by_cases e : t = (gl l i).t
        · rw [e] at a2; omega
        · have := lab_lt ok b (show (gl l i).t < t by omega) (ia.trans a3.symm); omega
    · exact ⟨rfl, rfl⟩
  · have fs : ∀ j, j < i → (gl l j).t ≤ (gl l i).t - 1 := fun j hj => by have := lo j hj; omega
    unfold nextI
    rw [List.find?_eq_some_iff_getElem]
    refine ⟨decide_eq_true (by omega), i, h, (gl_of h).symm, fun j hj => ?_⟩
    rw [← gl_of (by omega)]
    have := fs j hj
    simp
    omega
theorem step_end {l : List Lp} (fa : FarL l) (b : Int) : nextI l topI = none ∧ offI l b topI = preO l b l.length ∧ offI l b 0 = b := by
  refine ⟨?_, ?_, ?_⟩
  · unfold nextI
    rw [List.find?_eq_none]
    intro y hy
    have := fa y hy
    unfold topI
    simp
    omega
  · unfold offI preO
    rw [kinds_all fun y hy => by have := fa y hy; unfold topI; omega, List.take_length]
  · unfold offI
    rw [kinds_zero fun y hy => by have := fa y hy; unfold dayI at this; omega]
    omega
end Go.Proofs.Ytpfbdpoileepoaa
