/- TimersOrder, in plain lists: timers of other instants, in whatever order they were added. -/
import Derived.Test.YtbfmmeapjfljbaaTmS
set_option maxRecDepth 100000
namespace Go.Proofs.Ytbfmmeapjfljbaa
open Go.ChangeShapes Go.WideShapes Go.ChangeAt Go.RowKit Go.Maps HeapM

/-- Is it an odd one? -/
def oddN (a : Nat) : Bool := decide (a % 2 = 1)
/-- Timers that fire once, of these instants, each in its kind. -/
structure OrdS (s : TS) (A : List Nat) : Prop where
  mem : ∀ k, ∀ v : Int, (∃ x ∈ s.l k, x.t = v) ↔ ∃ a ∈ A, (a : Int) = v ∧ oddN a = k
  one : ∀ k, ∀ x ∈ s.l k, ∀ y ∈ s.l k, x.t = y.t → x = y
  ev : ∀ d, s.ev d = 0
  len : (s.l false).length + (s.l true).length = A.length
  ad : s.ad = A.length
  ca : s.ca ≤ 3 * A.length
/-- The same, beside one that is being set. -/
structure MidS (s : TS) (A : List Nat) (d : Nat) (k0 : Bool) (t0 : Int) (u : Nat) : Prop where
  it : ∃ z ∈ s.l k0, z.id = d ∧ z.t = t0
  mem : ∀ k, ∀ v : Int, (∃ x ∈ s.l k, x.id ≠ d ∧ x.t = v) ↔ ∃ a ∈ A, (a : Int) = v ∧ oddN a = k
  one : ∀ k, ∀ x ∈ s.l k, ∀ y ∈ s.l k, x.id ≠ d → y.id ≠ d → x.t = y.t → x = y
  ev : ∀ d, s.ev d = 0
  len : (s.l false).length + (s.l true).length = A.length + 1
  ad : s.ad = A.length + 1
  ca : s.ca ≤ 3 * A.length + u
theorem ord_zero : OrdS noT [] := by
  refine ⟨fun k v => ⟨fun ⟨x, hx, _⟩ => (by cases hx), fun ⟨a, ha, _⟩ => (by cases ha)⟩, fun k x (hx : x ∈ []) => (by cases hx), fun _ => rfl, rfl, rfl, Nat.le_refl _⟩
theorem len_upd {s : TS} {k : Bool} {m : List It} {n : Nat} (h : m.length = (s.l k).length + n) : (updB s.l k m false).length + (updB s.l k m true).length = (s.l false).length + (s.l true).length + n := by
  cases k
  · rw [updB_same, show updB s.l false m true = s.l true from updB_other s.l false m]; omega
  · rw [updB_same, show updB s.l true m false = s.l false from updB_other s.l true m]; omega
theorem OrdS.add {s : TS} {A : List Nat} (h : OrdS s A) (o : s.Ok) (k : Bool) (a : Int) : MidS (addS s k a 0) A (A.length + 1) k a 1 := by
  have same : (addS s k a 0).l k = pushL (s.l k) ⟨s.ad + 1, s.ca + 1, a⟩ := updB_same _ _ _
  have other : (addS s k a 0).l (!k) = s.l (!k) := updB_other _ _ _
  have new : ∀ j, ∀ x ∈ s.l j, x.id ≠ A.length + 1 := fun j x hx => by have := (o.ids j x hx).2.1; have := h.ad; omega
  have mm : ∀ j x, (x ∈ (addS s k a 0).l j ∧ x.id ≠ A.length + 1) ↔ x ∈ s.l j := fun j x => by
    rcases (kinds (j := j) (k := k)) with rfl | rfl
    · rw [same, mem_push]
      constructor
      · rintro ⟨rfl | e, f⟩
        · exact absurd (by show s.ad + 1 = A.length + 1; rw [h.ad]) f
        · exact e
      · exact fun e => ⟨.inr e, new _ _ e⟩
    · rw [other]
      exact ⟨fun e => e.1, fun e => ⟨e, new _ _ e⟩⟩
  refine ⟨⟨⟨s.ad + 1, s.ca + 1, a⟩, by rw [same, mem_push]; exact .inl rfl, by show s.ad + 1 = _; rw [h.ad], rfl⟩, fun j v => ?_, fun j x hx y hy h1 h2 => h.one j x ((mm j x).1 ⟨hx, h1⟩) y ((mm j y).1 ⟨hy, h2⟩), fun d => ?_, ?_, by show s.ad + 1 = _; rw [h.ad], by show s.ca + 1 ≤ _; have := h.ca; omega⟩
  · rw [← h.mem j v]
    constructor
    · rintro ⟨x, hx, e1, e2⟩
      exact ⟨x, (mm j x).1 ⟨hx, e1⟩, e2⟩
    · rintro ⟨x, hx, e2⟩
      exact ⟨x, ((mm j x).2 hx).1, ((mm j x).2 hx).2, e2⟩
  · show updN s.ev (s.ad + 1) 0 d = 0
    by_cases c : d = s.ad + 1
    · rw [c, updN_same]
    · rw [updN_other _ c]; exact h.ev d
  · have := len_upd (s := s) (k := k) (m := pushL (s.l k) ⟨s.ad + 1, s.ca + 1, a⟩) (n := 1) (push_len _ _)
    rw [h.len] at this
    exact this
theorem MidS.place {s : TS} {A : List Nat} {d u : Nat} {k0 : Bool} {t0 : Int} (h : MidS s A d k0 t0 u) : ∃ j, HeapM.place (s.l k0) d = some j := by
  cases c : HeapM.place (s.l k0) d with
  | some j => exact ⟨j, rfl⟩
  | none =>
    obtain ⟨z, hz, e, -⟩ := h.it
    obtain ⟨i, hi, rfl⟩ := mem_gt hz
    exact absurd e (place_none c hi)
theorem MidS.reset {s : TS} {A : List Nat} {d j u : Nat} {k0 : Bool} {t0 : Int} (h : MidS s A d k0 t0 u) (o : s.Ok) (hp : HeapM.place (s.l k0) d = some j) (t1 : Int) : MidS (resS s k0 j d t1 0) A d k0 t1 (u + 1) := by
  obtain ⟨hj, hd⟩ := place_some hp
  have same : (resS s k0 j d t1 0).l k0 = setL (s.l k0) j ⟨d, s.ca + 1, t1⟩ := updB_same _ _ _
  have other : (resS s k0 j d t1 0).l (!k0) = s.l (!k0) := updB_other _ _ _
  have ms := fun y => mem_setL (x := ⟨d, s.ca + 1, t1⟩) (y := y) (o.nod k0) hj hd
  have mm : ∀ i x, (x ∈ (resS s k0 j d t1 0).l i ∧ x.id ≠ d) ↔ (x ∈ s.l i ∧ x.id ≠ d) := fun i x => by
    rcases (kinds (j := i) (k := k0)) with rfl | rfl
    · rw [same, ms]
      constructor
      · rintro ⟨rfl | e, f⟩
        · exact absurd rfl f
        · exact e
      · exact fun e => ⟨.inr e, e.2⟩
    · rw [other]
  refine ⟨⟨⟨d, s.ca + 1, t1⟩, by rw [same, ms]; exact .inl rfl, rfl, rfl⟩, fun i v => ?_, fun i x hx y hy h1 h2 => h.one i x ((mm i x).1 ⟨hx, h1⟩).1 y ((mm i y).1 ⟨hy, h2⟩).1 h1 h2, fun f => ?_, ?_, h.ad, by show s.ca + 1 ≤ _; have := h.ca; omega⟩
  · rw [← h.mem i v]
    constructor
    · rintro ⟨x, hx, e1, e2⟩
      exact ⟨x, ((mm i x).1 ⟨hx, e1⟩).1, e1, e2⟩
    · rintro ⟨x, hx, e1, e2⟩
      exact ⟨x, ((mm i x).2 ⟨hx, e1⟩).1, e1, e2⟩
  · show updN s.ev d 0 f = 0
    by_cases c : f = d
    · rw [c, updN_same]
    · rw [updN_other _ c]; exact h.ev f
  · have := len_upd (s := s) (k := k0) (m := setL (s.l k0) j ⟨d, s.ca + 1, t1⟩) (n := 0) (set_len _ hj)
    rw [h.len] at this
    exact this
theorem MidS.done {s : TS} {A : List Nat} {d a u : Nat} (h : MidS s A d (oddN a) (a : Int) u) (o : s.Ok) (hu : u ≤ 3) (na : a ∉ A) : OrdS s (A ++ [a]) := by
  obtain ⟨z, hz, zd, zt⟩ := h.it
  have only : ∀ k, ∀ x ∈ s.l k, x.id = d → k = oddN a ∧ x = z := fun k x hx e => by
    rcases (kinds (j := k) (k := oddN a)) with rfl | rfl
    · refine ⟨rfl, ?_⟩
      obtain ⟨i, hi, rfl⟩ := mem_gt hx
      obtain ⟨i', hi', rfl⟩ := mem_gt hz
      rw [(o.nod (oddN a)).one hi hi' (by rw [e, zd])]
    · exact absurd (show z.id = x.id by rw [e, zd]) (o.far (oddN a) z hz x hx)
  have nz : ∀ k, ∀ x ∈ s.l k, x.id ≠ d → k = oddN a → x.t ≠ (a : Int) := fun k x hx e hk et => by
    obtain ⟨b, hb, e1, -⟩ := (h.mem k (a : Int)).1 ⟨x, hx, e, et⟩
    have : b = a := by omega
    exact na (by rw [← this]; exact hb)
  refine ⟨fun k v => ?_, fun k x hx y hy e => ?_, h.ev, by rw [h.len]; simp, by rw [h.ad]; simp, by have := h.ca; simp; omega⟩
  · constructor
    · rintro ⟨x, hx, rfl⟩
      by_cases c : x.id = d
      · obtain ⟨e1, e2⟩ := only k x hx c
        exact ⟨a, by simp, by rw [e2, zt], e1.symm⟩
      · obtain ⟨b, hb, e1, e2⟩ := (h.mem k x.t).1 ⟨x, hx, c, rfl⟩
        exact ⟨b, List.mem_append_left _ hb, e1, e2⟩
    · rintro ⟨b, hb, e1, e2⟩
      rcases List.mem_append.1 hb with hb | hb
      · obtain ⟨x, hx, -, e3⟩ := (h.mem k v).2 ⟨b, hb, e1, e2⟩
        exact ⟨x, hx, e3⟩
      · rw [List.mem_singleton] at hb
        subst hb
        subst e2
        exact ⟨z, hz, by rw [zt, e1]⟩
  · by_cases c1 : x.id = d
    · obtain ⟨e1, e2⟩ := only k x hx c1
      by_cases c2 : y.id = d
      · rw [e2, (only k y hy c2).2]
      · exact absurd (by rw [← e, e2, zt]) (nz k y hy c2 e1)
    · by_cases c2 : y.id = d
      · obtain ⟨e1, e2⟩ := only k y hy c2
        exact absurd (by rw [e, e2, zt]) (nz k x hx c1 e1)
      · exact h.one k x hx y hy c1 c2 e

/-! ### All fire -/
theorem nodup_le' : ∀ {l m : List It}, l.Nodup → (∀ x ∈ l, x ∈ m) → l.length ≤ m.length
  | [], _, _, _ => Nat.zero_le _
  | a :: l, m, h, s => by
    rw [List.nodup_cons] at h
    have ha := s a (List.mem_cons_self ..)
    have e := nodup_le' (m := m.erase a) h.2 fun x hx => (List.mem_erase_of_ne (fun e => h.1 (by rw [← e]; exact hx))).2 (s x (List.mem_cons_of_mem _ hx))
    rw [List.length_erase_of_mem ha] at e
    have := List.length_pos_of_mem ha
    rw [List.length_cons]
    omega
theorem nod_nodup {l : List It} (h : Nod l) : l.Nodup := List.Pairwise.of_map It.id (fun a b (e : a.id ≠ b.id) (f : a = b) => e (by rw [f])) h
theorem fired_all {s : TS} {k : Bool} {now : Int} {ds m : List It} (f : FireD s k now ds m) (o : s.Ok) (ev : ∀ d, s.ev d = 0) (due : ∀ x ∈ s.l k, x.t ≤ now) : m = [] ∧ (∀ x, x ∈ ds ↔ x ∈ s.l k) ∧ ds.length = (s.l k).length := by
  have d : ∀ x, x ∈ ds ↔ x ∈ s.l k := fun x => (f.due x).trans ⟨fun e => e.1, fun e => ⟨e, due x e⟩⟩
  refine ⟨mem_none fun y hy => ?_, d, Nat.le_antisymm (nodup_le' (sorted_nodup f.sorted) fun x hx => (d x).1 hx) (nodup_le' (nod_nodup (o.nod k)) fun x hx => (d x).2 hx)⟩
  obtain ⟨a, b | ⟨x, hx, b⟩⟩ := (f.left y).1 hy
  · have := due y b; omega
  · rw [ev] at b
    unfold nextI at b
    rw [if_pos (.inl rfl)] at b
    cases b
theorem lt_one : ∀ {l m : List Int}, l.Pairwise (· < ·) → m.Pairwise (· < ·) → (∀ x, x ∈ l ↔ x ∈ m) → l = m
  | [], [], _, _, _ => rfl
  | [], b :: m, _, _, h => absurd ((h b).2 (List.mem_cons_self ..)) (by simp)
  | a :: l, [], _, _, h => absurd ((h a).1 (List.mem_cons_self ..)) (by simp)
  | a :: l, b :: m, hl, hm, h => by
    rw [List.pairwise_cons] at hl hm
    have e : a = b := by
      rcases List.mem_cons.1 ((h a).1 (List.mem_cons_self ..)) with e | e
      · exact e
      · rcases List.mem_cons.1 ((h b).2 (List.mem_cons_self ..)) with f | f
        · exact f.symm
        · have p := hm.1 a e
          have q := hl.1 b f
          omega
    subst e
    rw [lt_one hl.2 hm.2 fun x => ?_]
    have hx := h x
    rw [List.mem_cons, List.mem_cons] at hx
    constructor
    · intro g
      rcases hx.1 (.inr g) with e | e
      · subst e; have := hl.1 x g; omega
      · exact e
    · intro g
      rcases hx.2 (.inr g) with e | e
      · subst e; have := hm.1 x g; omega
      · exact e
theorem sorted_t {ds l : List It} (h : ds.Pairwise (fun a b => ahd a b = true)) (sub : ∀ x ∈ ds, x ∈ l) (one : ∀ x ∈ l, ∀ y ∈ l, x.t = y.t → x = y) : (ds.map It.t).Pairwise (· < ·) := by
  rw [List.pairwise_map]
  refine h.imp_of_mem fun {a b} ha hb e => ?_
  rw [ahd_iff] at e
  rcases e with e | ⟨e, f⟩
  · exact e
  · have := one a (sub a ha) b (sub b hb) e
    subst this
    omega
/-- What a kind's firing tells hangs on the instants alone. -/
theorem same_t {s s' : TS} {A A' : List Nat} (h : OrdS s A) (h' : OrdS s' A') (k : Bool) (hA : ∀ a, a ∈ A ↔ a ∈ A') {ds ds' : List It} (d : ds.Pairwise (fun a b => ahd a b = true)) (d' : ds'.Pairwise (fun a b => ahd a b = true)) (m : ∀ x, x ∈ ds ↔ x ∈ s.l k) (m' : ∀ x, x ∈ ds' ↔ x ∈ s'.l k) : ds.map It.t = ds'.map It.t := by
  refine lt_one (sorted_t d (fun x => (m x).1) (h.one k)) (sorted_t d' (fun x => (m' x).1) (h'.one k)) fun v => ?_
  have a : v ∈ ds.map It.t ↔ ∃ x ∈ s.l k, x.t = v := by
    rw [List.mem_map]
    exact ⟨fun ⟨x, hx, e⟩ => ⟨x, (m x).1 hx, e⟩, fun ⟨x, hx, e⟩ => ⟨x, (m x).2 hx, e⟩⟩
  have b : v ∈ ds'.map It.t ↔ ∃ x ∈ s'.l k, x.t = v := by
    rw [List.mem_map]
    exact ⟨fun ⟨x, hx, e⟩ => ⟨x, (m' x).1 hx, e⟩, fun ⟨x, hx, e⟩ => ⟨x, (m' x).2 hx, e⟩⟩
  rw [a, b, h.mem, h'.mem]
  exact ⟨fun ⟨x, hx, e⟩ => ⟨x, (hA x).1 hx, e⟩, fun ⟨x, hx, e⟩ => ⟨x, (hA x).2 hx, e⟩⟩
/-- Of one that fires once, what is told hangs on its kind and its instant. -/
def onceF (k : Bool) (now t : Int) (d : Nat) : FdT := ⟨d, ⟨k, t, 0⟩, now - t, 0⟩
theorem fire_once {s : TS} (ev : ∀ d, s.ev d = 0) (k : Bool) (now : Int) (x : It) : fireS s k now x = onceF k now x.t x.id := by
  unfold fireS fireI onceF misI
  rw [ev, if_neg (by decide)]
end Go.Proofs.Ytbfmmeapjfljbaa
