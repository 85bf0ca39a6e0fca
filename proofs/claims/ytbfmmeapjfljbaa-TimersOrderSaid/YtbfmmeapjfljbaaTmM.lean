/- Layer 14 (timers): timers of both kinds in plain lists: what fires, in which order, and what is left. No Go in sight. -/
import Derived.Test.YtbfmmeapjfljbaaHeapN
namespace Go.Proofs.Ytbfmmeapjfljbaa.HeapM

/-- A timer. -/
structure Tr where
  ab : Bool
  at_ : Int
  ev : Int
/-- What fired. -/
structure FdT where
  id : Nat
  t : Tr
  late : Int
  mis : Int

def topT : Int := 4611686018427387904
/-- May a timer be? -/
def mayT (a e : Int) : Bool := decide (0 ≤ a) && decide (a ≤ topT) && (decide (0 ≤ e) && decide (e ≤ topT))
/-- How many of its times it missed. -/
def misI (e now : Int) (x : It) : Int := if 0 < e then (now - x.t) / e else 0
def fireI (k : Bool) (e now : Int) (x : It) : FdT := ⟨x.id, ⟨k, x.t, e⟩, now - x.t, misI e now x⟩
/-- As what it goes on; none, if it is gone. -/
def nextI (e now : Int) (x : It) : Option It := if e = 0 ∨ topT - (x.t + misI e now x * e) < e then none else some ⟨x.id, x.seq, x.t + misI e now x * e + e⟩
theorem mis_mul {e now : Int} {x : It} (h0 : 0 ≤ e) (hx : x.t ≤ now) : 0 ≤ misI e now x ∧ 0 ≤ misI e now x * e ∧ x.t + misI e now x * e ≤ now ∧ (0 < e → now < x.t + misI e now x * e + e) := by
  unfold misI
  by_cases h : 0 < e
  · rw [if_pos h]
    have a := Int.mul_ediv_add_emod (now - x.t) e
    have b := Int.emod_nonneg (now - x.t) (show e ≠ 0 by omega)
    have c := Int.emod_lt_of_pos (now - x.t) h
    have d : 0 ≤ (now - x.t) / e := Int.ediv_nonneg (by omega) h0
    rw [Int.mul_comm] at a
    have f := Int.mul_nonneg d h0
    exact ⟨d, f, by omega, fun _ => by omega⟩
  · rw [if_neg h]
    exact ⟨Int.le_refl _, by omega, by omega, fun g => absurd g h⟩
theorem next_some {e now : Int} {x y : It} (h0 : 0 ≤ e) (hx : x.t ≤ now) (h : nextI e now x = some y) : y.id = x.id ∧ y.seq = x.seq ∧ now < y.t ∧ y.t ≤ topT ∧ x.t ≤ y.t := by
  unfold nextI at h
  have m := mis_mul h0 hx
  by_cases g : e = 0 ∨ topT - (x.t + misI e now x * e) < e
  · rw [if_pos g] at h; cases h
  · rw [if_neg g] at h
    injection h with h
    subst h
    have g1 : e ≠ 0 := fun z => g (.inl z)
    have g2 : ¬ topT - (x.t + misI e now x * e) < e := fun z => g (.inr z)
    have := m.2.2.2 (by omega)
    exact ⟨rfl, rfl, this, by show x.t + misI e now x * e + e ≤ topT; omega, by show x.t ≤ x.t + misI e now x * e + e; omega⟩

/-- Timers: the items of both kinds (true: absolute), each one's Every, how many were added, and set. -/
structure TS where
  l : Bool → List It
  ev : Nat → Int
  ad : Nat
  ca : Nat
def updB {α : Type} (f : Bool → α) (k : Bool) (a : α) : Bool → α := fun j => if j = k then a else f j
theorem updB_same {α : Type} (f : Bool → α) (k : Bool) (a : α) : updB f k a k = a := if_pos rfl
theorem updB_other {α : Type} (f : Bool → α) (k : Bool) (a : α) : updB f k a (!k) = f (!k) := if_neg (by cases k <;> decide)
theorem updB_self {α : Type} (f : Bool → α) (k : Bool) : updB f k (f k) = f := by
  funext j
  unfold updB
  by_cases h : j = k
  · rw [if_pos h, h]
  · rw [if_neg h]
theorem updB_updB {α : Type} (f : Bool → α) (k : Bool) (a b : α) : updB (updB f k a) k b = updB f k b := by
  funext j
  unfold updB
  by_cases h : j = k
  · rw [if_pos h, if_pos h]
  · rw [if_neg h, if_neg h, if_neg h]
def updN (f : Nat → Int) (d : Nat) (e : Int) : Nat → Int := fun j => if j = d then e else f j
theorem updN_self (f : Nat → Int) (d : Nat) : updN f d (f d) = f := by
  funext j
  unfold updN
  by_cases h : j = d
  · rw [if_pos h, h]
  · rw [if_neg h]
theorem updN_same (f : Nat → Int) (d : Nat) (e : Int) : updN f d e d = e := if_pos rfl
theorem updN_other {f : Nat → Int} {d j : Nat} (e : Int) (h : j ≠ d) : updN f d e j = f j := if_neg h

structure TS.Ok (s : TS) : Prop where
  nod : ∀ k, Nod (s.l k)
  far : ∀ k, ∀ x ∈ s.l k, ∀ y ∈ s.l (!k), x.id ≠ y.id
  heap : ∀ k, Heap (s.l k)
  tim : ∀ k, ∀ x ∈ s.l k, 0 ≤ x.t ∧ x.t ≤ topT
  evs : ∀ d, 0 ≤ s.ev d ∧ s.ev d ≤ topT
  ids : ∀ k, ∀ x ∈ s.l k, 1 ≤ x.id ∧ x.id ≤ s.ad ∧ x.seq ≤ s.ca
  many : (s.l false).length + (s.l true).length ≤ 256
  small : s.ad < 18446744073709551616 ∧ s.ca < 18446744073709551616
theorem TS.Ok.len {s : TS} (h : s.Ok) (k : Bool) : (s.l k).length ≤ 256 := by
  have := h.many
  cases k <;> omega
theorem TS.Ok.lens {s : TS} (h : s.Ok) (k : Bool) : (s.l k).length + (s.l (!k)).length ≤ 256 := by
  have := h.many
  cases k
  · exact this
  · show (s.l true).length + (s.l false).length ≤ 256; omega
/-- No timers yet. -/
def noT : TS := ⟨fun _ => [], fun _ => 0, 0, 0⟩
theorem noT_ok : noT.Ok := ⟨fun _ => List.nodup_nil, fun _ x (hx : x ∈ []) => (by cases hx), fun _ => Heap.nil, fun _ x (hx : x ∈ []) => (by cases hx), fun _ => ⟨show (0 : Int) ≤ 0 by decide, show (0 : Int) ≤ topT by decide⟩, fun _ x (hx : x ∈ []) => (by cases hx), by decide, ⟨by decide, by decide⟩⟩

/-- One kind's items become others. -/
def TS.putL (s : TS) (k : Bool) (m : List It) : TS := ⟨updB s.l k m, s.ev, s.ad, s.ca⟩
theorem putL_same (s : TS) (k : Bool) (m : List It) : (s.putL k m).l k = m := updB_same _ _ _
theorem putL_other (s : TS) (k : Bool) (m : List It) : (s.putL k m).l (!k) = s.l (!k) := updB_other _ _ _
theorem putL_self (s : TS) (k : Bool) : s.putL k (s.l k) = s := by unfold TS.putL; rw [updB_self]
theorem putL_putL (s : TS) (k : Bool) (a b : List It) : (s.putL k a).putL k b = s.putL k b := by unfold TS.putL; rw [updB_updB]
theorem Ok_put {s : TS} (h : s.Ok) (k : Bool) (m : List It) (ev : Nat → Int) (ad ca : Nat) (nm : Nod m) (hm : Heap m) (tm : ∀ x ∈ m, 0 ≤ x.t ∧ x.t ≤ topT) (fm : ∀ x ∈ m, ∀ y ∈ s.l (!k), x.id ≠ y.id) (im : ∀ x ∈ m, 1 ≤ x.id ∧ x.id ≤ ad ∧ x.seq ≤ ca)
    (em : ∀ d, 0 ≤ ev d ∧ ev d ≤ topT) (lm : m.length + (s.l (!k)).length ≤ 256) (ha : s.ad ≤ ad) (hc : s.ca ≤ ca) (sm : ad < 18446744073709551616 ∧ ca < 18446744073709551616) : (⟨updB s.l k m, ev, ad, ca⟩ : TS).Ok := by
  have same := updB_same s.l k m
  have other := updB_other s.l k m
  refine ⟨fun j => ?_, fun j x hx y hy => ?_, fun j => ?_, fun j x hx => ?_, em, fun j x hx => ?_, ?_, sm⟩
  · rcases (show j = k ∨ j = !k by cases j <;> cases k <;> simp) with rfl | rfl
    · show Nod (updB s.l j m j); rw [same]; exact nm
    · show Nod (updB s.l k m (!k)); rw [other]; exact h.nod _
  · rcases (show j = k ∨ j = !k by cases j <;> cases k <;> simp) with rfl | rfl
    · have hx' : x ∈ m := by rw [← same]; exact hx
      have hy' : y ∈ s.l (!j) := by rw [← other]; exact hy
      exact fm x hx' y hy'
    · have hx' : x ∈ s.l (!k) := by rw [← other]; exact hx
      have hy' : y ∈ m := by rw [← same]; rw [Bool.not_not] at hy; exact hy
      exact fun e => fm y hy' x hx' e.symm
  · rcases (show j = k ∨ j = !k by cases j <;> cases k <;> simp) with rfl | rfl
    · show Heap (updB s.l j m j); rw [same]; exact hm
    · show Heap (updB s.l k m (!k)); rw [other]; exact h.heap _
  · rcases (show j = k ∨ j = !k by cases j <;> cases k <;> simp) with rfl | rfl
    · exact tm x (by rw [← same]; exact hx)
    · exact h.tim (!k) x (by rw [← other]; exact hx)
  · rcases (show j = k ∨ j = !k by cases j <;> cases k <;> simp) with rfl | rfl
    · exact im x (by rw [← same]; exact hx)
    · have := h.ids (!k) x (by rw [← other]; exact hx)
      exact ⟨this.1, Nat.le_trans this.2.1 ha, Nat.le_trans this.2.2 hc⟩
  · show (updB s.l k m false).length + (updB s.l k m true).length ≤ 256
    cases k
    · rw [same, show updB s.l false m true = s.l true from other]; exact lm
    · rw [same, show updB s.l true m false = s.l false from other]; have : m.length + (s.l false).length ≤ 256 := lm; omega

/-! ### One fires -/
/-- What is left of a kind, behind its first one fired. -/
def stepL (e now : Int) (m : List It) : List It := match nextI e now (gt m 0) with
  | some y => setL m 0 y
  | none => remL m 0
theorem mem_step {e now : Int} {m : List It} (n : Nod m) (h0 : 0 < m.length) (he : 0 ≤ e) (hd : (gt m 0).t ≤ now) {y : It} : y ∈ stepL e now m ↔ nextI e now (gt m 0) = some y ∨ (y ∈ m ∧ y.id ≠ (gt m 0).id) := by
  unfold stepL
  cases c : nextI e now (gt m 0) with
  | none =>
    dsimp only
    rw [mem_rem n h0]
    simp
  | some z =>
    have f := next_some he hd c
    dsimp only
    rw [mem_setL n h0 f.1.symm, f.1]
    simp only [Option.some.injEq]
    exact or_congr ⟨fun h => h.symm, fun h => h.symm⟩ Iff.rfl
theorem step_ok {s : TS} {k : Bool} {now : Int} (h : s.Ok) (h0 : 0 < (s.l k).length) (hd : (gt (s.l k) 0).t ≤ now) : (s.putL k (stepL (s.ev (gt (s.l k) 0).id) now (s.l k))).Ok := by
  have he := h.evs (gt (s.l k) 0).id
  have M := fun y => mem_step (y := y) (h.nod k) h0 he.1 hd
  have g0 := gt_mem h0
  unfold TS.putL
  refine Ok_put h k _ _ _ _ ?_ ?_ (fun x hx => ?_) (fun x hx y hy => ?_) (fun x hx => ?_) h.evs ?_ (Nat.le_refl _) (Nat.le_refl _) h.small
  · unfold stepL
    cases c : nextI _ now (gt (s.l k) 0) with
    | none => exact rem_nod (h.nod k) h0
    | some z => exact set_nod (h.nod k) h0 (next_some he.1 hd c).1.symm
  · unfold stepL
    cases c : nextI _ now (gt (s.l k) 0) with
    | none => exact rem_heap 0 (h.heap k)
    | some z => exact set_heap _ h0 (h.heap k)
  · rcases (M x).1 hx with c | ⟨c, -⟩
    · have f := next_some he.1 hd c
      have g := h.tim k _ g0
      exact ⟨by omega, f.2.2.2.1⟩
    · exact h.tim k x c
  · rcases (M x).1 hx with c | ⟨c, -⟩
    · rw [(next_some he.1 hd c).1]; exact h.far k _ g0 y hy
    · exact h.far k x c y hy
  · rcases (M x).1 hx with c | ⟨c, -⟩
    · have f := next_some he.1 hd c
      rw [f.1, f.2.1]; exact h.ids k _ g0
    · exact h.ids k x c
  · have := h.lens k
    unfold stepL
    cases c : nextI _ now (gt (s.l k) 0) with
    | none => dsimp only; rw [rem_len h0]; omega
    | some z => dsimp only; rw [set_len _ h0]; exact this

/-! ### All that are due fire -/
/-- While a kind fires: ds have, m are left. -/
structure FireR (s : TS) (k : Bool) (now : Int) (ds m : List It) : Prop where
  ok : (s.putL k m).Ok
  sorted : ds.Pairwise (fun a b => ahd a b = true)
  due : ∀ x, (x ∈ s.l k ∧ x.t ≤ now) ↔ (x ∈ ds ∨ (x ∈ m ∧ x.t ≤ now))
  ahead : ∀ x ∈ ds, ∀ y ∈ m, y.t ≤ now → ahd x y = true
  late : ∀ y : It, now < y.t → (y ∈ m ↔ (y ∈ s.l k ∨ ∃ x ∈ ds, nextI (s.ev x.id) now x = some y))
theorem fire_start {s : TS} (k : Bool) (now : Int) (h : s.Ok) : FireR s k now [] (s.l k) :=
  ⟨by rw [putL_self]; exact h, List.Pairwise.nil, fun x => (by simp), fun x (hx : x ∈ []) => (by cases hx), fun y _ => (by simp)⟩
theorem FireR.in_all {s : TS} {k : Bool} {now : Int} {ds m : List It} (h : FireR s k now ds m) {x : It} (hx : x ∈ ds) : x ∈ s.l k ∧ x.t ≤ now := (h.due x).2 (.inl hx)
theorem FireR.step {s : TS} {k : Bool} {now : Int} {ds m : List It} (h : FireR s k now ds m) (h0 : 0 < m.length) (hd : (gt m 0).t ≤ now) : FireR s k now (ds ++ [gt m 0]) (stepL (s.ev (gt m 0).id) now m) := by
  have e1 := putL_same s k m
  have OK := h.ok
  have nm : Nod m := by rw [← e1]; exact OK.nod k
  have hm : Heap m := by rw [← e1]; exact OK.heap k
  have he : 0 ≤ s.ev (gt m 0).id := (OK.evs (gt m 0).id).1
  have M := fun y => mem_step (y := y) nm h0 he hd
  have g0 := gt_mem h0
  refine ⟨?_, ?_, fun x => ?_, fun x hx y hy hl => ?_, fun y hl => ?_⟩
  · have st := step_ok (k := k) (now := now) OK (by rw [e1]; exact h0) (by rw [e1]; exact hd)
    rw [e1] at st
    rw [putL_putL] at st
    exact st
  · rw [List.pairwise_append]
    refine ⟨h.sorted, List.pairwise_singleton _ _, fun a ha b hb => ?_⟩
    rw [List.mem_singleton] at hb
    subst hb
    exact h.ahead a ha _ g0 hd
  · rw [h.due, List.mem_append, List.mem_singleton, M]
    constructor
    · rintro (a | ⟨a, b⟩)
      · exact .inl (.inl a)
      · by_cases c : x.id = (gt m 0).id
        · have : x = gt m 0 := by
            obtain ⟨j, hj, rfl⟩ := mem_gt a
            rw [nm.one hj h0 c]
          exact .inl (.inr this)
        · exact .inr ⟨.inr ⟨a, c⟩, b⟩
    · rintro ((a | a) | ⟨a | ⟨a, -⟩, b⟩)
      · exact .inl a
      · subst a; exact .inr ⟨g0, hd⟩
      · have := (next_some he hd a).2.2.1; omega
      · exact .inr ⟨a, b⟩
  · have hy' : y ∈ m ∧ y.id ≠ (gt m 0).id := by
      rcases (M y).1 hy with a | a
      · have := (next_some he hd a).2.2.1; omega
      · exact a
    rcases List.mem_append.1 hx with a | a
    · exact h.ahead x a y hy'.1 hl
    · rw [List.mem_singleton] at a
      subst a
      exact hm.ahead hy'.1 (fun e => hy'.2 (by rw [e]))
  · rw [M]
    constructor
    · rintro (a | ⟨a, -⟩)
      · exact .inr ⟨gt m 0, by simp, a⟩
      · rcases (h.late y hl).1 a with b | ⟨x, b, c⟩
        · exact .inl b
        · exact .inr ⟨x, List.mem_append_left _ b, c⟩
    · intro a
      have b : y ∈ m ∨ nextI (s.ev (gt m 0).id) now (gt m 0) = some y := by
        rcases a with a | ⟨x, b, c⟩
        · exact .inl ((h.late y hl).2 (.inl a))
        · rcases List.mem_append.1 b with b | b
          · exact .inl ((h.late y hl).2 (.inr ⟨x, b, c⟩))
          · rw [List.mem_singleton] at b
            subst b
            exact .inr c
      rcases b with b | b
      · by_cases c : y.id = (gt m 0).id
        · have : y = gt m 0 := by
            obtain ⟨j, hj, rfl⟩ := mem_gt b
            rw [nm.one hj h0 c]
          rw [this] at hl
          omega
        · exact .inr ⟨b, c⟩
      · exact .inl b
/-- How many are due: fewer by one. -/
def dueN (now : Int) (m : List It) : Nat := m.countP (fun x => decide (x.t ≤ now))
theorem due_step {e now : Int} {m : List It} (h0 : 0 < m.length) (he : 0 ≤ e) (hd : (gt m 0).t ≤ now) : dueN now (stepL e now m) + 1 = dueN now m := by
  unfold dueN stepL
  cases c : nextI e now (gt m 0) with
  | none =>
    dsimp only
    have p := (rem_perm h0).countP_eq (fun x => decide (x.t ≤ now))
    rw [List.countP_cons, if_pos (by simpa using hd)] at p
    exact p
  | some z =>
    have f := next_some he hd c
    dsimp only
    rw [(set_perm' z h0).countP_eq]
    have p := (set_cons_perm z h0).countP_eq (fun x => decide (x.t ≤ now))
    rw [List.countP_cons, List.countP_cons, if_pos (by simpa using hd), if_neg (by simp; omega)] at p
    omega
/-- All that are due have fired. -/
structure FireD (s : TS) (k : Bool) (now : Int) (ds m : List It) : Prop where
  ok : (s.putL k m).Ok
  sorted : ds.Pairwise (fun a b => ahd a b = true)
  due : ∀ x, x ∈ ds ↔ (x ∈ s.l k ∧ x.t ≤ now)
  left : ∀ y, y ∈ m ↔ (now < y.t ∧ (y ∈ s.l k ∨ ∃ x ∈ ds, nextI (s.ev x.id) now x = some y))
theorem FireR.done {s : TS} {k : Bool} {now : Int} {ds m : List It} (h : FireR s k now ds m) (hd : m.length = 0 ∨ now < (gt m 0).t) : FireD s k now ds m := by
  have e1 := putL_same s k m
  have hm : Heap m := by rw [← e1]; exact h.ok.heap k
  have late : ∀ y ∈ m, now < y.t := fun y hy => by
    rcases hd with e | e
    · rw [List.eq_nil_of_length_eq_zero e] at hy; cases hy
    · have := hm.least hy
      rw [nah_iff] at this
      omega
  refine ⟨h.ok, h.sorted, fun x => ?_, fun y => ⟨fun hy => ⟨late y hy, (h.late y (late y hy)).1 hy⟩, fun ⟨a, b⟩ => (h.late y a).2 b⟩⟩
  rw [h.due]
  constructor
  · exact .inl
  · rintro (a | ⟨a, b⟩)
    · exact a
    · have := late x a; omega

/-! ### Rows in order -/
theorem sorted_nodup {l : List It} (h : l.Pairwise (fun a b => ahd a b = true)) : l.Nodup := h.imp (fun {a b} e f => by subst f; rw [ahd_irrefl] at e; cases e)
/-- Rows of the same items, both in order. -/
theorem sorted_one : ∀ {l m : List It}, l.Pairwise (fun a b => ahd a b = true) → m.Pairwise (fun a b => ahd a b = true) → (∀ x, x ∈ l ↔ x ∈ m) → l = m
  | [], [], _, _, _ => rfl
  | [], b :: m, _, _, h => absurd ((h b).2 (List.mem_cons_self ..)) (by simp)
  | a :: l, [], _, _, h => absurd ((h a).1 (List.mem_cons_self ..)) (by simp)
  | a :: l, b :: m, hl, hm, h => by
    rw [List.pairwise_cons] at hl hm
    have e : a = b := by
      rcases List.mem_cons.1 ((h a).1 (List.mem_cons_self ..)) with e | e
      · exact e
      · rcases List.mem_cons.1 ((h b).2 (List.mem_cons_self ..)) with f | f
        · exact f.symm
        · have p := hm.1 a e
          have q := ahd_asymm (hl.1 b f)
          rw [p] at q
          cases q
    subst e
    have na : ∀ {r : List It}, (∀ y ∈ r, ahd a y = true) → a ∉ r := fun hr ha => by have := hr a ha; rw [ahd_irrefl] at this; cases this
    rw [sorted_one hl.2 hm.2 fun x => ?_]
    have hx := h x
    rw [List.mem_cons, List.mem_cons] at hx
    constructor
    · intro g
      rcases hx.1 (.inr g) with e | e
      · subst e; exact absurd g (na hl.1)
      · exact e
    · intro g
      rcases hx.2 (.inr g) with e | e
      · subst e; exact absurd g (na hm.1)
      · exact e
end Go.Proofs.Ytbfmmeapjfljbaa.HeapM
