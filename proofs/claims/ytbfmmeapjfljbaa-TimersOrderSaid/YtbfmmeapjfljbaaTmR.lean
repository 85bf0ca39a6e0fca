/- TimersSeq, in plain lists: timers of one instant, one of them set again. -/
import Derived.Test.YtbfmmeapjfljbaaTmN
set_option maxRecDepth 100000
namespace Go.Proofs.Ytbfmmeapjfljbaa
open Go.ChangeShapes Go.WideShapes Go.ChangeAt Go.RowKit Go.Maps HeapM

/-- While they are added: i of them, of the kind k. -/
structure AddSt (k : Bool) (e : Int) (i : Nat) (s : TS) : Prop where
  mem : ∀ x, x ∈ s.l k ↔ ∃ d : Nat, 1 ≤ d ∧ d ≤ i ∧ x = ⟨d, d, 50⟩
  other : s.l (!k) = []
  len : (s.l k).length = i
  ev : ∀ d : Nat, 1 ≤ d → d ≤ i → s.ev d = e
  ad : s.ad = i
  ca : s.ca = i
theorem add_zero (k : Bool) (e : Int) : AddSt k e 0 noT := by
  refine ⟨fun x => ⟨fun (h : x ∈ []) => (by cases h), fun ⟨d, h1, h2, _⟩ => (by omega)⟩, rfl, rfl, fun d h1 h2 => (by omega), rfl, rfl⟩
theorem AddSt.lens {k : Bool} {e : Int} {i : Nat} {s : TS} (h : AddSt k e i s) : (s.l false).length + (s.l true).length = i := by
  have a := h.len
  have b := h.other
  cases k
  · rw [a, show s.l true = [] from b]; rfl
  · rw [a, show s.l false = [] from b]; exact Nat.zero_add _
theorem AddSt.next {k : Bool} {e : Int} {i : Nat} {s : TS} (h : AddSt k e i s) : AddSt k e (i + 1) (addS s k 50 e) := by
  have same : (addS s k 50 e).l k = pushL (s.l k) ⟨s.ad + 1, s.ca + 1, 50⟩ := updB_same _ _ _
  have other : (addS s k 50 e).l (!k) = s.l (!k) := updB_other _ _ _
  refine ⟨fun x => ?_, by rw [other]; exact h.other, by rw [same, push_len, h.len], fun d h1 h2 => ?_, by show s.ad + 1 = i + 1; rw [h.ad], by show s.ca + 1 = i + 1; rw [h.ca]⟩
  · rw [same, mem_push, h.mem, h.ad, h.ca]
    constructor
    · rintro (rfl | ⟨d, h1, h2, rfl⟩)
      · exact ⟨i + 1, by omega, Nat.le_refl _, rfl⟩
      · exact ⟨d, h1, by omega, rfl⟩
    · rintro ⟨d, h1, h2, rfl⟩
      by_cases c : d = i + 1
      · subst c; exact .inl rfl
      · exact .inr ⟨d, h1, by omega, rfl⟩
  · show updN s.ev (s.ad + 1) e d = e
    rw [h.ad]
    by_cases c : d = i + 1
    · rw [c, updN_same]
    · rw [updN_other _ c]; exact h.ev d h1 (by omega)

/-- In which order they come: the one that was set last is the last one. -/
def idAt (kk n i : Nat) : Nat := if i + 1 = n then kk else if i + 1 < kk then i + 1 else i + 2
def itAt (kk n : Nat) (t : Int) (i : Nat) : It := ⟨idAt kk n i, if i + 1 = n then n + 1 else idAt kk n i, t⟩
def expL (kk n : Nat) (t : Int) : List It := (List.range n).map (itAt kk n t)
theorem exp_len (kk n : Nat) (t : Int) : (expL kk n t).length = n := by unfold expL; simp
theorem exp_get {kk n i : Nat} {t : Int} (h : i < n) : (expL kk n t)[i]? = some (itAt kk n t i) := by
  unfold expL
  rw [List.getElem?_map, List.getElem?_range h]
  rfl
theorem exp_sorted {kk n : Nat} {t : Int} : (expL kk n t).Pairwise (fun a b => ahd a b = true) := by
  unfold expL
  rw [List.pairwise_map]
  refine List.Pairwise.imp_of_mem (fun {a b} ha hb hab => ?_) List.pairwise_lt_range
  rw [List.mem_range] at ha hb
  rw [ahd_iff]
  right
  refine ⟨rfl, .inl ?_⟩
  unfold itAt idAt
  dsimp only
  rw [if_neg (show ¬ a + 1 = n by omega), if_neg (show ¬ a + 1 = n by omega)]
  by_cases c : b + 1 = n
  · rw [if_pos c]; split <;> omega
  · rw [if_neg c, if_neg c]; split <;> split <;> omega
theorem exp_mem {kk n : Nat} {t : Int} (h1 : 1 ≤ kk) (h2 : kk ≤ n) (x : It) : x ∈ expL kk n t ↔ x = ⟨kk, n + 1, t⟩ ∨ ∃ d : Nat, d ≠ kk ∧ 1 ≤ d ∧ d ≤ n ∧ x = ⟨d, d, t⟩ := by
  unfold expL
  rw [List.mem_map]
  constructor
  · rintro ⟨i, hi, rfl⟩
    rw [List.mem_range] at hi
    unfold itAt idAt
    by_cases c : i + 1 = n
    · rw [if_pos c, if_pos c]; exact .inl rfl
    · rw [if_neg c, if_neg c]
      right
      by_cases d : i + 1 < kk
      · rw [if_pos d]; exact ⟨i + 1, by omega, by omega, by omega, rfl⟩
      · rw [if_neg d]; exact ⟨i + 2, by omega, by omega, by omega, rfl⟩
  · rintro (rfl | ⟨d, hd, d1, d2, rfl⟩)
    · refine ⟨n - 1, by rw [List.mem_range]; omega, ?_⟩
      unfold itAt idAt
      rw [if_pos (by omega), if_pos (by omega)]
    · by_cases c : d < kk
      · refine ⟨d - 1, by rw [List.mem_range]; omega, ?_⟩
        unfold itAt idAt
        rw [if_neg (by omega), if_pos (by omega), if_neg (by omega), show d - 1 + 1 = d by omega]
      · refine ⟨d - 2, by rw [List.mem_range]; omega, ?_⟩
        unfold itAt idAt
        rw [if_neg (by omega), if_neg (by omega), if_neg (by omega), show d - 2 + 2 = d by omega]

/-- All of them at the instant t. -/
structure SeqSt (k : Bool) (e : Int) (kk n : Nat) (t : Int) (s : TS) : Prop where
  mem : ∀ x, x ∈ s.l k ↔ x ∈ expL kk n t
  other : s.l (!k) = []
  len : (s.l k).length ≤ n
  ev : ∀ d : Nat, 1 ≤ d → d ≤ n → s.ev d = e
  ad : s.ad = n
  ca : s.ca = n + 1
/-- None is left. -/
structure EmpSt (k : Bool) (n : Nat) (s : TS) : Prop where
  mem : s.l k = []
  other : s.l (!k) = []
  ad : s.ad = n
  ca : s.ca = n + 1
theorem AddSt.place {k : Bool} {e : Int} {n kk : Nat} {s : TS} (h : AddSt k e n s) (h1 : 1 ≤ kk) (h2 : kk ≤ n) : ∃ j, place (s.l k) kk = some j := by
  cases c : HeapM.place (s.l k) kk with
  | some j => exact ⟨j, rfl⟩
  | none =>
    obtain ⟨i, hi, e⟩ := mem_gt ((h.mem ⟨kk, kk, 50⟩).2 ⟨kk, h1, h2, rfl⟩)
    exact absurd (by rw [e]) (place_none c hi)
theorem AddSt.reset {k : Bool} {e : Int} {n kk j : Nat} {s : TS} (h : AddSt k e n s) (o : s.Ok) (h1 : 1 ≤ kk) (h2 : kk ≤ n) (hp : HeapM.place (s.l k) kk = some j) : SeqSt k e kk n 50 (resS s k j kk 50 e) := by
  obtain ⟨hj, hd⟩ := place_some hp
  have same : (resS s k j kk 50 e).l k = setL (s.l k) j ⟨kk, s.ca + 1, 50⟩ := updB_same _ _ _
  have other : (resS s k j kk 50 e).l (!k) = s.l (!k) := updB_other _ _ _
  refine ⟨fun x => ?_, by rw [other]; exact h.other, by rw [same, set_len _ hj, h.len]; exact Nat.le_refl _, fun d d1 d2 => ?_, h.ad, by show s.ca + 1 = n + 1; rw [h.ca]⟩
  · rw [same, mem_setL (o.nod k) hj hd, exp_mem h1 h2, h.ca]
    refine or_congr Iff.rfl ⟨fun ⟨a, b⟩ => ?_, fun ⟨d, d0, d1, d2, e⟩ => ?_⟩
    · obtain ⟨d, d1, d2, rfl⟩ := (h.mem x).1 a
      exact ⟨d, b, d1, d2, rfl⟩
    · subst e
      exact ⟨(h.mem _).2 ⟨d, d1, d2, rfl⟩, d0⟩
  · show updN s.ev kk e d = e
    by_cases c : d = kk
    · rw [c, updN_same]
    · rw [updN_other _ c]; exact h.ev d d1 d2

theorem nodup_le : ∀ {l m : List Nat}, l.Nodup → (∀ x ∈ l, x ∈ m) → l.length ≤ m.length
  | [], _, _, _ => Nat.zero_le _
  | a :: l, m, h, s => by
    rw [List.nodup_cons] at h
    have ha := s a (List.mem_cons_self ..)
    have e := nodup_le (m := m.erase a) h.2 fun x hx => (List.mem_erase_of_ne (fun e => h.1 (by rw [← e]; exact hx))).2 (s x (List.mem_cons_of_mem _ hx))
    rw [List.length_erase_of_mem ha] at e
    have := List.length_pos_of_mem ha
    rw [List.length_cons]
    omega
theorem next_none (t : Int) (d q : Nat) : nextI 0 t ⟨d, q, t⟩ = none := by unfold nextI; rw [if_pos (.inl rfl)]
theorem next_seven {t : Int} (h0 : 0 ≤ t) (h : t ≤ 1000) (d q : Nat) : nextI 7 t ⟨d, q, t⟩ = some ⟨d, q, t + 7⟩ := by
  have m : misI 7 t ⟨d, q, t⟩ = 0 := by
    unfold misI
    rw [if_pos (by decide)]
    show (t - t) / 7 = 0
    rw [Int.sub_self]
    rfl
  unfold nextI
  rw [m]
  dsimp only
  rw [if_neg (by unfold topT; omega)]
  simp
/-- All of them fire. -/
theorem SeqSt.fire {k : Bool} {e : Int} {kk n : Nat} {t : Int} {s : TS} {ds m : List It} (h : SeqSt k e kk n t s) (h1 : 1 ≤ kk) (h2 : kk ≤ n) (t0 : 0 ≤ t) (t1 : t ≤ 1000) (f : FireD s k t ds m) :
    ds = expL kk n t ∧ (e = 0 → m = []) ∧ (e = 7 → (∀ x, x ∈ m ↔ x ∈ expL kk n (t + 7)) ∧ m.length ≤ n) := by
  have tt : ∀ x ∈ expL kk n t, x.t = t := fun x hx => by
    rcases (exp_mem h1 h2 x).1 hx with rfl | ⟨d, -, -, -, rfl⟩ <;> rfl
  have ids : ∀ x ∈ expL kk n t, 1 ≤ x.id ∧ x.id ≤ n := fun x hx => by
    rcases (exp_mem h1 h2 x).1 hx with rfl | ⟨d, -, a, b, rfl⟩
    · exact ⟨h1, h2⟩
    · exact ⟨a, b⟩
  have d0 : ds = expL kk n t := by
    refine sorted_one f.sorted exp_sorted fun x => ?_
    rw [f.due, h.mem]
    exact ⟨fun a => a.1, fun a => ⟨a, by rw [tt x a]; exact Int.le_refl _⟩⟩
  have left : ∀ y, y ∈ m ↔ t < y.t ∧ ∃ x ∈ expL kk n t, nextI e t x = some y := fun y => by
    rw [f.left, d0]
    constructor
    · rintro ⟨a, b | ⟨x, b, c⟩⟩
      · have := tt y ((h.mem y).1 b); omega
      · rw [h.ev x.id (ids x b).1 (ids x b).2] at c; exact ⟨a, x, b, c⟩
    · rintro ⟨a, x, b, c⟩
      exact ⟨a, .inr ⟨x, b, by rw [h.ev x.id (ids x b).1 (ids x b).2]; exact c⟩⟩
  refine ⟨d0, fun e0 => mem_none fun y hy => ?_, fun e7 => ?_⟩
  · obtain ⟨-, x, hx, c⟩ := (left y).1 hy
    have := tt x hx
    obtain ⟨xi, xs, xt⟩ := x
    have : xt = t := this
    subst this
    rw [e0, next_none] at c
    cases c
  · have mm : ∀ x, x ∈ m ↔ x ∈ expL kk n (t + 7) := fun y => by
      rw [left, exp_mem h1 h2]
      constructor
      · rintro ⟨-, x, hx, c⟩
        rcases (exp_mem h1 h2 x).1 hx with rfl | ⟨d, q0, q1, q2, rfl⟩
        · rw [e7, next_seven t0 t1] at c
          injection c with c
          exact .inl c.symm
        · rw [e7, next_seven t0 t1] at c
          injection c with c
          exact .inr ⟨d, q0, q1, q2, c.symm⟩
      · rintro (rfl | ⟨d, q0, q1, q2, rfl⟩)
        · exact ⟨by show t < t + 7; omega, _, (exp_mem h1 h2 _).2 (.inl rfl), by rw [e7]; exact next_seven t0 t1 _ _⟩
        · exact ⟨by show t < t + 7; omega, _, (exp_mem h1 h2 _).2 (.inr ⟨d, q0, q1, q2, rfl⟩), by rw [e7]; exact next_seven t0 t1 _ _⟩
    refine ⟨mm, ?_⟩
    have nd : Nod m := by have := f.ok.nod k; rw [putL_same] at this; exact this
    have sub : ∀ x ∈ m.map It.id, x ∈ List.range' 1 n := fun x hx => by
      obtain ⟨y, hy, rfl⟩ := List.mem_map.1 hx
      rw [List.mem_range'_1]
      rcases (exp_mem h1 h2 y).1 ((mm y).1 hy) with rfl | ⟨d, -, a, b, rfl⟩
      · exact ⟨h1, by show kk < 1 + n; omega⟩
      · exact ⟨a, by show d < 1 + n; omega⟩
    have := nodup_le nd sub
    simpa using this
end Go.Proofs.Ytbfmmeapjfljbaa
