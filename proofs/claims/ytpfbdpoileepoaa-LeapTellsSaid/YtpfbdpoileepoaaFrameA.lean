/- A parameter that is a slice of structs of two integers, opened: for every stage from 11 on. -/
import Derived.Test.YtpfbdpoileepoaaFrame
import Derived.Deep.SlicePairs
set_option maxRecDepth 100000
namespace Go.Proofs.Ytpfbdpoileepoaa
open Go.ChangeShapes Go.WideShapes Go.ChangeAt Go.RowKit Go.Joins Go.Deep

/-- Structs of two integers behind a slice. -/
structure HoldsA (k0 k1 : IntKind) (w : World) (p : Option Addr) (n c : Nat) (cs : List (Int × Int)) : Prop where
  len : cs.length = n
  cap : n ≤ c
  max : c ≤ maxLen
  cell : ∀ i, i < n → ∃ a, p = some a ∧ w.cell? (a.add (i * 2)) = some (.int k0 (cs.getD i (0, 0)).1) ∧ w.cell? (a.add (i * 2 + 1)) = some (.int k1 (cs.getD i (0, 0)).2)
  bare : p = none → c = 0
theorem HoldsA.below {k0 k1 : IntKind} {w w' : World} {p : Option Addr} {n c : Nat} {cs : List (Int × Int)} (h : HoldsA k0 k1 w p n c cs) (hb : Below w.heap.size w w') : HoldsA k0 k1 w' p n c cs := by
  refine ⟨h.len, h.cap, h.max, fun i hi => ?_, h.bare⟩
  obtain ⟨a, ha, c1, c2⟩ := h.cell i hi
  exact ⟨a, ha, (hb.cell (World.block_lt_of_cell? w _ c1)).trans c1, (hb.cell (World.block_lt_of_cell? w _ c2)).trans c2⟩
theorem addA_next (a : Addr) (x : Nat) : (⟨(a.add x).block, (a.add x).off + 1, none⟩ : Addr) = a.add (x + 1) := by
  unfold Addr.add
  by_cases h : x = 0
  · subst h; simp
  · rw [if_neg h, if_neg (by omega)]
    simp [Nat.add_assoc]
/-- One of them, with its second cell as the walk asks for it. -/
theorem HoldsA.at {k0 k1 : IntKind} {w : World} {p : Option Addr} {n c : Nat} {cs : List (Int × Int)} (h : HoldsA k0 k1 w p n c cs) {i : Nat} (hi : i < n) :
    ∃ a, p = some a ∧ w.cell? (a.add (i * 2)) = some (.int k0 (cs.getD i (0, 0)).1) ∧ w.cell? ⟨(a.add (i * 2)).block, (a.add (i * 2)).off + 1, none⟩ = some (.int k1 (cs.getD i (0, 0)).2) := by
  obtain ⟨a, ha, c1, c2⟩ := h.cell i hi
  exact ⟨a, ha, c1, by rw [addA_next]; exact c2⟩

section
variable {H : Type} {enc : TypeId × Value → H}

theorem choose_acts {n : Nat} {R : Nat → Int × Int → Prop} (h : ∀ i, i < n → ∃ q, R i q) : ∃ cs : List (Int × Int), cs.length = n ∧ ∀ i, i < n → R i (cs.getD i (0, 0)) := by
  induction n with
  | zero => exact ⟨[], rfl, fun i hi => absurd hi (by omega)⟩
  | succ m ih =>
    obtain ⟨cs, hl, hc⟩ := ih (fun i hi => h i (by omega))
    obtain ⟨q, hq⟩ := h m (by omega)
    refine ⟨cs ++ [q], by rw [List.length_append, hl]; rfl, fun i hi => ?_⟩
    rw [List.getD_eq_getElem?_getD]
    by_cases e : i < m
    · rw [List.getElem?_append_left (by omega), ← List.getD_eq_getElem?_getD]
      exact hc i e
    · obtain rfl : i = m := by omega
      rw [List.getElem?_append_right (by omega), hl, Nat.sub_self]
      exact hq

theorem read_acts {t e : TypeId} {f0 f1 : Field} {k0 k1 : IntKind} (ht : Try.prog.underlying t = some (.slice e)) (he : Try.prog.underlying e = some (.struct #[f0, f1])) (ce : Try.prog.cellsOf e = 2) (o0 : f0.offset = 0) (o1 : f1.offset = 1) (c0 : Try.prog.cellsOf f0.type = 1) (c1 : Try.prog.cellsOf f1.type = 1)
    (u0 : Try.prog.underlying f0.type = some (.int k0)) (u1 : Try.prog.underlying f1.type = some (.int k1)) {W : World} {base : Nat} {v : Value} {d : DataW H} {ps : List MemPlace}
    (hok : Value.okWide Try.prog W .any base t v) (h : DataW.Trod enc Try.prog W 0 (fun _ => true) true t v d ps) :
    ∃ (p : Option Addr) (n c : Nat) (cs : List (Int × Int)), v = .slice p n c ∧ HoldsA k0 k1 W p n c cs ∧ ∀ i, i < n → (Lit.int k0 (cs.getD i (0, 0)).1).wf = true ∧ (Lit.int k1 (cs.getD i (0, 0)).2).wf = true := by
  obtain ⟨a, l, c, rfl⟩ := okWide_slice ht hok
  obtain ⟨fuel, hf⟩ := h
  rcases open_slice_pairs ht he ce o0 o1 c0 c1 hf with ⟨e1, -⟩ | ⟨b, len, cap, m, n, V0, V1, D0, D1, P0, P1, e1, hb, hl, hm, hmm, -, hx⟩
  · simp [Value.cells] at e1
    obtain ⟨rfl, rfl, rfl⟩ := e1
    exact ⟨none, 0, 0, [], rfl, ⟨rfl, Nat.le_refl _, Nat.zero_le _, fun i hi => absurd hi (by omega), fun _ => rfl⟩, fun i hi => absurd hi (by omega)⟩
  · simp [Value.cells] at e1
    obtain ⟨rfl, rfl, rfl⟩ := e1
    have hm' : m = c := by simpa using hmm
    have each : ∀ i, i < l → ∃ q : Int × Int, (W.cell? (b.add (i * 2)) = some (.int k0 q.1) ∧ W.cell? (b.add (i * 2 + 1)) = some (.int k1 q.2)) ∧ (Lit.int k0 q.1).wf = true ∧ (Lit.int k1 q.2).wf = true := by
      intro i hi
      obtain ⟨x0, x1, y0, y1⟩ := hx i (by omega)
      obtain ⟨n0, g0, -, w0⟩ := DataW.trod_int u0 y0
      obtain ⟨n1, g1, -, w1⟩ := DataW.trod_int u1 y1
      simp at g0 g1
      exact ⟨(n0, n1), ⟨by rw [x0, g0], by rw [x1, g1]⟩, w0, w1⟩
    obtain ⟨cs, hl', hc⟩ := choose_acts each
    exact ⟨some b, l, c, cs, rfl, ⟨hl', hl, hm, fun i hi => ⟨b, rfl, (hc i hi).1⟩, fun e => by cases e⟩, fun i hi => (hc i hi).2⟩
end
end Go.Proofs.Ytpfbdpoileepoaa

