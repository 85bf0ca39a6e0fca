/- A parameter that is a slice of structs of a byte and a word (layer 3's cells), opened. -/
import Derived.Test.YtpamnephndoefaaFrame
import Derived.Test.YtpamnephndoefaaOctG
import Derived.Deep.SlicePairs
namespace Go.Proofs.Ytpamnephndoefaa
open Go.ChangeShapes Go.WideShapes Go.ChangeAt Go.RowKit Go.Joins Go.Deep

section
variable {H : Type} {enc : TypeId × Value → H}

theorem choose_pairs {n : Nat} {R : Nat → Nat × Nat → Prop} (h : ∀ i, i < n → ∃ q, R i q) : ∃ cs : List (Nat × Nat), cs.length = n ∧ ∀ i, i < n → R i (cs.getD i (0, 0)) := by
  induction n with
  | zero => exact ⟨[], rfl, fun i hi => absurd hi (by omega)⟩
  | succ m ih =>
    obtain ⟨cs, hl, hc⟩ := ih (fun i hi => h i (by omega))
    obtain ⟨q, hq⟩ := h m (by omega)
    refine ⟨cs ++ [q], by rw [List.length_append, hl]; rfl, fun i hi => ?_⟩
    rw [List.getD_eq_getElem?_getD]
    by_cases e : i < m
    · rw [List.getElem?_append_left (by omega), ← List.getD_eq_getElem?_getD]
      exact hc i e
    · obtain rfl : i = m := by omega
      rw [List.getElem?_append_right (by omega), hl, Nat.sub_self]
      exact hq

theorem read_cells {t e : TypeId} {f0 f1 : Field} (ht : Try.prog.underlying t = some (.slice e)) (he : Try.prog.underlying e = some (.struct #[f0, f1])) (ce : Try.prog.cellsOf e = 2) (o0 : f0.offset = 0) (o1 : f1.offset = 1) (c0 : Try.prog.cellsOf f0.type = 1) (c1 : Try.prog.cellsOf f1.type = 1)
    (u0 : Try.prog.underlying f0.type = some (.int .u8)) (u1 : Try.prog.underlying f1.type = some (.int .u64)) {W : World} {base : Nat} {v : Value} {d : DataW H} {ps : List MemPlace}
    (hok : Value.okWide Try.prog W .any base t v) (h : DataW.Trod enc Try.prog W 0 (fun _ => true) true t v d ps) :
    ∃ (p : Option Addr) (n c : Nat) (cs : List (Nat × Nat)), v = .slice p n c ∧ HoldsC W p n c cs ∧ ∀ i, i < n → (cs.getD i (0, 0)).1 < 256 ∧ (cs.getD i (0, 0)).2 < 18446744073709551616 := by
  obtain ⟨a, l, c, rfl⟩ := okWide_slice ht hok
  obtain ⟨fuel, hf⟩ := h
  rcases open_slice_pairs ht he ce o0 o1 c0 c1 hf with ⟨e1, -⟩ | ⟨b, len, cap, m, n, V0, V1, D0, D1, P0, P1, e1, hb, hl, hm, hmm, -, hx⟩
  · simp [Value.cells] at e1
    obtain ⟨rfl, rfl, rfl⟩ := e1
    exact ⟨none, 0, 0, [], rfl, ⟨rfl, Nat.le_refl _, Nat.zero_le _, fun i hi => absurd hi (by omega)⟩, fun i hi => absurd hi (by omega)⟩
  · simp [Value.cells] at e1
    obtain ⟨rfl, rfl, rfl⟩ := e1
    have hm' : m = c := by simpa using hmm
    have each : ∀ i, i < l → ∃ q : Nat × Nat, (W.cell? (b.add (i * 2)) = some (.int .u8 (q.1 : Int)) ∧ W.cell? (b.add (i * 2 + 1)) = some (.int .u64 (q.2 : Int))) ∧ q.1 < 256 ∧ q.2 < 18446744073709551616 := by
      intro i hi
      obtain ⟨x0, x1, y0, y1⟩ := hx i (by omega)
      obtain ⟨n0, g0, -, w0⟩ := DataW.trod_int u0 y0
      obtain ⟨n1, g1, -, w1⟩ := DataW.trod_int u1 y1
      simp at g0 g1
      have b0 := u8_of_wf w0
      have b1 := word_of_wf w1
      refine ⟨(n0.toNat, n1.toNat), ⟨?_, ?_⟩, by simp only; omega, by simp only; omega⟩
      · rw [x0, g0]; simp only; rw [Int.toNat_of_nonneg b0.1]
      · rw [x1, g1]; simp only; rw [Int.toNat_of_nonneg b1.1]
    obtain ⟨cs, hl', hc⟩ := choose_pairs each
    exact ⟨some b, l, c, cs, rfl, ⟨hl', hl, hm, fun i hi => ⟨b, rfl, (hc i hi).1⟩⟩, fun i hi => (hc i hi).2⟩
end
end Go.Proofs.Ytpamnephndoefaa
