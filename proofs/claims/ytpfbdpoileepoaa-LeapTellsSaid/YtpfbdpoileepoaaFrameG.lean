/- Layer 15's frames: a slice of gaps, a slice of leaps as parameters, opened. -/
import Derived.Test.YtpfbdpoileepoaaFrameA
import Derived.Test.YtpfbdpoileepoaaSmD
set_option maxRecDepth 100000
namespace Go.Proofs.Ytpfbdpoileepoaa
open Go.ChangeShapes Go.WideShapes Go.ChangeAt Go.RowKit Go.Joins Go.Deep SmM

theorem u16w {x : Int} (h : (Lit.int .u16 x).wf = true) : 0 ≤ x ∧ x < 65536 := by
  simp [Lit.wf, IntKind.min, IntKind.max, IntKind.signed, IntKind.bits] at h
  exact ⟨by omega, by omega⟩
/-- Leaps as a slice of pairs holds them. -/
def lpsOf (cs : List (Int × Int)) : List Lp := cs.map fun q => ⟨q.1, q.2⟩
theorem lps_get {cs : List (Int × Int)} {i : Nat} (h : i < cs.length) : gl (lpsOf cs) i = ⟨(cs.getD i (0, 0)).1, (cs.getD i (0, 0)).2⟩ := by
  rw [gl_of (by unfold lpsOf; rw [List.length_map]; exact h)]
  unfold lpsOf
  rw [List.getElem_map, List.getD_eq_getElem?_getD, List.getElem?_eq_getElem h]
  rfl
theorem holdsA_L {w : World} {p : Option Addr} {n c : Nat} {cs : List (Int × Int)} (h : HoldsA .i64 .i64 w p n c cs) : HoldsL w p n c (lpsOf cs) :=
  ⟨by unfold lpsOf; rw [List.length_map]; exact h.len, h.cap, h.max, fun i hi => by
    obtain ⟨a, ha, c1, c2⟩ := h.at hi
    rw [lps_get (by rw [h.len]; exact hi)]
    exact ⟨a, ha, c1, c2⟩⟩
theorem lps_in {cs : List (Int × Int)} {n : Nat} (hl : cs.length = n) (h : ∀ i, i < n → (Lit.int .i64 (cs.getD i (0, 0)).1).wf = true ∧ (Lit.int .i64 (cs.getD i (0, 0)).2).wf = true) : ∀ y ∈ lpsOf cs, I64 y.t ∧ I64 y.k := by
  intro y hy
  obtain ⟨i, hi, rfl⟩ := List.getElem_of_mem hy
  have hi' : i < cs.length := by unfold lpsOf at hi; rw [List.length_map] at hi; exact hi
  rw [← gl_of hi, lps_get hi']
  have q := h i (by omega)
  exact ⟨i64_of_wf q.1, i64_of_wf q.2⟩

section
variable {H : Type} {enc : TypeId × Value → H}
theorem choose_gaps {n : Nat} {R : Nat → Gp → Prop} (h : ∀ i, i < n → ∃ q, R i q) : ∃ cs : List Gp, cs.length = n ∧ ∀ i, i < n → R i (gg cs i) := by
  induction n with
  | zero => exact ⟨[], rfl, fun i hi => absurd hi (by omega)⟩
  | succ m ih =>
    obtain ⟨cs, hl, hc⟩ := ih (fun i hi => h i (by omega))
    obtain ⟨q, hq⟩ := h m (by omega)
    refine ⟨cs ++ [q], by rw [List.length_append, hl]; rfl, fun i hi => ?_⟩
    unfold gg
    rw [List.getD_eq_getElem?_getD]
    by_cases e : i < m
    · rw [List.getElem?_append_left (by omega), ← List.getD_eq_getElem?_getD]
      exact hc i e
    · obtain rfl : i = m := by omega
      rw [List.getElem?_append_right (by omega), hl, Nat.sub_self]
      exact hq
theorem read_gaps {t e : TypeId} {f0 f1 : Field} (ht : Try.prog.underlying t = some (.slice e)) (he : Try.prog.underlying e = some (.struct #[f0, f1])) (ce : Try.prog.cellsOf e = 2) (o0 : f0.offset = 0) (o1 : f1.offset = 1) (c0 : Try.prog.cellsOf f0.type = 1) (c1 : Try.prog.cellsOf f1.type = 1)
    (u0 : Try.prog.underlying f0.type = some (.int .u16)) (u1 : Try.prog.underlying f1.type = some .bool) {W : World} {base : Nat} {v : Value} {d : DataW H} {ps : List MemPlace}
    (hok : Value.okWide Try.prog W .any base t v) (h : DataW.Trod enc Try.prog W 0 (fun _ => true) true t v d ps) :
    ∃ (p : Option Addr) (n c : Nat) (gs : List Gp), v = .slice p n c ∧ HoldsG W p n c gs ∧ ∀ g ∈ gs, g.h < 65536 := by
  obtain ⟨a, l, c, rfl⟩ := okWide_slice ht hok
  obtain ⟨fuel, hf⟩ := h
  rcases open_slice_pairs ht he ce o0 o1 c0 c1 hf with ⟨e1, -⟩ | ⟨b, len, cap, m, n, V0, V1, D0, D1, P0, P1, e1, hb, hl, hm, hmm, -, hx⟩
  · simp [Value.cells] at e1
    obtain ⟨rfl, rfl, rfl⟩ := e1
    exact ⟨none, 0, 0, [], rfl, ⟨rfl, Nat.le_refl _, Nat.zero_le _, fun i hi => absurd hi (by omega)⟩, fun g hg => by cases hg⟩
  · simp [Value.cells] at e1
    obtain ⟨rfl, rfl, rfl⟩ := e1
    have hm' : m = c := by simpa using hmm
    have each : ∀ i, i < l → ∃ q : Gp, (W.cell? (b.add (i * 2)) = some (.int .u16 (q.h : Nat)) ∧ W.cell? (b.add (i * 2 + 1)) = some (.bool q.o)) ∧ q.h < 65536 := by
      intro i hi
      obtain ⟨x0, x1, y0, y1⟩ := hx i (by omega)
      obtain ⟨n0, g0, -, w0⟩ := DataW.trod_int u0 y0
      obtain ⟨b1, g1, -⟩ := DataW.trod_bool u1 y1
      simp at g0 g1
      have k := u16w w0
      refine ⟨⟨n0.toNat, b1⟩, ⟨?_, by rw [x1, g1]⟩, by show n0.toNat < 65536; omega⟩
      rw [x0, g0]
      show _ = some (Value.int .u16 ((n0.toNat : Nat) : Int))
      rw [Int.toNat_of_nonneg k.1]
    obtain ⟨cs, hl', hc⟩ := choose_gaps each
    refine ⟨some b, l, c, cs, rfl, ⟨hl', hl, hm, fun i hi => ⟨b, rfl, (hc i hi).1.1, by rw [addA_next]; exact (hc i hi).1.2⟩⟩, fun g hg => ?_⟩
    obtain ⟨i, hi, rfl⟩ := List.getElem_of_mem hg
    rw [← gg_of hi]
    exact (hc i (by omega)).2
end
end Go.Proofs.Ytpfbdpoileepoaa

