/- A parameter that is a slice of keys (structs of three integers), opened: for layer 6. -/
import Derived.Test.YtfnidehbibfclaaFrame
import Derived.Test.YtfnidehbibfclaaGL
import Derived.Deep.Slices
import Derived.Deep.SlicePairs
set_option maxRecDepth 100000
namespace Go.Proofs.Ytfnidehbibfclaa
open Go.ChangeShapes Go.WideShapes Go.ChangeAt Go.RowKit Go.Joins Go.Deep OctM

section
variable {H : Type} {enc : TypeId × Value → H}

def KeyOk (k : Ky) : Prop := k.id < 4294967296 ∧ k.a < 18446744073709551616 ∧ k.b < 18446744073709551616

theorem choose_keys {n : Nat} {R : Nat → Ky → Prop} (h : ∀ i, i < n → ∃ q, R i q) : ∃ fs : List Ky, fs.length = n ∧ ∀ i f, fs[i]? = some f → R i f := by
  induction n with
  | zero => exact ⟨[], rfl, fun i f hi => by simp at hi⟩
  | succ m ih =>
    obtain ⟨fs, hl, hc⟩ := ih (fun i hi => h i (by omega))
    obtain ⟨q, hq⟩ := h m (by omega)
    refine ⟨fs ++ [q], by rw [List.length_append, hl]; rfl, fun i f hi => ?_⟩
    by_cases e : i < m
    · rw [List.getElem?_append_left (by omega)] at hi
      exact hc i f hi
    · have := (List.getElem?_eq_some_iff.1 hi).1
      rw [List.length_append, hl] at this
      simp only [List.length_cons, List.length_nil] at this
      obtain rfl : i = m := by omega
      rw [List.getElem?_append_right (by omega), hl, Nat.sub_self] at hi
      obtain rfl : q = f := by simpa using hi
      exact hq

theorem read_keys {t e : TypeId} {f0 f1 f2 : Field} (ht : Try.prog.underlying t = some (.slice e)) (he : Try.prog.underlying e = some (.struct #[f0, f1, f2])) (ce : Try.prog.cellsOf e = 3) (o0 : f0.offset = 0) (o1 : f1.offset = 1) (o2 : f2.offset = 2)
    (c0 : Try.prog.cellsOf f0.type = 1) (c1 : Try.prog.cellsOf f1.type = 1) (c2 : Try.prog.cellsOf f2.type = 1) (u0 : Try.prog.underlying f0.type = some (.int .u32)) (u1 : Try.prog.underlying f1.type = some (.int .u64)) (u2 : Try.prog.underlying f2.type = some (.int .u64))
    {W : World} {base : Nat} {v : Value} {d : DataW H} {ps : List MemPlace} (hok : Value.okWide Try.prog W .any base t v) (h : DataW.Trod enc Try.prog W 0 (fun _ => true) true t v d ps) :
    ∃ (p : Option Addr) (n c : Nat) (ks : List Ky), v = .slice p n c ∧ HoldsK W p n c ks ∧ ∀ k ∈ ks, KeyOk k := by
  obtain ⟨a, l, c, rfl⟩ := okWide_slice ht hok
  obtain ⟨fuel, hf⟩ := h
  rcases open_slice ht hf with ⟨e1, -⟩ | ⟨b, len, cap, m, n, D, Pl, e1, hb, hl, hm, hmm, -, hx⟩
  · simp [Value.cells] at e1
    obtain ⟨rfl, rfl, rfl⟩ := e1
    exact ⟨none, 0, 0, [], rfl, ⟨rfl, Nat.le_refl _, Nat.zero_le _, fun _ => rfl, fun i q hq => by simp at hq⟩, fun q hq => by cases hq⟩
  · simp [Value.cells] at e1
    obtain ⟨rfl, rfl, rfl⟩ := e1
    have hm' : m = c := by simpa using hmm
    have each : ∀ i, i < l → ∃ k : Ky, (W.cell? (b.add (i * 3)) = some (.int .u32 (k.id : Nat)) ∧ W.cell? (b.add (i * 3 + 1)) = some (.int .u64 (k.a : Nat)) ∧ W.cell? (b.add (i * 3 + 2)) = some (.int .u64 (k.b : Nat))) ∧ KeyOk k := by
      intro i hi
      obtain ⟨cs', h1, h2⟩ := hx i (by omega)
      rw [ce] at h1
      obtain ⟨_, hlen, hcell⟩ := World.cells?_some h1
      obtain ⟨xs, k, hk, hxy, _, hxl, hf'⟩ := DataW.trod_struct he h2
      match xs, hxl, cs', hlen with
      | [y0, y1, y2], _, [v0, v1, v2], _ =>
        have g0 := hf' 0 f0 rfl
        have g1 := hf' 1 f1 rfl
        have g2 := hf' 2 f2 rfl
        simp [o0, o1, o2, c0, c1, c2] at g0 g1 g2
        have e0 := hcell 0 (by omega)
        have e1 := hcell 1 (by omega)
        have e2 := hcell 2 (by omega)
        rw [add_add] at e0 e1 e2
        obtain ⟨z0, q0, -, w0⟩ := DataW.trod_int u0 g0
        obtain ⟨z1, q1, -, w1⟩ := DataW.trod_int u1 g1
        obtain ⟨z2, q2, -, w2⟩ := DataW.trod_int u2 g2
        simp at q0 q1 q2
        subst q0 q1 q2
        have b0 := u32_of_wf w0
        have b1 := word_of_wf w1
        have b2 := word_of_wf w2
        refine ⟨⟨z0.toNat, z1.toNat, z2.toNat⟩, ⟨?_, ?_, ?_⟩, by simp only; omega, by simp only; omega, by simp only; omega⟩
        · simp only; rw [Int.toNat_of_nonneg b0.1]; simpa using e0
        · simp only; rw [Int.toNat_of_nonneg b1.1]; simpa using e1
        · simp only; rw [Int.toNat_of_nonneg b2.1]; simpa using e2
    obtain ⟨ks, hl', hc⟩ := choose_keys each
    exact ⟨some b, l, c, ks, rfl, ⟨hl', hl, hm, (fun e => by cases e), fun i f hi => ⟨b, rfl, (hc i f hi).1⟩⟩, fun q hq => by
      obtain ⟨i, hi, rfl⟩ := List.getElem_of_mem hq
      exact (hc i _ (List.getElem?_eq_getElem hi)).2⟩
end
end Go.Proofs.Ytfnidehbibfclaa
