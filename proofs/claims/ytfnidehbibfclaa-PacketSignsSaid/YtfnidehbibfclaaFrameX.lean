/- A parameter that is a slice of extension fields, opened: for layers 5, 7 and on. -/
import Derived.Test.YtfnidehbibfclaaFrame
import Derived.Test.YtfnidehbibfclaaFrameR
import Derived.Test.YtfnidehbibfclaaGG
import Derived.Deep.SlicePairs
set_option maxRecDepth 100000
namespace Go.Proofs.Ytfnidehbibfclaa
open Go.ChangeShapes Go.WideShapes Go.ChangeAt Go.RowKit Go.Joins Go.Deep OctM

section
variable {H : Type} {enc : TypeId × Value → H}

theorem choose_flds {n : Nat} {R : Nat → Fld → Prop} (h : ∀ i, i < n → ∃ q, R i q) : ∃ fs : List Fld, fs.length = n ∧ ∀ i f, fs[i]? = some f → R i f := by
  induction n with
  | zero => exact ⟨[], rfl, fun i f hi => by simp at hi⟩
  | succ m ih =>
    obtain ⟨fs, hl, hc⟩ := ih (fun i hi => h i (by omega))
    obtain ⟨q, hq⟩ := h m (by omega)
    refine ⟨fs ++ [q], by rw [List.length_append, hl]; rfl, fun i f hi => ?_⟩
    by_cases e : i < m
    · rw [List.getElem?_append_left (by omega)] at hi
      exact hc i f hi
    · have := (List.getElem?_eq_some_iff.1 hi).1
      rw [List.length_append, hl] at this
      simp only [List.length_cons, List.length_nil] at this
      obtain rfl : i = m := by omega
      rw [List.getElem?_append_right (by omega), hl, Nat.sub_self] at hi
      obtain rfl : q = f := by simpa using hi
      exact hq

theorem open_bytes {t e : TypeId} (ht : Try.prog.underlying t = some (.slice e)) (he : Try.prog.underlying e = some (.int .u8)) (hc : Try.prog.cellsOf e = 1) {W : World} {base fuel : Nat} {v : Value} {x : DataW H × List MemPlace}
    (h : DataW.trod enc Try.prog W base (fun _ => true) true fuel t [v] = some x) : ∃ (p : Option Addr) (n c : Nat) (ds : List Nat), v = .slice p n c ∧ Holds W p n c (valsN .u8 ds) ∧ Byt ds := by
  rcases open_ints ht he hc h with ⟨e1, -⟩ | ⟨b, len, cap, zs, e1, hb, hl, hm, hz, e2, hcell, hw⟩
  · obtain rfl : v = .slice none 0 0 := by simpa using e1
    exact ⟨none, 0, 0, [], rfl, Holds.nil _ _ _ (Nat.zero_le _) (fun _ => rfl), (fun z hz => by cases hz)⟩
  · obtain rfl : v = .slice (some b) len cap := by simpa using e1
    have hz' : zs.length = cap := by simpa using hz
    have bd : ∀ z ∈ zs, 0 ≤ z ∧ z < ((256 : Nat) : Int) := fun z hz => u8_of_wf (hw z hz)
    refine ⟨some b, len, cap, (zs.take len).map Int.toNat, rfl, holds_nat ⟨by rw [valsI_len, List.length_take]; omega, hl, hm, (fun e => by cases e), fun i u hu => ?_⟩ (fun z hz => (bd z (List.mem_of_mem_take hz)).1), nat_lt fun z hz => bd z (List.mem_of_mem_take hz)⟩
    have il : i < len := by
      have := (List.getElem?_eq_some_iff.1 hu).1
      rw [valsI_len, List.length_take] at this
      omega
    rw [valsI_get (by rw [List.length_take]; omega)] at hu
    injection hu with hu
    subst hu
    refine ⟨b, rfl, ?_⟩
    rw [hcell i (by omega), List.getD_eq_getElem?_getD, List.getD_eq_getElem?_getD, List.getElem?_take, if_pos il]

theorem read_exts {t e : TypeId} {f0 f1 : Field} {g : TypeId} (ht : Try.prog.underlying t = some (.slice e)) (he : Try.prog.underlying e = some (.struct #[f0, f1])) (ce : Try.prog.cellsOf e = 2) (o0 : f0.offset = 0) (o1 : f1.offset = 1) (c0 : Try.prog.cellsOf f0.type = 1) (c1 : Try.prog.cellsOf f1.type = 1)
    (u0 : Try.prog.underlying f0.type = some (.int .u16)) (u1 : Try.prog.underlying f1.type = some (.slice g)) (ug : Try.prog.underlying g = some (.int .u8)) (cg : Try.prog.cellsOf g = 1) {W : World} {base : Nat} {v : Value} {d : DataW H} {ps : List MemPlace}
    (hok : Value.okWide Try.prog W .any base t v) (h : DataW.Trod enc Try.prog W 0 (fun _ => true) true t v d ps) :
    ∃ (p : Option Addr) (n c : Nat) (fs : List Fld), v = .slice p n c ∧ HoldsX W p n c fs ∧ FldsOk fs := by
  obtain ⟨a, l, c, rfl⟩ := okWide_slice ht hok
  obtain ⟨fuel, hf⟩ := h
  rcases open_slice_pairs ht he ce o0 o1 c0 c1 hf with ⟨e1, -⟩ | ⟨b, len, cap, m, n, V0, V1, D0, D1, P0, P1, e1, hb, hl, hm, hmm, -, hx⟩
  · simp [Value.cells] at e1
    obtain ⟨rfl, rfl, rfl⟩ := e1
    exact ⟨none, 0, 0, [], rfl, holdsX_nil _ _ _ (Nat.zero_le _) (fun _ => rfl), fun f hf => by cases hf⟩
  · simp [Value.cells] at e1
    obtain ⟨rfl, rfl, rfl⟩ := e1
    have hm' : m = c := by simpa using hmm
    have each : ∀ i, i < l → ∃ f : Fld, (W.cell? (b.add (i * 2)) = some (.int .u16 (f.ty : Nat)) ∧ W.cell? (b.add (i * 2 + 1)) = some (.slice f.p f.n f.c) ∧ Holds W f.p f.n f.c (valsN .u8 f.ds)) ∧ f.ty < 65536 ∧ Byt f.ds := by
      intro i hi
      obtain ⟨x0, x1, y0, y1⟩ := hx i (by omega)
      obtain ⟨n0, g0, -, w0⟩ := DataW.trod_int u0 y0
      obtain ⟨p1, n1, c1, ds, g1, hh, hy⟩ := open_bytes u1 ug cg y1
      simp at g0
      have b0 := u16_of_wf w0
      refine ⟨⟨n0.toNat, p1, n1, c1, ds⟩, ⟨?_, ?_, hh⟩, by simp only; omega, hy⟩
      · rw [x0, g0]; simp only; rw [Int.toNat_of_nonneg b0.1]
      · rw [x1, g1]
    obtain ⟨fs, hl', hc⟩ := choose_flds each
    exact ⟨some b, l, c, fs, rfl, ⟨hl', hl, hm, (fun e => by cases e), fun i f hi => ⟨b, rfl, (hc i f hi).1⟩⟩, fun f hf => by
      obtain ⟨i, hi, rfl⟩ := List.getElem_of_mem hf
      exact (hc i _ (List.getElem?_eq_getElem hi)).2⟩
end
end Go.Proofs.Ytfnidehbibfclaa
