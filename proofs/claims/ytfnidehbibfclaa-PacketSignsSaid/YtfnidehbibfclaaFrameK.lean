/- Parameters of layer 6, opened: a struct of three integers; a slice of slices of bytes, with what the bound of an 'upto' form says of it. -/
import Derived.Test.YtfnidehbibfclaaFrame
import Derived.Test.YtfnidehbibfclaaGL
import Derived.Deep.Slices
set_option maxRecDepth 100000
namespace Go.Proofs.Ytfnidehbibfclaa
open Go.ChangeShapes Go.WideShapes Go.ChangeAt Go.RowKit Go.Joins Go.Deep OctM

section
variable {H : Type} {enc : TypeId × Value → H}

theorem read_agg3 {t : TypeId} {f0 f1 f2 : Field} {k0 k1 k2 : IntKind} (hs : Try.prog.underlying t = some (.struct #[f0, f1, f2])) (hone : oneCellFields Try.prog #[f0, f1, f2] = true) (hC : Try.prog.cellsOf t = 3) (h0 : Try.prog.underlying f0.type = some (.int k0)) (h1 : Try.prog.underlying f1.type = some (.int k1)) (h2 : Try.prog.underlying f2.type = some (.int k2))
    {W : World} {base : Nat} {v : Value} {d : DataW H} {ps : List MemPlace} (hok : Value.okWide Try.prog W .any base t v) (h : DataW.Trod enc Try.prog W 0 (fun _ => true) true t v d ps) :
    ∃ a b c, v = .agg #[.int k0 a, .int k1 b, .int k2 c] ∧ (Lit.int k0 a).wf = true ∧ (Lit.int k1 b).wf = true ∧ (Lit.int k2 c).wf = true := by
  obtain ⟨v0, v1, v2, y0, y1, y2, n, rfl, rfl, rfl, z0, z1, z2⟩ := open_agg3 hs hone hC hok h
  obtain ⟨a, e0, rfl, wa⟩ := DataW.trod_int h0 z0
  obtain ⟨b, e1, rfl, wb⟩ := DataW.trod_int h1 z1
  obtain ⟨c, e2, rfl, wc⟩ := DataW.trod_int h2 z2
  simp at e0 e1 e2
  subst e0 e1 e2
  exact ⟨a, b, c, rfl, wa, wb, wc⟩

theorem bulk_pos (d : DataW H) : 1 ≤ Rows.uptoBulk d := by
  cases d with
  | lit l => cases l <;> simp [Rows.uptoBulk]
  | _ => simp [Rows.uptoBulk]
theorem bulk_many (l : List (DataW H)) : l.length ≤ Rows.uptoBulkAll l := by
  induction l with
  | nil => exact Nat.zero_le _
  | cons x r ih =>
    have := bulk_pos x
    simp only [Rows.uptoBulkAll, List.length_cons]
    omega
theorem lits_len (k : IntKind) (zs : List Int) : (lits (H := H) k zs).length = zs.length := by unfold lits; rw [List.length_map]

theorem open_bytesB {t e : TypeId} (ht : Try.prog.underlying t = some (.slice e)) (he : Try.prog.underlying e = some (.int .u8)) (hc : Try.prog.cellsOf e = 1) {W : World} {base fuel : Nat} {v : Value} {x : DataW H × List MemPlace}
    (h : DataW.trod enc Try.prog W base (fun _ => true) true fuel t [v] = some x) : ∃ (p : Option Addr) (n c : Nat) (ds : List Nat), v = .slice p n c ∧ Holds W p n c (valsN .u8 ds) ∧ Byt ds ∧ n ≤ Rows.uptoBulk x.1 := by
  rcases open_ints ht he hc h with ⟨e1, -⟩ | ⟨b, len, cap, zs, e1, hb, hl, hm, hz, e2, hcell, hw⟩
  · obtain rfl : v = .slice none 0 0 := by simpa using e1
    exact ⟨none, 0, 0, [], rfl, Holds.nil _ _ _ (Nat.zero_le _) (fun _ => rfl), (fun z hz => by cases hz), Nat.zero_le _⟩
  · obtain rfl : v = .slice (some b) len cap := by simpa using e1
    have hz' : zs.length = cap := by simpa using hz
    have bd : ∀ z ∈ zs, 0 ≤ z ∧ z < ((256 : Nat) : Int) := fun z hz => u8_of_wf (hw z hz)
    refine ⟨some b, len, cap, (zs.take len).map Int.toNat, rfl, holds_nat ⟨by rw [valsI_len, List.length_take]; omega, hl, hm, (fun e => by cases e), fun i u hu => ?_⟩ (fun z hz => (bd z (List.mem_of_mem_take hz)).1), nat_lt fun z hz => bd z (List.mem_of_mem_take hz), ?_⟩
    · have il : i < len := by
        have := (List.getElem?_eq_some_iff.1 hu).1
        rw [valsI_len, List.length_take] at this
        omega
      rw [valsI_get (by rw [List.length_take]; omega)] at hu
      injection hu with hu
      subst hu
      refine ⟨b, rfl, ?_⟩
      rw [hcell i (by omega), List.getD_eq_getElem?_getD, List.getD_eq_getElem?_getD, List.getElem?_take, if_pos il]
    · rw [e2]
      have a := bulk_many (lits (H := H) .u8 (zs.take len))
      rw [lits_len, List.length_take] at a
      simp only [Rows.uptoBulk]
      omega

theorem choose_prts {n : Nat} {R : Nat → Prt → Prop} (h : ∀ i, i < n → ∃ q, R i q) : ∃ ps : List Prt, ps.length = n ∧ ∀ i f, ps[i]? = some f → R i f := by
  induction n with
  | zero => exact ⟨[], rfl, fun i f hi => by simp at hi⟩
  | succ m ih =>
    obtain ⟨fs, hl, hc⟩ := ih (fun i hi => h i (by omega))
    obtain ⟨q, hq⟩ := h m (by omega)
    refine ⟨fs ++ [q], by rw [List.length_append, hl]; rfl, fun i f hi => ?_⟩
    by_cases e : i < m
    · rw [List.getElem?_append_left (by omega)] at hi
      exact hc i f hi
    · have := (List.getElem?_eq_some_iff.1 hi).1
      rw [List.length_append, hl] at this
      simp only [List.length_cons, List.length_nil] at this
      obtain rfl : i = m := by omega
      rw [List.getElem?_append_right (by omega), hl, Nat.sub_self] at hi
      obtain rfl : q = f := by simpa using hi
      exact hq
theorem total_bulk : ∀ (ps : List Prt) (D : Nat → DataW H), (∀ i q, ps[i]? = some q → q.n ≤ Rows.uptoBulk (D i)) → totalP ps ≤ Rows.uptoBulkAll ((List.range ps.length).map D)
  | [], D, _ => Nat.zero_le _
  | q :: ps, D, h => by
    have a := h 0 q rfl
    have b := total_bulk ps (fun i => D (i + 1)) fun i x hx => h (i + 1) x hx
    rw [List.length_cons, List.range_succ_eq_map, List.map_cons, List.map_map]
    simp only [Rows.uptoBulkAll]
    unfold totalP at *
    rw [List.map_cons, List.sum_cons]
    exact Nat.add_le_add a b

theorem read_parts {t e g : TypeId} (ht : Try.prog.underlying t = some (.slice e)) (ce : Try.prog.cellsOf e = 1) (he : Try.prog.underlying e = some (.slice g)) (hg : Try.prog.underlying g = some (.int .u8)) (cg : Try.prog.cellsOf g = 1) {W : World} {base : Nat} {v : Value} {d : DataW H} {pl : List MemPlace}
    (hok : Value.okWide Try.prog W .any base t v) (h : DataW.Trod enc Try.prog W 0 (fun _ => true) true t v d pl) :
    ∃ (p : Option Addr) (n c : Nat) (ps : List Prt), v = .slice p n c ∧ HoldsP W p n c ps ∧ (∀ q ∈ ps, Byt q.ds) ∧ totalP ps ≤ Rows.uptoBulk d ∧ n ≤ Rows.uptoBulk d := by
  obtain ⟨a, l, c, rfl⟩ := okWide_slice ht hok
  obtain ⟨fuel, hf⟩ := h
  rcases open_slice ht hf with ⟨e1, -⟩ | ⟨b, len, cap, m, n, D, Pl, e1, hb, hl, hm, hmm, e2, hx⟩
  · simp [Value.cells] at e1
    obtain ⟨rfl, rfl, rfl⟩ := e1
    exact ⟨none, 0, 0, [], rfl, ⟨rfl, Nat.le_refl _, Nat.zero_le _, fun _ => rfl, fun i q hq => by simp at hq⟩, (fun q hq => by cases hq), Nat.zero_le _, Nat.zero_le _⟩
  · simp [Value.cells] at e1
    obtain ⟨rfl, rfl, rfl⟩ := e1
    have hm' : m = c := by simpa using hmm
    have each : ∀ i, i < l → ∃ q : Prt, (W.cell? (b.add i) = some (.slice q.p q.n q.c) ∧ Holds W q.p q.n q.c (valsN .u8 q.ds)) ∧ Byt q.ds ∧ q.n ≤ Rows.uptoBulk (D i) := by
      intro i hi
      obtain ⟨cs', h1, h2⟩ := hx i (by omega)
      rw [ce, Nat.mul_one] at h1
      unfold World.cells? at h1
      rw [if_pos (Nat.zero_le _)] at h1
      obtain ⟨u, hu, rfl⟩ : ∃ u, W.cell? (b.add i) = some u ∧ cs' = [u] := by
        have e0 : (b.add i).add 0 = b.add i := by unfold Addr.add; simp
        simp only [List.range_one, List.mapM_cons, List.mapM_nil, e0] at h1
        cases hc : W.cell? (b.add i) with
        | none => rw [hc] at h1; simp at h1
        | some u => rw [hc] at h1; simp at h1; exact ⟨u, rfl, h1.symm⟩
      obtain ⟨p1, n1, c1, ds, rfl, hh, hy, hb'⟩ := open_bytesB he hg cg h2
      exact ⟨⟨p1, n1, c1, ds⟩, ⟨hu, hh⟩, hy, hb'⟩
    obtain ⟨ps, hl', hc⟩ := choose_prts each
    refine ⟨some b, l, c, ps, rfl, ⟨hl', hl, hm, (fun e => by cases e), fun i f hi => ⟨b, rfl, (hc i f hi).1⟩⟩, fun q hq => ?_, ?_⟩
    · obtain ⟨i, hi, rfl⟩ := List.getElem_of_mem hq
      exact (hc i _ (List.getElem?_eq_getElem hi)).2.1
    · have tb := total_bulk ps D fun i q hi => (hc i q hi).2.2
      rw [hl'] at tb
      have lb := bulk_many ((List.range l).map D)
      rw [List.length_map, List.length_range] at lb
      have e3 : d = .slice ((List.range l).map D) ((List.range (m - l)).map fun j => D (l + j)) := congrArg Prod.fst e2
      rw [e3]
      simp only [Rows.uptoBulk]
      exact ⟨by omega, by omega⟩
end
end Go.Proofs.Ytfnidehbibfclaa
