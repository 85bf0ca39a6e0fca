/- A parameter that is a slice of calls (an integer, and an item: a struct of three integers), opened: for layer 13. -/
import Derived.Test.YtlfbenlojiiknaaFrame
import Derived.Test.YtlfbenlojiiknaaHeapA
import Derived.Deep.Slices
import Derived.Deep.SlicePairs
set_option maxRecDepth 100000
namespace Go.Proofs.Ytlfbenlojiiknaa
open Go.ChangeShapes Go.WideShapes Go.ChangeAt Go.RowKit Go.Joins Go.Deep HeapM

/-- A call that is asked for. -/
structure Ac where
  what : Int
  x : It
def zeroA : Ac := ⟨0, zeroI⟩
structure HoldsH (w : World) (p : Option Addr) (n c : Nat) (l : List Ac) : Prop where
  len : l.length = n
  cap : n ≤ c
  max : c ≤ maxLen
  cell : ∀ i, i < n → ∃ a, p = some a ∧ w.cell? (a.add (i * 4)) = some (.int .i64 (l.getD i zeroA).what) ∧ w.cell? (a.add (i * 4 + 1)) = some (.int .u64 ((l.getD i zeroA).x.id : Nat)) ∧ w.cell? (a.add (i * 4 + 2)) = some (.int .u64 ((l.getD i zeroA).x.seq : Nat)) ∧ w.cell? (a.add (i * 4 + 3)) = some (.int .i64 (l.getD i zeroA).x.t)
theorem HoldsH.below {w w' : World} {p : Option Addr} {n c : Nat} {l : List Ac} (h : HoldsH w p n c l) (hb : Below w.heap.size w w') : HoldsH w' p n c l := by
  refine ⟨h.len, h.cap, h.max, fun i hi => ?_⟩
  obtain ⟨a, ha, c1, c2, c3, c4⟩ := h.cell i hi
  exact ⟨a, ha, (hb.cell (World.block_lt_of_cell? w _ c1)).trans c1, (hb.cell (World.block_lt_of_cell? w _ c2)).trans c2, (hb.cell (World.block_lt_of_cell? w _ c3)).trans c3, (hb.cell (World.block_lt_of_cell? w _ c4)).trans c4⟩
theorem act_next (a : Addr) (x : Nat) : (⟨(a.add x).block, (a.add x).off + 1, none⟩ : Addr) = a.add (x + 1) ∧ (⟨(a.add x).block, (a.add x).off + 2, none⟩ : Addr) = a.add (x + 2) ∧ (⟨(a.add x).block, (a.add x).off + 3, none⟩ : Addr) = a.add (x + 3) := by
  unfold Addr.add
  by_cases h : x = 0
  · subst h; simp
  · rw [if_neg h, if_neg (by omega), if_neg (by omega), if_neg (by omega)]
    simp [Nat.add_assoc]
/-- One of them, in the walk's own words. -/
theorem HoldsH.at {w : World} {p : Option Addr} {n c : Nat} {l : List Ac} (h : HoldsH w p n c l) {i : Nat} (hi : i < n) : ∃ a, p = some a ∧ w.cell? (a.add (i * 4)) = some (.int .i64 (l.getD i zeroA).what) ∧ w.cell? ⟨(a.add (i * 4)).block, (a.add (i * 4)).off + 1, none⟩ = some (.int .u64 ((l.getD i zeroA).x.id : Nat)) ∧
    w.cell? ⟨(a.add (i * 4)).block, (a.add (i * 4)).off + 2, none⟩ = some (.int .u64 ((l.getD i zeroA).x.seq : Nat)) ∧ w.cell? ⟨(a.add (i * 4)).block, (a.add (i * 4)).off + 3, none⟩ = some (.int .i64 (l.getD i zeroA).x.t) := by
  obtain ⟨a, ha, c1, c2, c3, c4⟩ := h.cell i hi
  exact ⟨a, ha, c1, by rw [(act_next a _).1]; exact c2, by rw [(act_next a _).2.1]; exact c3, by rw [(act_next a _).2.2]; exact c4⟩

section
variable {H : Type} {enc : TypeId × Value → H}
theorem choose_hacts {n : Nat} {R : Nat → Ac → Prop} (h : ∀ i, i < n → ∃ q, R i q) : ∃ cs : List Ac, cs.length = n ∧ ∀ i, i < n → R i (cs.getD i zeroA) := by
  induction n with
  | zero => exact ⟨[], rfl, fun i hi => absurd hi (by omega)⟩
  | succ m ih =>
    obtain ⟨cs, hl, hc⟩ := ih (fun i hi => h i (by omega))
    obtain ⟨q, hq⟩ := h m (by omega)
    refine ⟨cs ++ [q], by rw [List.length_append, hl]; rfl, fun i hi => ?_⟩
    rw [List.getD_eq_getElem?_getD]
    by_cases e : i < m
    · rw [List.getElem?_append_left (by omega), ← List.getD_eq_getElem?_getD]
      exact hc i e
    · obtain rfl : i = m := by omega
      rw [List.getElem?_append_right (by omega), hl, Nat.sub_self]
      exact hq

theorem read_hacts {t e : TypeId} {f0 f1 g0 g1 g2 : Field} (ht : Try.prog.underlying t = some (.slice e)) (he : Try.prog.underlying e = some (.struct #[f0, f1])) (ce : Try.prog.cellsOf e = 4) (o0 : f0.offset = 0) (o1 : f1.offset = 1)
    (c0 : Try.prog.cellsOf f0.type = 1) (c1 : Try.prog.cellsOf f1.type = 3) (u0 : Try.prog.underlying f0.type = some (.int .i64)) (u1 : Try.prog.underlying f1.type = some (.struct #[g0, g1, g2]))
    (p0 : g0.offset = 0) (p1 : g1.offset = 1) (p2 : g2.offset = 2) (d0 : Try.prog.cellsOf g0.type = 1) (d1 : Try.prog.cellsOf g1.type = 1) (d2 : Try.prog.cellsOf g2.type = 1)
    (v0 : Try.prog.underlying g0.type = some (.int .u64)) (v1 : Try.prog.underlying g1.type = some (.int .u64)) (v2 : Try.prog.underlying g2.type = some (.int .i64))
    {W : World} {base : Nat} {v : Value} {d : DataW H} {ps : List MemPlace} (hok : Value.okWide Try.prog W .any base t v) (h : DataW.Trod enc Try.prog W 0 (fun _ => true) true t v d ps) :
    ∃ (p : Option Addr) (n c : Nat) (l : List Ac), v = .slice p n c ∧ HoldsH W p n c l ∧ ∀ i, i < n → I64 (l.getD i zeroA).what ∧ ItOk (l.getD i zeroA).x := by
  obtain ⟨a, l, c, rfl⟩ := okWide_slice ht hok
  obtain ⟨fuel, hf⟩ := h
  rcases open_slice ht hf with ⟨e1, -⟩ | ⟨b, len, cap, m, n, D, Pl, e1, hb, hl, hm, hmm, -, hx⟩
  · simp [Value.cells] at e1
    obtain ⟨rfl, rfl, rfl⟩ := e1
    exact ⟨none, 0, 0, [], rfl, ⟨rfl, Nat.le_refl _, Nat.zero_le _, fun i hi => absurd hi (by omega)⟩, fun i hi => absurd hi (by omega)⟩
  · simp [Value.cells] at e1
    obtain ⟨rfl, rfl, rfl⟩ := e1
    have hm' : m = c := by simpa using hmm
    have each : ∀ i, i < l → ∃ k : Ac, (W.cell? (b.add (i * 4)) = some (.int .i64 k.what) ∧ W.cell? (b.add (i * 4 + 1)) = some (.int .u64 (k.x.id : Nat)) ∧ W.cell? (b.add (i * 4 + 2)) = some (.int .u64 (k.x.seq : Nat)) ∧ W.cell? (b.add (i * 4 + 3)) = some (.int .i64 k.x.t)) ∧ I64 k.what ∧ ItOk k.x := by
      intro i hi
      obtain ⟨cs', h1, h2⟩ := hx i (by omega)
      rw [ce] at h1
      obtain ⟨_, hlen, hcell⟩ := World.cells?_some h1
      obtain ⟨xs, k, hk, hxy, _, hxl, hf'⟩ := DataW.trod_struct he h2
      match xs, hxl, cs', hlen with
      | [y0, y1], _, [w0, w1, w2, w3], _ =>
        have q0 := hf' 0 f0 rfl
        have q1 := hf' 1 f1 rfl
        simp [o0, o1, c0, c1] at q0 q1
        obtain ⟨xs', k', hk', hxy', _, hxl', hf''⟩ := DataW.trod_struct u1 q1
        match xs', hxl' with
        | [z1, z2, z3], _ =>
          have r0 := hf'' 0 g0 rfl
          have r1 := hf'' 1 g1 rfl
          have r2 := hf'' 2 g2 rfl
          simp [p0, p1, p2, d0, d1, d2] at r0 r1 r2
          have e0 := hcell 0 (by omega)
          have e1 := hcell 1 (by omega)
          have e2 := hcell 2 (by omega)
          have e3 := hcell 3 (by omega)
          rw [add_add] at e0 e1 e2 e3
          obtain ⟨n0, s0, -, t0⟩ := DataW.trod_int u0 q0
          obtain ⟨n1, s1, -, t1⟩ := DataW.trod_int v0 r0
          obtain ⟨n2, s2, -, t2⟩ := DataW.trod_int v1 r1
          obtain ⟨n3, s3, -, t3⟩ := DataW.trod_int v2 r2
          simp at s0 s1 s2 s3
          subst s0 s1 s2 s3
          have b0 := i64_of_wf t0
          have b1 := word_of_wf t1
          have b2 := word_of_wf t2
          have b3 := i64_of_wf t3
          refine ⟨⟨n0, ⟨n1.toNat, n2.toNat, n3⟩⟩, ⟨?_, ?_, ?_, ?_⟩, b0, ⟨by simp only; omega, by simp only; omega, b3.1, b3.2⟩⟩
          · simpa using e0
          · simp only; rw [Int.toNat_of_nonneg b1.1]; simpa using e1
          · simp only; rw [Int.toNat_of_nonneg b2.1]; simpa using e2
          · simpa using e3
    obtain ⟨ks, hl', hc⟩ := choose_hacts each
    exact ⟨some b, l, c, ks, rfl, ⟨hl', hl, by omega, fun i hi => ⟨b, rfl, (hc i hi).1⟩⟩, fun i hi => (hc i hi).2⟩
end
end Go.Proofs.Ytlfbenlojiiknaa
