/- Layer 15 (smear), the laws: a row of leaps of one's own while it is written; what New tells is one number; whose day it is. -/
import Derived.Test.YtpfbdpoileepoaaSmE
set_option maxRecDepth 100000
namespace Go.Proofs.Ytpfbdpoileepoaa
open Go.ChangeShapes Go.WideShapes Go.ChangeAt Go.RowKit SmM

/-- A row of one's own, behind B and ahead of E, is written: nothing below B turns, nothing from E on. -/
structure RwS (B E : Nat) (w wr : World) (p : Option Addr) (n : Nat) : Prop where
  low : Below B w wr
  far : ∀ M, E ≤ M → M < w.heap.size → wr.heap[M]? = w.heap[M]?
  row : ∀ i, i < n → ∃ g cur, p = some ⟨g, 0, none⟩ ∧ B ≤ g ∧ g < E ∧ wr.heap[g]? = some (.cells cur 33 (0, 0)) ∧ ∀ j, j < n → ∃ a b, cur[j * 2]? = some (.int .i64 a) ∧ cur[j * 2 + 1]? = some (.int .i64 b)
theorem RwS.set {B E : Nat} {w wr : World} {p : Option Addr} {n : Nat} (h : RwS B E w wr p n) {g o : Nat} (hp : p = some ⟨g, 0, none⟩) (hB : B ≤ g) (hE : g < E) (z : Int) : RwS B E w (wr.setCell ⟨g, o, none⟩ (.int .i64 z)) p n := by
  refine ⟨h.low.setCell hB _, fun M hM hl => (Below.heap_setCell wr ⟨g, o, none⟩ _ M (by show M ≠ g; omega)).trans (h.far M hM hl), fun i hi => ?_⟩
  obtain ⟨g', cur, hp', hB', hE', hg, hj⟩ := h.row i hi
  rw [hp] at hp'
  injection hp' with hp'
  injection hp' with hp'
  subst hp'
  refine ⟨g, _, hp, hB, hE, blk_set hg, fun j hjn => ?_⟩
  obtain ⟨a, b, ha, hb⟩ := hj j hjn
  have get : ∀ (q : Nat) (v : Int), cur[q]? = some (.int .i64 v) → ∃ v', (cur.set! o (.int .i64 z))[q]? = some (.int .i64 v') := fun q v hv => by
    have hq := (Array.getElem?_eq_some_iff.1 hv).1
    rw [Array.set!_eq_setIfInBounds, Array.getElem?_setIfInBounds]
    by_cases e : o = q
    · rw [if_pos e, if_pos (by omega)]
      exact ⟨z, rfl⟩
    · rw [if_neg e]
      exact ⟨v, hv⟩
  obtain ⟨a', ha'⟩ := get _ _ ha
  obtain ⟨b', hb'⟩ := get _ _ hb
  exact ⟨a', b', ha', hb'⟩
theorem RwS.at {B E : Nat} {w wr : World} {p : Option Addr} {n : Nat} (h : RwS B E w wr p n) {i : Nat} (hi : i < n) :
    ∃ a, p = some a ∧ (∃ x, wr.cell? (a.add (i * 2)) = some (.int .i64 x)) ∧ (∃ y, wr.cell? ⟨(a.add (i * 2)).block, (a.add (i * 2)).off + 1, none⟩ = some (.int .i64 y)) ∧ wr.frozen? (a.add (i * 2)) = false ∧ wr.frozen? ⟨(a.add (i * 2)).block, (a.add (i * 2)).off + 1, none⟩ = false ∧
      (∀ z, RwS B E w (wr.setCell (a.add (i * 2)) (.int .i64 z)) p n) ∧ ∀ z, RwS B E w (wr.setCell ⟨(a.add (i * 2)).block, (a.add (i * 2)).off + 1, none⟩ (.int .i64 z)) p n := by
  obtain ⟨g, cur, hp, hB, hE, hg, hj⟩ := h.row i hi
  obtain ⟨x, y, hx, hy⟩ := hj i hi
  refine ⟨⟨g, 0, none⟩, hp, ?_⟩
  rw [add_zero']
  exact ⟨⟨x, (blk_cell hg).trans hx⟩, ⟨y, (blk_cell hg).trans hy⟩, blk_free hg, blk_free hg, fun z => h.set hp hB hE z, fun z => h.set hp hB hE z⟩
/-- It begins so. -/
theorem OwnL.rws {w : World} {B : Nat} {p : Option Addr} {n c : Nat} {l : List Lp} (h : OwnL w B p n c l) {w' : World} (k : Below w.heap.size w w') : RwS B w.heap.size w' w' p n := by
  refine ⟨Below.refl _ _, fun _ _ _ => rfl, fun i hi => ?_⟩
  have hl := h.1
  rw [cellsL_len] at hl
  have hc := h
  unfold OwnL at hc
  rcases h.2 with ⟨-, e2⟩ | ⟨g, cap, cur, e, hb, hg, h1, h2, h3, h4⟩
  · omega
  · injection e with e1 e2 e3
    subst e1 e3
    have lt := (Array.getElem?_eq_some_iff.1 hg).1
    refine ⟨g, cur, rfl, hb, lt, (k.block g lt).trans hg, fun j hj => ?_⟩
    obtain ⟨c1, c2⟩ := cellsL_get l j (by omega)
    have d1 := World.ownsRow.cells hc (g := g) rfl _ _ c1
    have d2 := World.ownsRow.cells hc (g := g) rfl _ _ c2
    rw [add_zero', blk_cell hg] at d1 d2
    exact ⟨_, _, d1, d2⟩
theorem newE_one {l : List Lp} {r r' : Int} (h : NewE l r) (h' : NewE l r') : r = r' := by
  rcases h with ⟨a, b⟩ | ⟨a, ⟨b, c⟩ | ⟨b, c⟩⟩ <;> rcases h' with ⟨a', b'⟩ | ⟨a', ⟨b', c'⟩ | ⟨b', c'⟩⟩ <;> first | omega | exact absurd c c' | exact absurd c' c
theorem within_either (l : List Lp) (s : Int) : withinI l s = -1 ∨ ∃ i : Nat, withinI l s = (i : Int) := by
  unfold withinI
  split
  · exact .inr ⟨_, rfl⟩
  · exact .inl rfl
end Go.Proofs.Ytpfbdpoileepoaa

