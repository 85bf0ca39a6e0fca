/- While the bytes of fields that were told are turned: for layers 5 and 7. -/
import Derived.Test.YtfnidehbibfclaaGG
import Derived.Test.YtfnidehbibfclaaGB
set_option maxRecDepth 100000
namespace Go.Proofs.Ytfnidehbibfclaa
open Go.ChangeShapes Go.WideShapes Go.ChangeAt Go.RowKit OctM

/-- A cell that is no byte stays when a byte is written. -/
theorem cell_stays {w : World} {x a : Addr} {u v : Value} {z : Int} (h : w.cell? x = some u) (hu : ∀ z, u ≠ .int .u8 z) (ha : w.cell? a = some (.int .u8 z)) : (w.setCell a v).cell? x = some u := by
  rw [World.cell?_setCell_other _ _ _ _ (fun e => by subst e; rw [ha] at h; injection h with h; exact hu z h.symm)]
  exact h
theorem soft_any {w : World} {p : Option Addr} {n : Nat} (h : Soft w p n) {a : Addr} {z0 : Int} (ha : w.cell? a = some (.int .u8 z0)) (z : Int) : Soft (w.setCell a (.int .u8 z)) p n := by
  refine ⟨fun i hi => ?_⟩
  obtain ⟨a1, z1, e1, c1, f1⟩ := h.cell i hi
  by_cases e : a = a1.add i
  · exact ⟨a1, z, e1, by rw [← e]; exact World.cell?_setCell_same _ _ _ ha, by rw [World.frozen?_setCell]; exact f1⟩
  · exact ⟨a1, z1, e1, by rw [World.cell?_setCell_other _ _ _ _ e]; exact c1, by rw [World.frozen?_setCell]; exact f1⟩

/-- While the bytes of fields are turned: the fields' cells stay; their bytes are bytes, in memory behind w1. -/
structure FlipRel (w1 wr : World) (p : Option Addr) (fs : List Fld) : Prop where
  cell : ∀ i f, fs[i]? = some f → ∃ a, p = some a ∧ wr.cell? (a.add (i * 2)) = some (.int .u16 (f.ty : Nat)) ∧ wr.cell? (a.add (i * 2 + 1)) = some (.slice f.p f.n f.c)
  soft : ∀ f ∈ fs, Soft wr f.p f.n
  base : ∀ f ∈ fs, ∀ a, f.p = some a → w1.heap.size ≤ a.block
  low : Below w1.heap.size w1 wr
theorem FlipRel.start {w1 w2 wr : World} {p : Option Addr} {n c : Nat} {fs : List Fld} (h : HoldsX w2 p n c fs) (nw : NewsX w1.heap.size w2 fs) (b : Below w2.heap.size w2 wr) (low : Below w1.heap.size w1 w2) : FlipRel w1 wr p fs :=
  ⟨fun i f hf => by
    obtain ⟨a, ha, c1, c2, -⟩ := (h.below b).cell i f hf
    exact ⟨a, ha, c1, c2⟩, fun f hf => soft_below (new_soft (nw f hf)) b, fun f hf => (nw f hf).base, low.trans (b.mono low.size)⟩
theorem FlipRel.at {w1 wr : World} {p : Option Addr} {fs : List Fld} (h : FlipRel w1 wr p fs) {i : Nat} (hi : i < fs.length) : ∃ a f, p = some a ∧ fs[i]? = some f ∧ wr.cell? (a.add (i * 2)) = some (.int .u16 (f.ty : Nat)) ∧ wr.cell? ⟨(a.add (i * 2)).block, (a.add (i * 2)).off + 1, none⟩ = some (.slice f.p f.n f.c) := by
  obtain ⟨a, ha, c1, c2⟩ := h.cell i _ (List.getElem?_eq_getElem hi)
  exact ⟨a, _, ha, List.getElem?_eq_getElem hi, c1, by rw [fld_next]; exact c2⟩
theorem FlipRel.below {w1 wr w' : World} {p : Option Addr} {fs : List Fld} (h : FlipRel w1 wr p fs) (b : Below wr.heap.size wr w') : FlipRel w1 w' p fs :=
  ⟨fun i f hf => by
    obtain ⟨a, ha, c1, c2⟩ := h.cell i f hf
    exact ⟨a, ha, (b.cell (World.block_lt_of_cell? wr _ c1)).trans c1, (b.cell (World.block_lt_of_cell? wr _ c2)).trans c2⟩, fun f hf => soft_below (h.soft f hf) b, h.base, h.low.trans (b.mono h.low.size)⟩
theorem FlipRel.flip {w1 wr : World} {p : Option Addr} {fs : List Fld} (h : FlipRel w1 wr p fs) {a : Addr} {z : Int} (ha : wr.cell? a = some (.int .u8 z)) (hb : w1.heap.size ≤ a.block) (y : Int) : FlipRel w1 (wr.setCell a (.int .u8 y)) p fs :=
  ⟨fun i f hf => by
    obtain ⟨b, hb, c1, c2⟩ := h.cell i f hf
    exact ⟨b, hb, cell_stays c1 (fun z e => by cases e) ha, cell_stays c2 (fun z e => by cases e) ha⟩, fun f hf => soft_any (h.soft f hf) ha y, h.base, h.low.setCell hb _⟩

end Go.Proofs.Ytfnidehbibfclaa
