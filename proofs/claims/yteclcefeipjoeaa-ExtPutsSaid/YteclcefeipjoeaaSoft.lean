/- A row of bytes that may be written: for every stage. -/
import Derived.Test.YteclcefeipjoeaaOctV
namespace Go.Proofs.Yteclcefeipjoeaa
open Go.ChangeShapes Go.WideShapes Go.ChangeAt Go.RowKit OctM

/-- Bytes that may be written, whatever stands in them. -/
structure Soft (w : World) (p : Option Addr) (n : Nat) : Prop where
  cell : ∀ i, i < n → ∃ a z, p = some a ∧ w.cell? (a.add i) = some (.int .u8 z) ∧ w.frozen? (a.add i) = false

theorem new_soft {B : Nat} {w : World} {p : Option Addr} {n c : Nat} {ds : List Nat} (h : New B w p n c (valsN .u8 ds)) : Soft w p n := by
  refine ⟨fun i hi => ?_⟩
  obtain ⟨a, ha, hc⟩ := h.holds.atN hi
  exact ⟨a, _, ha, hc, h.free a ha i hi⟩
theorem soft_below {w w' : World} {p : Option Addr} {n : Nat} (h : Soft w p n) (hb : Below w.heap.size w w') : Soft w' p n := by
  refine ⟨fun i hi => ?_⟩
  obtain ⟨a, z, ha, hc, hf⟩ := h.cell i hi
  have lt := World.block_lt_of_cell? w _ hc
  exact ⟨a, z, ha, (hb.cell lt).trans hc, (hb.frozen lt).trans hf⟩
theorem soft_set {w : World} {a : Addr} {n k : Nat} (h : Soft w (some a) n) (hk : k < n) (z : Int) : Soft (w.setCell (a.add k) (.int .u8 z)) (some a) n := by
  refine ⟨fun i hi => ?_⟩
  obtain ⟨a1, z1, e1, c1, f1⟩ := h.cell i hi
  obtain ⟨a2, z2, e2, c2, f2⟩ := h.cell k hk
  cases e1
  cases e2
  by_cases e : a.add k = a.add i
  · exact ⟨a, z, rfl, by rw [← e]; exact World.cell?_setCell_same _ _ _ c2, by rw [World.frozen?_setCell, ← e]; exact f2⟩
  · exact ⟨a, z1, rfl, by rw [World.cell?_setCell_other _ _ _ _ e]; exact c1, by rw [World.frozen?_setCell]; exact f1⟩
end Go.Proofs.Yteclcefeipjoeaa
