/- Layer 15 (smear), work ahead, the document's own: rows of leaps; near, one, Taken, To. -/
import Derived.Test.YtpfbdpoileepoaaSmM
import Derived.Test.YtpfbdpoileepoaaSlice
import Derived.Test.YtpfbdpoileepoaaTurn
import Derived.OneCell
import Derived.Deep.RegionHeld3
set_option maxRecDepth 100000
namespace Go.Proofs.Ytpfbdpoileepoaa
open Go.ChangeShapes Go.WideShapes Go.ChangeAt Go.RowKit SmM

def zeroL : Lp := ⟨0, 0⟩
def gl (l : List Lp) (i : Nat) : Lp := l.getD i zeroL
theorem gl_of {l : List Lp} {i : Nat} (h : i < l.length) : gl l i = l[i] := by
  unfold gl
  rw [List.getD_eq_getElem?_getD, List.getElem?_eq_getElem h]
  rfl
theorem gl_mem {l : List Lp} {i : Nat} (h : i < l.length) : gl l i ∈ l := by rw [gl_of h]; exact List.getElem_mem h
/-- Leaps behind a slice, as what may be read. -/
structure HoldsL (w : World) (p : Option Addr) (n c : Nat) (l : List Lp) : Prop where
  len : l.length = n
  cap : n ≤ c
  max : c ≤ maxLen
  cell : ∀ i, i < n → ∃ a, p = some a ∧ w.cell? (a.add (i * 2)) = some (.int .i64 (gl l i).t) ∧ w.cell? ⟨(a.add (i * 2)).block, (a.add (i * 2)).off + 1, none⟩ = some (.int .i64 (gl l i).k)
theorem HoldsL.below {w w' : World} {p : Option Addr} {n c : Nat} {l : List Lp} (h : HoldsL w p n c l) (b : Below w.heap.size w w') : HoldsL w' p n c l :=
  ⟨h.len, h.cap, h.max, fun i hi => by
    obtain ⟨a, ha, c1, c2⟩ := h.cell i hi
    exact ⟨a, ha, (b.cell (World.block_lt_of_cell? w _ c1)).trans c1, (b.cell (World.block_lt_of_cell? w _ c2)).trans c2⟩⟩
/-- Leaps that may be. -/
def InL (l : List Lp) : Prop := ∀ y ∈ l, dayI ≤ y.t ∧ y.t ≤ topI ∧ (y.k = 1 ∨ y.k = -1)

theorem taken_take {l : List Lp} {i : Nat} (h : i < l.length) (t : Int) : takenI (l.take (i + 1)) t = takenI (l.take i) t + oneI (gl l i) t := by
  unfold takenI
  rw [List.take_succ_eq_append_getElem h, List.map_append, List.sum_append, List.map_cons, List.map_nil, List.sum_cons, List.sum_nil, Int.add_zero, gl_of h]
end Go.Proofs.Ytpfbdpoileepoaa

