/- Layer 13 (heap), the document's own: Remove, Pop. -/
import Derived.Test.YtbfmmeapjfljbaaHeapF
set_option maxRecDepth 100000
namespace Go.Proofs.Ytbfmmeapjfljbaa
open Go.ChangeShapes Go.WideShapes Go.ChangeAt Go.RowKit HeapM

theorem blk_itm {w : World} {N : Nat} {x y z : Value} {T : TypeId} (h : w.heap[N]? = some (.cells #[x, y, z] T (0, 0))) (a b c : Value) :
    (((w.setCell ⟨N, 0, none⟩ a).setCell ⟨N, 1, none⟩ b).setCell ⟨N, 2, none⟩ c).heap[N]? = some (.cells #[a, b, c] T (0, 0)) := by
  have h1 : (w.setCell ⟨N, 0, none⟩ a).heap[N]? = some (.cells #[a, y, z] T (0, 0)) := blk_set h
  have h2 : ((w.setCell ⟨N, 0, none⟩ a).setCell ⟨N, 1, none⟩ b).heap[N]? = some (.cells #[a, b, z] T (0, 0)) := blk_set h1
  exact blk_set h2
theorem three_far (w : World) {N M : Nat} (h : M ≠ N) (a b c : Value) : (((w.setCell ⟨N, 0, none⟩ a).setCell ⟨N, 1, none⟩ b).setCell ⟨N, 2, none⟩ c).heap[M]? = w.heap[M]? :=
  (Go.Deep.blk_setCell_other _ _ _ _ h).trans ((Go.Deep.blk_setCell_other _ _ _ _ h).trans (Go.Deep.blk_setCell_other _ _ _ _ h))
theorem HTurn.setNew {M o N : Nat} {p : Option Addr} {w w' : World} (h : HTurn M p w w') (hN : w.heap.size ≤ N) (v : Value) : HTurn M p w (w'.setCell ⟨N, o, none⟩ v) :=
  ⟨fun K h1 h2 h3 => (Below.heap_setCell w' ⟨N, o, none⟩ v K (show K ≠ N by omega)).trans (h.keep K h1 h2 h3), fun B h1 h2 h3 => (h.low B h1 h2 h3).setCell (show B ≤ N by omega) v, by have := h.size; simpa using this⟩

/-- What Remove tells, and what it makes. -/
def remE (l : List It) (d : Nat) : Int := if (place l d).isSome then 0 else 6
def remX (l : List It) (d : Nat) : It := match place l d with | some k => gt l k | none => zeroI
def remR (l : List It) (d : Nat) : List It := match place l d with | some k => remL l k | none => l
theorem rem_none {l : List It} {d : Nat} (h : place l d = none) : remE l d = 6 ∧ remX l d = zeroI ∧ remR l d = l := by unfold remE remX remR; rw [h]; exact ⟨rfl, rfl, rfl⟩
theorem rem_some {l : List It} {d k : Nat} (h : place l d = some k) : remE l d = 0 ∧ remX l d = gt l k ∧ remR l d = remL l k := by unfold remE remX remR; rw [h]; exact ⟨rfl, rfl, rfl⟩
theorem own_take {w : World} {T : TypeId} {B n c m : Nat} {a : Addr} {l : List It} (h : OwnI w T B (some a) n c l) (hm : m ≤ n) : OwnI w T B (some a) m c (l.take m) := by
  have hl := h.1
  rw [cellsI_len] at hl
  have ln : l.length = n := by omega
  have ct : ∀ (l : List It) (m : Nat), cellsI (l.take m) = (cellsI l).take (m * 3) := by
    intro l
    induction l with
    | nil => intro m; simp [cellsI]
    | cons x xs ih =>
      intro m
      cases m with
      | zero => simp [cellsI]
      | succ m => rw [List.take_succ_cons, cellsI_cons, cellsI_cons, ih, show (m + 1) * 3 = m * 3 + 1 + 1 + 1 by omega]; rfl
  refine ⟨by rw [cellsI_len, List.length_take]; omega, ?_⟩
  rcases h.2 with ⟨e, -⟩ | ⟨g, cap, cur, e, hb, hg, h1, h2, h3, h4⟩
  · injection e with e1 _ _; cases e1
  · injection e with e1 _ e3
    injection e1 with e1
    subst e1 e3
    exact .inr ⟨g, c, cur, rfl, hb, hg, by omega, h2, h3, by rw [ct, ← h4, List.take_take]; congr 1; omega⟩

theorem addr_zero (a : Addr) : a.add 0 = a := by unfold Addr.add; rw [if_pos rfl]
theorem place_first {x : It} {l : List It} : place (x :: l) x.id = some 0 := by
  unfold place
  rw [List.findIdx?_cons]
  simp
theorem place_zero {l : List It} (h : 0 < l.length) : place l (gt l 0).id = some 0 := by
  cases l with
  | nil => simp at h
  | cons x xs => exact place_first
/-- What Pop tells, and what it makes. -/
def popE (l : List It) : Int := if l.length = 0 then 6 else 0
def popX (l : List It) : It := if l.length = 0 then zeroI else gt l 0
def popR (l : List It) : List It := if l.length = 0 then l else remL l 0
theorem pop_none {l : List It} (h : l.length = 0) : popE l = 6 ∧ popX l = zeroI ∧ popR l = l := by unfold popE popX popR; rw [if_pos h, if_pos h, if_pos h]; exact ⟨rfl, rfl, rfl⟩
theorem pop_some {l : List It} (h : 0 < l.length) : popE l = 0 ∧ popX l = gt l 0 ∧ popR l = remL l 0 := by unfold popE popX popR; rw [if_neg (by omega), if_neg (by omega), if_neg (by omega)]; exact ⟨rfl, rfl, rfl⟩

end Go.Proofs.Ytbfmmeapjfljbaa

