/- Contracts of the document's own answers for layer 3 (octet): a number put in its place. -/
import Derived.Test.YteclcefeipjoeaaOctS
namespace Go.Proofs.Yteclcefeipjoeaa
open Go.ChangeShapes Go.WideShapes Go.ChangeAt Go.RowKit OctM

/-- What Put leaves: new bytes, the call's own. -/
structure RowPost (w : World) (n : Nat) (ds : List Nat) (e : Ending) (w' : World) : Prop where
  out : ∃ v, e = .returned (.tuple #[v, .int .i64 0]) ∧ w'.ownsRow w.heap.size 5 1 v n (valsN .u8 ds) ∧ Below w.heap.size w w'

theorem holdsN_take {w : World} {p : Option Addr} {n c k : Nat} {ds : List Nat} (h : Holds w p n c (valsN .u8 ds)) (hk : k ≤ n) : Holds w p k c (valsN .u8 (ds.take k)) := by
  refine ⟨?_, by have := h.cap; omega, h.max, h.bare, fun i u hu => ?_⟩
  · have := h.len
    rw [valsN_len] at this ⊢
    rw [List.length_take]
    omega
  · refine h.cell i u ?_
    unfold valsN at hu ⊢
    rw [List.map_take, List.getElem?_take] at hu
    split at hu
    · exact hu
    · cases hu
theorem holdsN_drop {w : World} {a : Addr} {n c k : Nat} {ds : List Nat} (h : Holds w (some a) n c (valsN .u8 ds)) : ∀ j u, (valsN .u8 (ds.drop k))[j]? = some u → w.cell? ((a.add k).add j) = some u := by
  intro j u hu
  unfold valsN at hu
  rw [List.map_drop, List.getElem?_drop] at hu
  obtain ⟨a', e, hc⟩ := h.cell _ _ hu
  cases e
  rw [add_add]
  exact hc

end Go.Proofs.Yteclcefeipjoeaa

