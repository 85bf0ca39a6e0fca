/- A box as a thing beside the heaps. -/
import Derived.Test.YtlfbenlojiiknaaHeapPlaysN
namespace Go.Proofs.Ytlfbenlojiiknaa
open Go.ChangeShapes Go.WideShapes Go.ChangeAt Go.RowKit HeapM
def boxTh (K : Nat) (o : Obj) : Th := ⟨fun w F => w.heap[K]? = some o ∧ ∀ J, F J ↔ J = K, fun h k => ⟨(k K ((h.2 K).2 rfl)).trans h.1, h.2⟩, fun h J j => by rw [(h.2 J).1 j]; exact (Array.getElem?_eq_some_iff.1 h.1).1⟩
theorem Side.box {w : World} {B0 : Nat} {v wr : World} {T1 T2 : Th} {K : Nat} {o : Obj} (h : Side w B0 v wr T1 T2 (boxTh K o)) : wr.heap[K]? = some o := by
  obtain ⟨F, G, H, -, -, q, -⟩ := h.out
  exact q.1
end Go.Proofs.Ytlfbenlojiiknaa
