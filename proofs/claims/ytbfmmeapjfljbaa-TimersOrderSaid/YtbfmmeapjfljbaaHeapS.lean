/- Layer 13 (heap): WHAT IS ASKED OF THE PROGRAM'S HEAP, call by call: 'Hq w F N sz l': in the block N lies a heap of that size, with this row; F: the blocks that are its own. The laws' walks stand on this alone. -/
import Derived.Test.YtbfmmeapjfljbaaHeapG
set_option maxRecDepth 100000
namespace Go.Proofs.Ytbfmmeapjfljbaa
open Go.ChangeShapes Go.WideShapes Go.ChangeAt Go.RowKit HeapM

/-- Of all that was there, these blocks alone have turned. -/
structure FT (F : Nat → Prop) (w w' : World) : Prop where
  keep : ∀ K, ¬ F K → K < w.heap.size → w'.heap[K]? = w.heap[K]?
  low : ∀ B, (∀ M, F M → B ≤ M) → B ≤ w.heap.size → Below B w w'
  size : w.heap.size ≤ w'.heap.size
theorem FT.of_below {F : Nat → Prop} {w w' : World} (h : Below w.heap.size w w') : FT F w w' := ⟨fun _ _ hK => h.block _ hK, fun _ _ hB => h.mono hB, h.size⟩
theorem FT.trans {F G : Nat → Prop} {w w1 w2 : World} (h : FT F w w1) (k : FT G w1 w2) (hg : ∀ M, G M → F M ∨ w.heap.size ≤ M) : FT F w w2 := by
  refine ⟨fun K h1 h2 => ?_, fun B h1 h2 => ?_, Nat.le_trans h.size k.size⟩
  · refine (k.keep K (fun g => ?_) (Nat.lt_of_lt_of_le h2 h.size)).trans (h.keep K h1 h2)
    rcases hg K g with e | e
    · exact h1 e
    · omega
  · refine (h.low B h1 h2).trans (k.low B (fun M g => ?_) (Nat.le_trans h2 h.size))
    rcases hg M g with e | e
    · exact h1 M e
    · omega
/-- A place as Find tells it. -/
def findK (l : List It) (d : Nat) : Int := match place l d with | some k => (k : Int) | none => 0

section
variable {w wr : World} {N sz : Nat} {l : List It}
end
/-! ### Each call keeps what a heap is -/
theorem pushR_heap {sz : Int} {l : List It} (x : It) (h : Heap l) : Heap (pushR sz l x) := by
  unfold pushR
  split
  · exact h
  · split
    · exact h
    · exact push_heap x h
theorem setR_heap {l : List It} (x : It) (h : Heap l) : Heap (setR l x) := by
  unfold setR
  cases e : place l x.id with
  | none => exact h
  | some k => exact set_heap x (place_some e).1 h
theorem remR_heap {l : List It} (d : Nat) (h : Heap l) : Heap (remR l d) := by
  unfold remR
  cases e : place l d with
  | none => exact h
  | some k => exact rem_heap k h
theorem popR_heap {l : List It} (h : Heap l) : Heap (popR l) := by
  unfold popR
  split
  · exact h
  · exact rem_heap 0 h
end Go.Proofs.Ytbfmmeapjfljbaa

