/- Layer 13 (heap), the document's own: an item goes down. -/
import Derived.Test.YtbfmmeapjfljbaaHeapC
set_option maxRecDepth 100000
namespace Go.Proofs.Ytbfmmeapjfljbaa
open Go.ChangeShapes Go.WideShapes Go.ChangeAt Go.RowKit HeapM

theorem bestF_lt {l : List It} {k : Nat} (h : k < l.length) (i : Nat) : bestF l k i < l.length := by
  rcases bestF_in l k i with e | ⟨_, _, e⟩
  · rw [e]; exact h
  · exact e

end Go.Proofs.Ytbfmmeapjfljbaa

