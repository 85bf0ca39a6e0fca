/- Contracts of the document's own answers for layer 3 (octet): bytes in new memory, places. -/
import Derived.Test.YtjjbalgonkphjaaOctD
namespace Go.Proofs.Ytjjbalgonkphjaa
open Go.ChangeShapes Go.WideShapes Go.ChangeAt Go.RowKit OctM

/-- New bytes, the call's own. -/
structure OwnPost (w : World) (n : Nat) (ds : List Nat) (e : Ending) (w' : World) : Prop where
  out : ∃ v, e = .returned v ∧ w'.ownsRow w.heap.size 5 1 v n (valsN .u8 ds) ∧ Below w.heap.size w w'

end Go.Proofs.Ytjjbalgonkphjaa

