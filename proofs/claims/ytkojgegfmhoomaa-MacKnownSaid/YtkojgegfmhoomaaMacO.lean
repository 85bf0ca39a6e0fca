/- Layer 6 (mac), the program's own state: four numbers in a block. -/
import Derived.Test.YtkojgegfmhoomaaMacD
namespace Go.Proofs.Ytkojgegfmhoomaa
open Go.ChangeShapes Go.WideShapes Go.ChangeAt Go.RowKit OctM

/-- A state of the program's lies in block B. -/
def StP (W : World) (B : Nat) (s : St) : Prop := W.heap[B]? = some (.cells #[.int .u64 (s.a : Nat), .int .u64 (s.b : Nat), .int .u64 (s.c : Nat), .int .u64 (s.d : Nat)] 59 (0, 0))
end Go.Proofs.Ytkojgegfmhoomaa
