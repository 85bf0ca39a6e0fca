/- Layer 3 (octet): the program's At. -/
import Derived.Test.YtjjbalgonkphjaaOctK
namespace Go.Proofs.Ytjjbalgonkphjaa
open Go.ChangeShapes Go.WideShapes Go.ChangeAt Go.RowKit OctM

end Go.Proofs.Ytjjbalgonkphjaa

