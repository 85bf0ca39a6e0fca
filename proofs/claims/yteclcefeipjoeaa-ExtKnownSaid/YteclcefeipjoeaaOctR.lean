/- Contracts of the document's own answers for layer 3 (octet): sizes, widths, numbers. -/
import Derived.Test.YteclcefeipjoeaaRow
import Derived.Test.YteclcefeipjoeaaOctM
namespace Go.Proofs.Yteclcefeipjoeaa
open Go.ChangeShapes Go.WideShapes Go.ChangeAt Go.RowKit OctM

def widthI (zs : List Int) : Int := if okAll zs then sumI zs else -1

end Go.Proofs.Yteclcefeipjoeaa

