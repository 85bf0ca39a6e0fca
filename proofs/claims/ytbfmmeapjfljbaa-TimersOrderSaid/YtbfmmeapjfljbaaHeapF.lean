/- Layer 13 (heap), the document's own: Set. -/
import Derived.Test.YtbfmmeapjfljbaaHeapE
set_option maxRecDepth 100000
namespace Go.Proofs.Ytbfmmeapjfljbaa
open Go.ChangeShapes Go.WideShapes Go.ChangeAt Go.RowKit HeapM

theorem placeI_some {l : List It} {d k : Nat} (h : place l d = some k) : placeI l d = (k : Nat) := by unfold placeI; rw [h]
theorem placeI_none {l : List It} {d : Nat} (h : place l d = none) : placeI l d = -1 := by unfold placeI; rw [h]

/-- What Set tells, and what it makes. -/
def setE (l : List It) (x : It) : Int := if (place l x.id).isSome then 0 else 6
def setR (l : List It) (x : It) : List It := match place l x.id with | some k => setL l k x | none => l
theorem set_none {l : List It} {x : It} (h : place l x.id = none) : setE l x = 6 ∧ setR l x = l := by unfold setE setR; rw [h]; exact ⟨rfl, rfl⟩
theorem set_some {l : List It} {x : It} {k : Nat} (h : place l x.id = some k) : setE l x = 0 ∧ setR l x = setL l k x := by unfold setE setR; rw [h]; exact ⟨rfl, rfl⟩

/-- The end that Set and Remove share: up, and, if it did not, down. -/
theorem settle_up {l : List It} {k : Nat} (h : upB l k = true) : settleL l k = upL l k := by unfold settleL; rw [if_pos h]
theorem settle_down {l : List It} {k : Nat} (h : upB l k = false) : settleL l k = downL l k ∧ upL l k = l := ⟨by unfold settleL; rw [if_neg (by rw [h]; decide)], upL_stay h⟩
end Go.Proofs.Ytbfmmeapjfljbaa

