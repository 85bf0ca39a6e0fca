/- Layer 15 (smear), work ahead, the document's own: Within, New. -/
import Derived.Test.YtpfbdpoileepoaaSmA
import Derived.BigRegion
import Derived.BigQuiet
import Derived.Deep.DeepCutAuto
import Derived.Deep.CutBlock
import Derived.Deep.CutRange
set_option maxRecDepth 100000
namespace Go.Proofs.Ytpfbdpoileepoaa
open Go.ChangeShapes Go.WideShapes Go.ChangeAt Go.RowKit SmM

/-- Does an instant stand in a leap's day? -/
def dayB (x : Lp) (s : Int) : Bool := decide (x.t - halfI ≤ s) && decide (s < x.t + halfI)
/-- Whose day it is; -1: nobody's. -/
def withinI (l : List Lp) (s : Int) : Int := match l.findIdx? (fun x => dayB x s) with | some i => (i : Int) | none => -1
theorem within_some {l : List Lp} {s : Int} {i : Nat} (h : i < l.length) (d : dayB (gl l i) s = true) (b : ∀ j, j < i → dayB (gl l j) s = false) : withinI l s = (i : Int) := by
  unfold withinI
  rw [List.findIdx?_eq_some_iff_getElem.2 ⟨h, by rw [← gl_of h]; exact d, fun j hj => by rw [← gl_of (by omega)]; rw [b j hj]; decide⟩]
theorem within_none {l : List Lp} {s : Int} (b : ∀ j, j < l.length → dayB (gl l j) s = false) : withinI l s = -1 := by
  unfold withinI
  rw [List.findIdx?_eq_none_iff.2 fun x hx => by
    obtain ⟨j, hj, rfl⟩ := List.getElem_of_mem hx
    rw [← gl_of hj]
    exact b j hj]

end Go.Proofs.Ytpfbdpoileepoaa

