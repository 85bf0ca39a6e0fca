/- The walk of HeadForm: one form. -/
import Derived.Test.YtjjbalgonkphjaaHeadForm1
import Derived.Test.YtjjbalgonkphjaaHeadForm2
import Derived.Test.YtjjbalgonkphjaaHeadForm3
import Derived.Test.YtjjbalgonkphjaaHeadForm4
import Derived.Test.YtjjbalgonkphjaaHeadForm5
import Derived.Test.YtjjbalgonkphjaaHeadForm6
namespace Go.Proofs.Ytjjbalgonkphjaa
open Go.ChangeShapes Go.WideShapes Go.ChangeAt Go.RowKit OctM

theorem form_walk (w : World) (h : Hd) (x : Xt) (p1 p2 : Option Addr) (n1 c1 n2 c2 : Nat) (bs es : List Nat) (hw : h.wf) (h1 : Holds w p1 n1 c1 (valsN .u8 bs)) (h2 : Holds w p2 n2 c2 (valsN .u8 es)) (y1 : Byt bs) (y2 : Byt es) :
    Calls Try.prog 5 #[pkV h x, .slice p1 n1 c1, .slice p2 n2 c2] w fun e w' => e = .returned (.bool true) ∧ Below w.heap.size w w' := by
  have D1 := holdsN_take h1 (k := min n1 100) (by omega)
  have D2 := holdsN_take h2 (k := min n2 100) (by omega)
  have l1 : (bs.take (min n1 100)).length = min n1 100 := by have := D1.len; rwa [valsN_len] at this
  have l2 : (es.take (min n2 100)).length = min n2 100 := by have := D2.len; rwa [valsN_len] at this
  have c1' := h1.cap
  have c2' := h2.cap
  have I : FormIn w h p1 p2 n1 c1 (min n1 100) n2 c2 (min n2 100) (bs.take (min n1 100)) (es.take (min n2 100)) :=
    ⟨hw, fun w' b => D1.below b, fun w' b => D2.below b, byt_take y1 _, byt_take y2 _, l1, l2, by omega, by omega, by omega, by omega, by omega, by omega⟩
  by_cases hm : mayH h
  · by_cases hb : 48 ≤ min n2 100
    · by_cases hv : mayH (hdP (es.take (min n2 100)))
      · exact form_yes_ok w h x p1 p2 n1 c1 _ n2 c2 _ _ _ I hm hb hv
      · exact form_yes_form w h x p1 p2 n1 c1 _ n2 c2 _ _ _ I hm hb hv
    · exact form_yes_short w h x p1 p2 n1 c1 _ n2 c2 _ _ _ I hm (by omega)
  · by_cases hb : 48 ≤ min n2 100
    · by_cases hv : mayH (hdP (es.take (min n2 100)))
      · exact form_no_ok w h x p1 p2 n1 c1 _ n2 c2 _ _ _ I hm hb hv
      · exact form_no_form w h x p1 p2 n1 c1 _ n2 c2 _ _ _ I hm hb hv
    · exact form_no_short w h x p1 p2 n1 c1 _ n2 c2 _ _ _ I hm (by omega)
end Go.Proofs.Ytjjbalgonkphjaa
