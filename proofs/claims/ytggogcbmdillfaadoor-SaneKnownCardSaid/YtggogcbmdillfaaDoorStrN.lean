/- Strings of bytes that differ, opaque in a walk: for every stage. ('attribute [local go_sem ↓] neqS_eq' in the text that walks.) -/
import Derived.Test.YtggogcbmdillfaaDoorStr
namespace Go.Proofs.YtggogcbmdillfaaDoor
open Go.ChangeShapes Go.WideShapes Go.ChangeAt Go.RowKit OctM

def neqS (x y : Value) : Sem Value := binOp .neq 9 x y
theorem neqS_eq (x y : Value) : binOp .neq 9 x y = neqS x y := rfl
theorem neq_str (w : World) {a b : List Nat} (ha : Byt a) (hb : Byt b) : (neqS (.string (strN a)) (.string (strN b))).run Tryd.prog w = .ok (.bool (!decide (a = b))) w := by
  have e : ((strN a).toList == (strN b).toList) = decide (a = b) := by
    rw [Bool.eq_iff_iff, decide_eq_true_iff, beq_iff_eq, ByteArray.toList_eq, ByteArray.toList_eq]
    exact ⟨fun h => strN_inj ha hb (ByteArray.ext (Array.ext' h)), fun h => by rw [h]⟩
  unfold neqS
  simp [go_sem]
  exact e
end Go.Proofs.YtggogcbmdillfaaDoor

