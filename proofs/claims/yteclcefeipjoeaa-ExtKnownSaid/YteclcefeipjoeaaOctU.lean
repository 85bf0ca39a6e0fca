/- Contracts of the document's own answers for layer 3 (octet): what a signed number stands as. -/
import Derived.Test.YteclcefeipjoeaaOctS
namespace Go.Proofs.Yteclcefeipjoeaa
open Go.ChangeShapes Go.WideShapes Go.ChangeAt Go.RowKit OctM

theorem absM_lt (n : Int) (h : I64 n) : absM n < 9223372036854775808 := by unfold absM; unfold I64 at h; split <;> omega
theorem absM_neg (n : Int) (h : n < 0) : -(n + 1) = (absM n : Nat) := by unfold absM; rw [if_pos h]; omega
theorem absM_pos (n : Int) (h : 0 ≤ n) : n = (absM n : Nat) := by unfold absM; rw [if_neg (by omega)]; omega

end Go.Proofs.Yteclcefeipjoeaa

