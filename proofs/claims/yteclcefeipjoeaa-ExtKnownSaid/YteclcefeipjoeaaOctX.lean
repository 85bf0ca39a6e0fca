/- Layer 3 (octet): the document's own answers on places and signed numbers, in one form. -/
import Derived.Test.YteclcefeipjoeaaOctV
namespace Go.Proofs.Yteclcefeipjoeaa
open Go.ChangeShapes Go.WideShapes Go.ChangeAt Go.RowKit OctM

theorem okS_nat {z : Int} (h : okS z) : ∃ s : Nat, z = (s : Int) ∧ 1 ≤ s ∧ s ≤ 8 ∧ z.toNat = s := by
  unfold okS at h
  exact ⟨z.toNat, by omega, by omega, by omega, rfl⟩

end Go.Proofs.Yteclcefeipjoeaa

