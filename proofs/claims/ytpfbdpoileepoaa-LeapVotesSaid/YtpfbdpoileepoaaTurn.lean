/- Of all that was there, one block alone has turned: for every stage. -/
import Derived.Test.YtpfbdpoileepoaaBase
namespace Go.Proofs.Ytpfbdpoileepoaa
open Go.ChangeShapes Go.WideShapes Go.ChangeAt Go.RowKit

/-- Of all that was there, one block alone has turned. -/
structure Turn (N : Nat) (w w' : World) : Prop where
  keep : ∀ M, M ≠ N → M < w.heap.size → w'.heap[M]? = w.heap[M]?
  low : ∀ B, B ≤ N → B ≤ w.heap.size → Below B w w'
theorem Turn.of_below {N : Nat} {w w' : World} (h : Below w.heap.size w w') : Turn N w w' := ⟨fun M _ hM => h.block M hM, fun _ _ hB => h.mono hB⟩
theorem Turn.size {N : Nat} {w w' : World} (h : Turn N w w') : w.heap.size ≤ w'.heap.size := (h.low 0 (Nat.zero_le _) (Nat.zero_le _)).size
theorem Turn.set {N o : Nat} {w w' : World} (h : Turn N w w') (v : Value) : Turn N w (w'.setCell ⟨N, o, none⟩ v) :=
  ⟨fun M hM hl => (Below.heap_setCell w' ⟨N, o, none⟩ v M hM).trans (h.keep M hM hl), fun B hB hB' => (h.low B hB hB').setCell hB v⟩
theorem Turn.drew {N : Nat} {w w' : World} (h : Turn N w w') : Turn N w w'.drew := ⟨h.keep, fun B hB hB' => (h.low B hB hB').drew⟩
theorem Turn.drewN {N : Nat} {w w' : World} (h : Turn N w w') (n : Nat) : Turn N w (w'.drewN n) := ⟨fun M hM hl => ((below_drewN (Below.refl (M + 1) w') n).block M (by omega)).trans (h.keep M hM hl), fun B hB hB' => below_drewN (h.low B hB hB') n⟩
/-- A call that turns a block of one's own alone. -/
theorem Turn.below {N : Nat} {W w w' : World} (h : Turn N w w') (b : Below W.heap.size W w) (hN : W.heap.size ≤ N) : Below W.heap.size W w' := b.trans (h.low _ hN b.size)
theorem Turn.trans {N : Nat} {a b c : World} (h : Turn N a b) (k : Turn N b c) : Turn N a c :=
  ⟨fun M hM hl => (k.keep M hM (Nat.lt_of_lt_of_le hl h.size)).trans (h.keep M hM hl), fun B hB hB' => (h.low B hB hB').trans (k.low B hB (Nat.le_trans hB' h.size))⟩
end Go.Proofs.Ytpfbdpoileepoaa

