/- Layer 15 (smear), the laws: awake: the chapter's examples. -/
import Derived.Test.YtpfbdpoileepoaaSmE
set_option maxRecDepth 100000
namespace Go.Proofs.Ytpfbdpoileepoaa
open Go.ChangeShapes Go.WideShapes Go.ChangeAt Go.RowKit SmM

/-- Leaps as a slice's literal makes them. -/
theorem own_made {w : World} {S n B : Nat} {cs : Array Value} {l : List Lp} (h : w.heap[S]? = some (.cells cs 33 (0, 0))) (hc : cs.toList = cellsL l) (hn : l.length = n) (hm : n ≤ maxLen) (hB : B ≤ S) : OwnL w B (some ⟨S, 0, none⟩) n n l := by
  have sz : cs.size = n * 2 := by rw [← Array.length_toList, hc, cellsL_len, hn]
  exact ⟨by rw [cellsL_len, hn], .inr ⟨S, n, cs, rfl, hB, h, Nat.le_refl _, hm, sz, by rw [← hc, ← sz, ← Array.length_toList, List.take_length]⟩⟩
def aw1 : List Lp := [⟨864000000000000, 1⟩]
def aw2 : List Lp := [⟨864000000000000, 1⟩, ⟨950400000000000, 1⟩]
theorem aw1_ok : OkL aw1 := by
  refine ⟨fun y hy => ?_, trivial⟩
  obtain rfl := List.mem_singleton.1 hy
  unfold dayI topI
  decide
theorem aw2_bad : ¬ OkL aw2 := by
  rintro ⟨-, h, -⟩
  exact absurd h (by decide)
theorem aw2_in : ∀ y ∈ aw2, I64 y.t ∧ I64 y.k := by
  intro y hy
  unfold I64
  simp only [aw2, List.mem_cons, List.not_mem_nil, or_false] at hy
  rcases hy with rfl | rfl <;> decide
end Go.Proofs.Ytpfbdpoileepoaa

