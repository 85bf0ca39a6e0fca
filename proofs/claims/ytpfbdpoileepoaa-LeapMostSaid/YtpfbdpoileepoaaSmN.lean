/- Layer 15 (smear): what follows of never back, in plain numbers: there and back. No Go in sight. -/
import Derived.Test.YtpfbdpoileepoaaSmS
set_option maxRecDepth 100000
namespace Go.Proofs.Ytpfbdpoileepoaa
open SmM

theorem to_bound {l : List Lp} (hl : l.length ≤ 32) {t : Int} (h0 : 0 ≤ t) (h1 : t ≤ topI) : t - 32000000000 ≤ toI l t ∧ toI l t ≤ t + 32000000000 := by
  unfold toI
  rw [near_of h0 h1]
  have := taken_bound l t
  omega
/-- There and back. -/
theorem there_back {l : List Lp} (ok : OkL l) (hl : l.length ≤ 32) {t s b c : Int} {i j : Bool} (h0 : 0 ≤ t) (h1 : t ≤ 2305843009213693951) (hs : toI l t = s) (hb : BackP l s b i) (hc : BackP l (s + 1) c j) :
    i = true ∧ j = true ∧ b ≤ t ∧ toI l b = s ∧ b < c ∧ s + 1 ≤ toI l c ∧ toI l c ≤ s + 2 ∧ 0 ≤ b ∧ b ≤ topI ∧ 0 ≤ c ∧ c ≤ topI := by
  have g := ok.2
  have t1 : t ≤ topI := by unfold topI; omega
  have e1 := to_bound hl h0 t1
  have e2 := to_bound hl (t := topI) (by unfold topI; omega) (Int.le_refl _)
  rcases hb with ⟨rfl, b0, b1, b2, b3⟩ | ⟨-, -, b2⟩
  · rcases hc with ⟨rfl, c0, c1, c2, c3⟩ | ⟨-, -, c2⟩
    · have bt : b ≤ t := by
        rcases Int.lt_or_le t b with k | k
        · have := b3 (by omega)
          have := to_mono g h0 (show t ≤ b - 1 by omega) (by omega)
          omega
        · exact k
      have eb : toI l b = s := by
        have := to_mono g b0 bt t1
        omega
      have bc : b < c := by
        rcases Int.lt_or_le b c with k | k
        · exact k
        · have := to_mono g c0 k b1
          omega
      have q := c3 (by omega)
      have r := to_step g (show 0 ≤ c - 1 by omega) (show c - 1 ≤ c by omega) c1
      refine ⟨rfl, rfl, bt, eb, bc, c2, ?_, b0, b1, c0, c1⟩
      rw [show c - (c - 1) = 1 by omega] at r
      omega
    · unfold topI at e2
      unfold topI at c2
      omega
  · have := to_mono g h0 t1 (Int.le_refl _)
    omega
end Go.Proofs.Ytpfbdpoileepoaa

