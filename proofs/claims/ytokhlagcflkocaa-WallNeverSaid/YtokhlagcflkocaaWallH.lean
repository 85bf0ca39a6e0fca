/- Layer 12 (wall): when a wall tells a time, in plain numbers. No Go in sight. -/
import Derived.Test.YtokhlagcflkocaaWallM
namespace Go.Proofs.Ytokhlagcflkocaa.WallM

theorem when_alt (b t : Int) : (whenB b t = true ∧ whenN b t = 0 ∧ t ≤ atW b 0) ∨
    (whenB b t = true ∧ 0 < whenN b t ∧ whenN b t ≤ 4611686018427387904 ∧ atW b (whenN b t) = t ∧ atW b (whenN b t - 1) < t) ∨
    (whenB b t = false ∧ whenN b t = 0 ∧ atW b 4611686018427387904 < t) := by
  by_cases h : t ≤ atW b 0
  · exact .inl ⟨(when_now h).1, (when_now h).2, h⟩
  · by_cases g : t ≤ 4611686018427387904 ∧ t - b ≤ 4611686018427387904
    · rw [(when_yes h g.1 g.2).1, (when_yes h g.1 g.2).2]
      have a0 := at_ge (m := 0) h g.1 (by decide) (by decide)
      have a1 := at_ge (m := t - b) h g.1 (by omega) g.2
      have a2 := at_ge (m := t - b - 1) h g.1 (by omega) (by omega)
      have i := atW_in b 0
      refine .inr (.inl ⟨rfl, by omega, g.2, ?_, by omega⟩)
      rw [atW_of (by omega) g.2, show t - b + b = t by omega]
      exact inst_of (by omega) g.1
    · rw [(when_no h g).1, (when_no h g).2]
      refine .inr (.inr ⟨rfl, rfl, ?_⟩)
      have i := atW_in b 4611686018427387904
      by_cases h2 : t ≤ 4611686018427387904
      · have := at_ge (m := 4611686018427387904) h h2 (by decide) (by decide)
        omega
      · omega
end Go.Proofs.Ytokhlagcflkocaa.WallM
