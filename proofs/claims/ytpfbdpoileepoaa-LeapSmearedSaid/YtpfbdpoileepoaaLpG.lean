/- Layer 16 (leap), work ahead: an append of leaps that came in, whatever their pointer. -/
import Derived.Test.YtpfbdpoileepoaaLpE
import Derived.Deep.AppendLies
import Derived.BigRegion
import Derived.Deep.RegionHeld3
set_option maxRecDepth 100000
namespace Go.Proofs.Ytpfbdpoileepoaa
open Go.ChangeShapes Go.WideShapes Go.ChangeAt Go.RowKit SmM

theorem append_lps {w : World} {ops : Array Oper} {rest : List Oper} {o : Oper} {a : Act} {Q : Exit → Act → World → Prop} (hgd : o.guard = none) (s x : Operand)
    (ho : o.op = .call { callee := .builtin .append, args := #[s, x], argTypes := #[22, 22] })
    (base : Nat) (v : Value) (n : Nat) (l0 : List Lp) (hs : a.eval s = v) (hown : w.ownsRow base 33 2 v n (cellsL l0))
    (p : Option Addr) (m c : Nat) (l : List Lp) (hx : a.eval x = .slice p m c) (hh : HoldsL w p m c l) (bare : p = none → c = 0)
    (h63 : n + m ≤ 1000) (hbase : base ≤ w.heap.size)
    (h : ∀ p' c' w', w'.ownsRow base 33 2 (.slice p' (n + m) c') (n + m) (cellsL (l0 ++ l)) → w.grownBy w' v.ownBlock → wpList Try.prog ops Q rest (a.put o.dst (.slice p' (n + m) c')) w') : wpList Try.prog ops Q (o :: rest) a w := by
  obtain ⟨i, hi, hz0, hz1, hz2⟩ := infoLp_of infoLp
  rcases p with _ | ad
  · have c0 := bare rfl
    have m0 : m = 0 := by have := hh.cap; omega
    subst c0 m0
    have l00 : l = [] := List.length_eq_zero_iff.1 hh.len
    subst l00
    obtain ⟨p', c', e⟩ := own_slice hown
    refine wpList_append_own_none hgd s x _ ho base 33 i 2 Try.underlying22 hi v n (cellsL l0) hs hown hx ?_
    simp only [Nat.add_zero, List.append_nil] at h
    subst e
    exact h p' c' w hown (World.grownBy.refl w _)
  · refine wpList_append_own w hgd s x _ ho base 33 i (.agg #[.int .i64 0, .int .i64 0]) 2 16 Try.underlying22 hi hz0 hz1 hz2 rfl (by decide) v n (cellsL l0) hs hown ad m c (cellsL l) hx (by rw [cellsL_len, hh.len]) (cells_at hh rfl) (cellsL_one l) (by unfold maxLen; omega) (by omega) hbase ?_
    intro v' w' o' g _
    obtain ⟨p', c', rfl⟩ := own_slice o'
    exact h p' c' w' (by rw [cellsL_app]; exact o') g
end Go.Proofs.Ytpfbdpoileepoaa
