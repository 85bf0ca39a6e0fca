/- Layer 15 (smear), the laws: slices.Equal of the same leaps. -/
import Derived.Test.YtmafjhggjpjgmaaSmD
import Derived.RegionTactic
import Derived.Deep.QuietTactic
import Derived.BigQuiet
import Derived.Laws.StructEq
set_option maxRecDepth 100000
namespace Go.Proofs.Ytmafjhggjpjgmaa
open Go.ChangeShapes Go.WideShapes Go.ChangeAt Go.RowKit SmM

theorem neq_lp (w : World) (t k : Int) : (binOp .neq 26 (.agg #[.int .i64 t, .int .i64 k]) (.agg #[.int .i64 t, .int .i64 k])).run Try.prog w = .ok (.bool false) w := by
  rw [run_neq_struct]
  rw [run_equalIn_agg w _ _ _ _ (by kernel_rfl) (by kernel_rfl)]
  rw [show (Try.prog.fieldsOf 26).toList = _ from rfl]
  simp [go_sem, Op.eqFields]
set_option maxHeartbeats 2000000 in
theorem sequal15 (w : World) (p q : Option Addr) (n c d : Nat) (l : List Lp) (ha : HoldsL w p n c l) (hb : HoldsL w q n d l) (hn : n ≤ 1000) :
    Calls Try.prog 14 #[.slice p n c, .slice q n d] w fun e w' => e = .returned (.bool true) ∧ ∃ k, w' = w.drewN k := by
  have HA := Lib.hid ha
  have HB := Lib.hid hb
  have hn' : (n : Int) ≤ 1000 := by omega
  have HN := Lib.hid hn
  clear ha hb hn
  go_enter Try.func14, Try.ntmps14
  go_wp2_with fail
  go_loopw [13] (fun i wr => ∃ k j : Nat, i = .int .i64 k ∧ Hid (k ≤ n) ∧ wr = w.drewN j) (fun i _ => 2000 - (intOf i).toNat)
  case atStart => exact ⟨0, 0, rfl, Nat.zero_le _, rfl⟩
  case round =>
    obtain ⟨k, j, rfl, hk, rfl⟩ := hrel
    by_cases g : k < n
    · have g' : (k : Int) < (n : Int) := by omega
      have G := Lib.hid g
      obtain ⟨x, ex, cx, cx2⟩ := HA.out.cell k g
      obtain ⟨y, ey, cy, cy2⟩ := HB.out.cell k g
      subst ex ey
      obtain ⟨u, hu⟩ : ∃ u, gl l k = u := ⟨_, rfl⟩
      rw [hu] at cx cx2 cy cy2
      obtain ⟨xt, xk⟩ := u
      dsimp only at cx cx2 cy cy2
      have NQ := fun w => neq_lp w xt xk
      clear g hu
      go_wp2_with fail
      go_quiet (fail)
      go_wp2
      go_roundw
      case rel => exact ⟨k + 1, _, by go_num, G.out, rfl⟩
      case measure => simp [intOf]; omega
    · have g' : (n : Int) ≤ (k : Int) := by omega
      clear g hk
      go_wp2
      go_ret
      exact ⟨rfl, _, rfl⟩
end Go.Proofs.Ytmafjhggjpjgmaa
