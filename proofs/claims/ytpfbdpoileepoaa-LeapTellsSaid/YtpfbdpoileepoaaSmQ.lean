/- Layer 15 (smear), the laws: slices.Equal of the same leaps. -/
import Derived.Test.YtpfbdpoileepoaaSmD
import Derived.RegionTactic
import Derived.Deep.QuietTactic
import Derived.BigQuiet
import Derived.Laws.StructEq
set_option maxRecDepth 100000
namespace Go.Proofs.Ytpfbdpoileepoaa
open Go.ChangeShapes Go.WideShapes Go.ChangeAt Go.RowKit SmM

theorem neq_lp (w : World) (t k : Int) : (binOp .neq 33 (.agg #[.int .i64 t, .int .i64 k]) (.agg #[.int .i64 t, .int .i64 k])).run Try.prog w = .ok (.bool false) w := by
  rw [run_neq_struct]
  rw [run_equalIn_agg w _ _ _ _ (by kernel_rfl) (by kernel_rfl)]
  rw [show (Try.prog.fieldsOf 33).toList = _ from rfl]
  simp [go_sem, Op.eqFields]
end Go.Proofs.Ytpfbdpoileepoaa

