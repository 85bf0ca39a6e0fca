/- Layer 4 (head): two heads' fields are compared as a struct. -/
import Derived.Test.YtjjbalgonkphjaaHeadA
import Derived.Laws.StructEq
namespace Go.Proofs.Ytjjbalgonkphjaa
open Go.ChangeShapes Go.WideShapes Go.ChangeAt Go.RowKit

instance : DecidableEq Hd := fun a b => decidable_of_iff (a.lp = b.lp ∧ a.ve = b.ve ∧ a.mo = b.mo ∧ a.st = b.st ∧ a.po = b.po ∧ a.pr = b.pr ∧ a.de = b.de ∧ a.di = b.di ∧ a.ri = b.ri ∧ a.rf = b.rf ∧ a.og = b.og ∧ a.rc = b.rc ∧ a.xm = b.xm) (by cases a; cases b; simp)

def eqlF (x y : Value) : Sem Value := binOp .eql 57 x y
theorem eqlF_eq (x y : Value) : binOp .eql 57 x y = eqlF x y := rfl
def guardF (a b : Operand) (x y : Value) : Sem Unit := eqGuard .eql 57 a b x y
theorem guardF_eq (a b : Operand) (x y : Value) : eqGuard .eql 57 a b x y = guardF a b x y := rfl

theorem guard_fl (w : World) (a b : Operand) (h g : Hd) : (guardF a b (.agg (flC h)) (.agg (flC g))).run Try.prog w = .ok () w :=
  run_eqGuard_agg w .eql 57 a b _ _ (by kernel_rfl)

theorem eql_fl (w : World) (h g : Hd) : (eqlF (.agg (flC h)) (.agg (flC g))).run Try.prog w = .ok (.bool (decide (h = g))) w := by
  unfold eqlF
  rw [run_eql_struct, run_equalIn_agg w _ _ _ _ (by kernel_rfl) (by kernel_rfl)]
  obtain ⟨a1, a2, a3, a4, a5, a6, a7, a8, a9, a10, a11, a12, a13⟩ := h
  obtain ⟨b1, b2, b3, b4, b5, b6, b7, b8, b9, b10, b11, b12, b13⟩ := g
  rw [show (Try.prog.fieldsOf 57).toList = _ from rfl]
  simp [go_sem, flC, Op.eqFields]
  simp only [Int.natCast_inj]
  by_cases e1 : a1 = b1
  case neg => simp only [e1, if_false, decide_false, Bool.false_and]
  subst e1
  simp only [if_true, decide_true, Bool.true_and]
  by_cases e2 : a2 = b2
  case neg => simp only [e2, if_false, decide_false, Bool.false_and]
  subst e2
  simp only [if_true, decide_true, Bool.true_and]
  by_cases e3 : a3 = b3
  case neg => simp only [e3, if_false, decide_false, Bool.false_and]
  subst e3
  simp only [if_true, decide_true, Bool.true_and]
  by_cases e4 : a4 = b4
  case neg => simp only [e4, if_false, decide_false, Bool.false_and]
  subst e4
  simp only [if_true, decide_true, Bool.true_and]
  by_cases e5 : a5 = b5
  case neg => simp only [e5, if_false, decide_false, Bool.false_and]
  subst e5
  simp only [if_true, decide_true, Bool.true_and]
  by_cases e6 : a6 = b6
  case neg => simp only [e6, if_false, decide_false, Bool.false_and]
  subst e6
  simp only [if_true, decide_true, Bool.true_and]
  by_cases e7 : a7 = b7
  case neg => simp only [e7, if_false, decide_false, Bool.false_and]
  subst e7
  simp only [if_true, decide_true, Bool.true_and]
  by_cases e8 : a8 = b8
  case neg => simp only [e8, if_false, decide_false, Bool.false_and]
  subst e8
  simp only [if_true, decide_true, Bool.true_and]
  by_cases e9 : a9 = b9
  case neg => simp only [e9, if_false, decide_false, Bool.false_and]
  subst e9
  simp only [if_true, decide_true, Bool.true_and]
  by_cases e10 : a10 = b10
  case neg => simp only [e10, if_false, decide_false, Bool.false_and]
  subst e10
  simp only [if_true, decide_true, Bool.true_and]
  by_cases e11 : a11 = b11
  case neg => simp only [e11, if_false, decide_false, Bool.false_and]
  subst e11
  simp only [if_true, decide_true, Bool.true_and]
  by_cases e12 : a12 = b12
  case neg => simp only [e12, if_false, decide_false, Bool.false_and]
  subst e12
  simp only [if_true, decide_true, Bool.true_and]
  by_cases e13 : a13 = b13
  case neg => simp only [e13, if_false, decide_false]
  subst e13
  simp only [if_true, decide_true]

end Go.Proofs.Ytjjbalgonkphjaa
