/- WallNever: the function answers true at every input, and its arguments read behind the call as they read before. No conditions. -/
import Derived.Test.YtokhlagcflkocaaRows
import Derived.Test.YtokhlagcflkocaaWallNeverW
import Derived.Test.YtokhlagcflkocaaFrame
import Derived.WalkKit
import Derived.ProofKit
import Derived.OpenShut
namespace Go.Proofs.Ytokhlagcflkocaa.wallNever
open Go.ChangeShapes Go.WideShapes Go.ChangeAt Go.RowKit
set_option linter.unusedVariables false

theorem knob : ownKnob Try.prog.godebug = none := by kernel_rfl

set_option maxRecDepth 100000 in
theorem row (os : Os) (started : os.Started) (H : Type) (enc : TypeId × Value → H) :
    ReturnsInHanded {} Try.checked os 5 .any (Rows.wallNeverSpec.pre6 enc Try.prog Try.f5 Rows.wallNeverRow.domain false) (Rows.wallNeverSpec.post enc Try.prog Try.f5 false true false false) := by
  refine returnsInHanded_of_change (C := Try.checked) knob started (by kernel_rfl) Try.func5 (ChangeSpec.witness6 (enc := enc) (C := Try.checked) false ⟨#[], #[.int .i64 0, .int .i64 0, .int .i64 0, .int .i64 0, .int .i64 0], []⟩ 8 (by kernel_rfl) (by kernel_rfl) (by kernel_rfl) (by kernel_rfl)) ?_
  intro W base args ds gs before fits whole cond _
  have kept := whole
  obtain ⟨pp, qq, told, vars, rfl, frz, nd⟩ := whole
  have fit : ∀ (j : Nat) t v, Try.f5.params[j]? = some t → args[j]? = some v → Value.okWide Try.prog W .any base t v := fits
  have tell : DataW.TrodAll enc Try.prog W 0 (fun _ => true) true Try.f5.params.toList args.toList ds pp := told
  rw [Try.params5] at tell fit
  have all := tell
  obtain ⟨x0, xs0, d0, ds0, q0, r0, shape, rfl, rfl, h0, t0⟩ := trodAll_cons tell
  obtain ⟨x1, xs1, d1, ds1, q1, r1, rfl, rfl, rfl, h1, t1⟩ := trodAll_cons t0
  obtain ⟨x2, xs2, d2, ds2, q2, r2, rfl, rfl, rfl, h2, t2⟩ := trodAll_cons t1
  obtain ⟨x3, xs3, d3, ds3, q3, r3, rfl, rfl, rfl, h3, t3⟩ := trodAll_cons t2
  obtain ⟨x4, xs4, d4, ds4, q4, r4, rfl, rfl, rfl, h4, t4⟩ := trodAll_cons t3
  obtain ⟨rfl, rfl, rfl⟩ := trodAll_nil t4
  obtain rfl : args = #[x0, x1, x2, x3, x4] := by cases args; simp_all
  obtain ⟨rfl, rfl⟩ := trodVars_none vars
  obtain ⟨a0, rfl, w0⟩ := read_int Try.underlying2 (fit 0 2 x0 rfl rfl) h0
  obtain ⟨a1, rfl, w1⟩ := read_int Try.underlying2 (fit 1 2 x1 rfl rfl) h1
  obtain ⟨a2, rfl, w2⟩ := read_int Try.underlying2 (fit 2 2 x2 rfl rfl) h2
  obtain ⟨a3, rfl, w3⟩ := read_int Try.underlying2 (fit 3 2 x3 rfl rfl) h3
  obtain ⟨a4, rfl, w4⟩ := read_int Try.underlying2 (fit 4 2 x4 rfl rfl) h4
  clear told fits tell
  have core : Calls Try.prog 5 #[.int .i64 a0, .int .i64 a1, .int .i64 a2, .int .i64 a3, .int .i64 a4] W fun e w' => e = .returned (.bool true) ∧ Below W.heap.size W w' := by
    exact never12_walk W a0 a1 a2 a3 a4 (i64_of_wf w1) (i64_of_wf w4)
  refine core.mono fun e W' ⟨he, hg⟩ => ?_
  subst he
  exact ⟨_, rfl, post_low (pv := []) kept hg (fun _ _ _ => trodAll_cons_mk (shut_bool Try.underlying4 _) trodAll_mk0) (fun sp hs => all_back hg (by decide +kernel) all (fun x hx => kept.lt x (List.mem_append_left _ hx)) (fun x hx => hs x (List.mem_append_left _ hx))) (fun _ _ => rfl)⟩

theorem over : Rows.wallNeverRow.holds Try.pinned (OpenSpec.ofChange Rows.wallNeverSpec) :=
  OpenClaim.holds_of_wide 5 Try.f5 rfl rfl rfl rfl rfl rfl rfl ⟨rfl, rfl, rfl, rfl, rfl⟩ rfl rfl rfl rfl rfl (by kernel_rfl) Try.func5 (by kernel_rfl)
    (of_decide_eq_true (by kernel_rfl)) (by unfold Func.isWrapper; first | (rw [if_pos (by decide +kernel)]; kernel_rfl) | (rw [if_neg (by decide +kernel)]; exact ⟨rfl, rfl⟩))
    (fun os started H enc _ => row os started H enc)

theorem proved : Rows.WallNeverSaid := over
#print axioms proved
end Go.Proofs.Ytokhlagcflkocaa.wallNever
