/- SmearTells: the function answers true at every input, and its arguments read behind the call as they read before. No conditions. -/
import Derived.Test.YtmafjhggjpjgmaaRows
import Derived.Test.YtmafjhggjpjgmaaSmTellsW
import Derived.Test.YtmafjhggjpjgmaaSmI
import Derived.Test.YtmafjhggjpjgmaaFrameG
import Derived.Test.YtmafjhggjpjgmaaPostLow
import Derived.Test.YtmafjhggjpjgmaaFrame
import Derived.WalkKit
import Derived.ProofKit
import Derived.OpenShut
namespace Go.Proofs.Ytmafjhggjpjgmaa.smearTells
open Go.ChangeShapes Go.WideShapes Go.ChangeAt Go.RowKit
set_option linter.unusedVariables false

theorem knob : ownKnob Try.prog.godebug = none := by kernel_rfl

set_option maxRecDepth 100000 in
theorem row (os : Os) (started : os.Started) (H : Type) (enc : TypeId × Value → H) :
    ReturnsInHanded {} Try.checked os 3 .any (Rows.smearTellsSpec.pre6 enc Try.prog Try.f3 Rows.smearTellsRow.domain false) (Rows.smearTellsSpec.post enc Try.prog Try.f3 false true false false) := by
  refine returnsInHanded_of_change (C := Try.checked) knob started (by kernel_rfl) Try.func3 (ChangeSpec.witness6 (enc := enc) (C := Try.checked) false ⟨#[], #[.slice none 0 0, .slice none 0 0], []⟩ 8 (by kernel_rfl) (by kernel_rfl) (by kernel_rfl) (by kernel_rfl)) ?_
  intro W base args ds gs before fits whole cond _
  have kept := whole
  obtain ⟨pp, qq, told, vars, rfl, frz, nd⟩ := whole
  have fit : ∀ (j : Nat) t v, Try.f3.params[j]? = some t → args[j]? = some v → Value.okWide Try.prog W .any base t v := fits
  have tell : DataW.TrodAll enc Try.prog W 0 (fun _ => true) true Try.f3.params.toList args.toList ds pp := told
  rw [Try.params3] at tell fit
  have all := tell
  obtain ⟨x0, xs0, d0, ds0, q0, r0, shape, rfl, rfl, h0, t0⟩ := trodAll_cons tell
  obtain ⟨x1, xs1, d1, ds1, q1, r1, rfl, rfl, rfl, h1, t1⟩ := trodAll_cons t0
  obtain ⟨rfl, rfl, rfl⟩ := trodAll_nil t1
  obtain rfl : args = #[x0, x1] := by cases args; simp_all
  obtain ⟨rfl, rfl⟩ := trodVars_none vars
  obtain ⟨p0, n0, c0, l0, rfl, H0, W0⟩ := read_acts (k0 := .i64) (k1 := .i64) Try.underlying22 Try.underlying26 (by kernel_rfl) (by kernel_rfl) (by kernel_rfl) (by kernel_rfl) (by kernel_rfl) (by kernel_rfl) (by kernel_rfl) (fit 0 22 x0 rfl rfl) h0
  obtain ⟨p1, n1, c1, z1, rfl, H1, W1⟩ := read_ints Try.underlying23 Try.underlying2 (by kernel_rfl) (fit 1 23 x1 rfl rfl) h1
  clear told fits tell
  have core : Calls Try.prog 3 #[.slice p0 n0 c0, .slice p1 n1 c1] W fun e w' => e = .returned (.bool true) ∧ Below W.heap.size W w' := by
    exact tells15_walk smear_code (fun w' => plist_any (has_none w')) W p0 n0 c0 (lpsOf l0) (holdsA_L H0) (lps_in H0.len W0) p1 n1 c1 z1 H1 (fun z hz => i64_of_wf (W1 z hz))
  refine core.mono fun e W' ⟨he, hg⟩ => ?_
  subst he
  exact ⟨_, rfl, post_low (pv := []) kept hg (fun _ _ _ => trodAll_cons_mk (shut_bool Try.underlying4 _) trodAll_mk0) (fun sp hs => all_back hg (by decide +kernel) all (fun x hx => kept.lt x (List.mem_append_left _ hx)) (fun x hx => hs x (List.mem_append_left _ hx))) (fun _ _ => rfl)⟩

theorem over : Rows.smearTellsRow.holds Try.pinned (OpenSpec.ofChange Rows.smearTellsSpec) :=
  OpenClaim.holds_of_wide 3 Try.f3 rfl rfl rfl rfl rfl rfl rfl ⟨rfl, rfl, rfl, rfl, rfl⟩ rfl rfl rfl rfl rfl (by kernel_rfl) Try.func3 (by kernel_rfl)
    (of_decide_eq_true (by kernel_rfl)) (by unfold Func.isWrapper; first | (rw [if_pos (by decide +kernel)]; kernel_rfl) | (rw [if_neg (by decide +kernel)]; exact ⟨rfl, rfl⟩))
    (fun os started H enc _ => row os started H enc)

theorem proved : Rows.SmearTellsSaid := over
#print axioms proved
end Go.Proofs.Ytmafjhggjpjgmaa.smearTells
