/- LeapTells: the function answers true at every input, and its arguments read behind the call as they read before. No conditions. -/
import Derived.Test.YtpfbdpoileepoaaRows
import Derived.Test.YtpfbdpoileepoaaLpTellsW
import Derived.Test.YtpfbdpoileepoaaLpZ
import Derived.Test.YtpfbdpoileepoaaFrameG
import Derived.Test.YtpfbdpoileepoaaPostLow
import Derived.Test.YtpfbdpoileepoaaFrame
import Derived.WalkKit
import Derived.ProofKit
import Derived.OpenShut
namespace Go.Proofs.Ytpfbdpoileepoaa.leapTells
open Go.ChangeShapes Go.WideShapes Go.ChangeAt Go.RowKit
set_option linter.unusedVariables false

theorem knob : ownKnob Try.prog.godebug = none := by kernel_rfl

set_option maxRecDepth 100000 in
theorem row (os : Os) (started : os.Started) (H : Type) (enc : TypeId × Value → H) :
    ReturnsInHanded {} Try.checked os 3 .any (Rows.leapTellsSpec.pre6 enc Try.prog Try.f3 Rows.leapTellsRow.domain false) (Rows.leapTellsSpec.post enc Try.prog Try.f3 false true false false) := by
  refine returnsInHanded_of_change (C := Try.checked) knob started (by kernel_rfl) Try.func3 (ChangeSpec.witness6 (enc := enc) (C := Try.checked) false ⟨#[], #[.slice none 0 0, .int .i64 0, .int .i64 0, .slice none 0 0, .slice none 0 0], []⟩ 8 (by kernel_rfl) (by kernel_rfl) (by kernel_rfl) (by kernel_rfl)) ?_
  intro W base args ds gs before fits whole cond _
  have kept := whole
  obtain ⟨pp, qq, told, vars, rfl, frz, nd⟩ := whole
  have fit : ∀ (j : Nat) t v, Try.f3.params[j]? = some t → args[j]? = some v → Value.okWide Try.prog W .any base t v := fits
  have tell : DataW.TrodAll enc Try.prog W 0 (fun _ => true) true Try.f3.params.toList args.toList ds pp := told
  rw [Try.params3] at tell fit
  have all := tell
  obtain ⟨x0, xs0, d0, ds0, q0, r0, shape, rfl, rfl, h0, t0⟩ := trodAll_cons tell
  obtain ⟨x1, xs1, d1, ds1, q1, r1, rfl, rfl, rfl, h1, t1⟩ := trodAll_cons t0
  obtain ⟨x2, xs2, d2, ds2, q2, r2, rfl, rfl, rfl, h2, t2⟩ := trodAll_cons t1
  obtain ⟨x3, xs3, d3, ds3, q3, r3, rfl, rfl, rfl, h3, t3⟩ := trodAll_cons t2
  obtain ⟨x4, xs4, d4, ds4, q4, r4, rfl, rfl, rfl, h4, t4⟩ := trodAll_cons t3
  obtain ⟨rfl, rfl, rfl⟩ := trodAll_nil t4
  obtain rfl : args = #[x0, x1, x2, x3, x4] := by cases args; simp_all
  obtain ⟨rfl, rfl⟩ := trodVars_none vars
  obtain ⟨p0, n0, c0, l0, rfl, H0, W0⟩ := read_acts (k0 := .i64) (k1 := .i64) Try.underlying22 Try.underlying33 (by kernel_rfl) (by kernel_rfl) (by kernel_rfl) (by kernel_rfl) (by kernel_rfl) (by kernel_rfl) (by kernel_rfl) (fit 0 22 x0 rfl rfl) h0
  obtain ⟨a1, rfl, w1⟩ := read_int Try.underlying2 (fit 1 2 x1 rfl rfl) h1
  obtain ⟨a2, rfl, w2⟩ := read_int Try.underlying3 (fit 2 3 x2 rfl rfl) h2
  obtain ⟨p3, n3, c3, z3, rfl, H3, W3⟩ := read_ints Try.underlying23 Try.underlying2 (by kernel_rfl) (fit 3 23 x3 rfl rfl) h3
  obtain ⟨p4, n4, c4, l4, rfl, H4, W4⟩ := read_acts (k0 := .i64) (k1 := .i64) Try.underlying22 Try.underlying33 (by kernel_rfl) (by kernel_rfl) (by kernel_rfl) (by kernel_rfl) (by kernel_rfl) (by kernel_rfl) (by kernel_rfl) (fit 4 22 x4 rfl rfl) h4
  clear told fits tell
  have core : Calls Try.prog 3 #[.slice p0 n0 c0, .int .i64 a1, .int .i64 a2, .slice p3 n3 c3, .slice p4 n4 c4] W fun e w' => e = .returned (.bool true) ∧ Below W.heap.size W w' := by
    exact tells16_walk leap_code W p0 n0 c0 (lpsOf l0) (holdsA_L H0) H0.bare (lps_in H0.len W0) a1 a2 (i64_of_wf w1) (i64_of_wf w2) p3 n3 c3 z3 H3 (fun z hz => i64_of_wf (W3 z hz)) p4 n4 c4 (lpsOf l4) (holdsA_L H4) (lps_in H4.len W4)
  refine core.mono fun e W' ⟨he, hg⟩ => ?_
  subst he
  exact ⟨_, rfl, post_low (pv := []) kept hg (fun _ _ _ => trodAll_cons_mk (shut_bool Try.underlying4 _) trodAll_mk0) (fun sp hs => all_back hg (by decide +kernel) all (fun x hx => kept.lt x (List.mem_append_left _ hx)) (fun x hx => hs x (List.mem_append_left _ hx))) (fun _ _ => rfl)⟩

theorem over : Rows.leapTellsRow.holds Try.pinned (OpenSpec.ofChange Rows.leapTellsSpec) :=
  OpenClaim.holds_of_wide 3 Try.f3 rfl rfl rfl rfl rfl rfl rfl ⟨rfl, rfl, rfl, rfl, rfl⟩ rfl rfl rfl rfl rfl (by kernel_rfl) Try.func3 (by kernel_rfl)
    (of_decide_eq_true (by kernel_rfl)) (by unfold Func.isWrapper; first | (rw [if_pos (by decide +kernel)]; kernel_rfl) | (rw [if_neg (by decide +kernel)]; exact ⟨rfl, rfl⟩))
    (fun os started H enc _ => row os started H enc)

theorem proved : Rows.LeapTellsSaid := over
#print axioms proved
end Go.Proofs.Ytpfbdpoileepoaa.leapTells
