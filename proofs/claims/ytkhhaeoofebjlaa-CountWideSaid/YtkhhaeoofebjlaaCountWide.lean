/- CountWide: the function answers true at every input, and its arguments read behind the call as they read before. No conditions. -/
import Derived.Test.YtkhhaeoofebjlaaRows
import Derived.Test.YtkhhaeoofebjlaaCountWideW
import Derived.Test.YtkhhaeoofebjlaaFrameR
import Derived.Test.YtkhhaeoofebjlaaFrame
import Derived.WalkKit
import Derived.ProofKit
import Derived.OpenShut
namespace Go.Proofs.Ytkhhaeoofebjlaa.countWide
open Go.ChangeShapes Go.WideShapes Go.ChangeAt Go.RowKit
set_option linter.unusedVariables false

theorem knob : ownKnob Try.prog.godebug = none := by kernel_rfl

set_option maxRecDepth 100000 in
theorem row (os : Os) (started : os.Started) (H : Type) (enc : TypeId × Value → H) :
    ReturnsInHanded {} Try.checked os 4 .any (Rows.countWideSpec.pre6 enc Try.prog Try.f4 Rows.countWideRow.domain false) (Rows.countWideSpec.post enc Try.prog Try.f4 false true false false) := by
  refine returnsInHanded_of_change (C := Try.checked) knob started (by kernel_rfl) Try.func4 (ChangeSpec.witness6 (enc := enc) (C := Try.checked) false ⟨#[], #[.agg #[.int .u8 0, .int .u8 0], .agg #[.int .u64 0, .int .u64 0], .slice none 0 0], []⟩ 8 (by kernel_rfl) (by kernel_rfl) (by kernel_rfl) (by kernel_rfl)) ?_
  intro W base args ds gs before fits whole cond _
  have kept := whole
  obtain ⟨pp, qq, told, vars, rfl, frz, nd⟩ := whole
  have fit : ∀ (j : Nat) t v, Try.f4.params[j]? = some t → args[j]? = some v → Value.okWide Try.prog W .any base t v := fits
  have tell : DataW.TrodAll enc Try.prog W 0 (fun _ => true) true Try.f4.params.toList args.toList ds pp := told
  rw [Try.params4] at tell fit
  have all := tell
  obtain ⟨x0, xs0, d0, ds0, q0, r0, shape, rfl, rfl, h0, t0⟩ := trodAll_cons tell
  obtain ⟨x1, xs1, d1, ds1, q1, r1, rfl, rfl, rfl, h1, t1⟩ := trodAll_cons t0
  obtain ⟨x2, xs2, d2, ds2, q2, r2, rfl, rfl, rfl, h2, t2⟩ := trodAll_cons t1
  obtain ⟨rfl, rfl, rfl⟩ := trodAll_nil t2
  obtain rfl : args = #[x0, x1, x2] := by cases args; simp_all
  obtain ⟨rfl, rfl⟩ := trodVars_none vars
  obtain ⟨C0, z0, rfl, S0, H0, W0⟩ := read_arr (k := .u8) Try.underlying33 Try.underlying5 (by kernel_rfl) (by kernel_rfl) (fit 0 33 x0 rfl rfl) h0
  obtain ⟨C1, z1, rfl, S1, H1, W1⟩ := read_arr (k := .u64) Try.underlying34 Try.underlying22 (by kernel_rfl) (by kernel_rfl) (fit 1 34 x1 rfl rfl) h1
  obtain ⟨p2, n2, c2, z2, rfl, H2, W2⟩ := read_ints Try.underlying23 Try.underlying22 (by kernel_rfl) (fit 2 23 x2 rfl rfl) h2
  clear told fits tell
  have core : Calls Try.prog 4 #[.agg C0, .agg C1, .slice p2 n2 c2] W fun e w' => e = .returned (.bool true) ∧ Below W.heap.size W w' := by
    have V0 := fun z hz => u8_of_wf (W0 z hz)
    have V1 := fun z hz => word_of_wf (W1 z hz)
    have V2 := fun z hz => word_of_wf (W2 z hz)
    obtain ⟨b0, b1, rfl, mb0, mb1⟩ := two_cells S0 H0 (fun z hz => (V0 z hz).1)
    obtain ⟨f0, f1, rfl, mf0, mf1⟩ := two_cells S1 H1 (fun z hz => (V1 z hz).1)
    have e0 := (V0 _ mb0).2
    have e1 := (V0 _ mb1).2
    have e2 := (V1 _ mf0).2
    have e3 := (V1 _ mf1).2
    exact wide9_walk W b0 b1 f0 f1 p2 n2 c2 _ (holds_nat H2 (fun z hz => (V2 z hz).1)) (nat_lt V2) (by omega) (by omega) (by omega) (by omega)
  refine core.mono fun e W' ⟨he, hg⟩ => ?_
  subst he
  exact ⟨_, rfl, post_low (pv := []) kept hg (fun _ _ _ => trodAll_cons_mk (shut_bool Try.underlying4 _) trodAll_mk0) (fun sp hs => all_back hg (by decide +kernel) all (fun x hx => kept.lt x (List.mem_append_left _ hx)) (fun x hx => hs x (List.mem_append_left _ hx))) (fun _ _ => rfl)⟩

theorem over : Rows.countWideRow.holds Try.pinned (OpenSpec.ofChange Rows.countWideSpec) :=
  OpenClaim.holds_of_wide 4 Try.f4 rfl rfl rfl rfl rfl rfl rfl ⟨rfl, rfl, rfl, rfl, rfl⟩ rfl rfl rfl rfl rfl (by kernel_rfl) Try.func4 (by kernel_rfl)
    (of_decide_eq_true (by kernel_rfl)) (by unfold Func.isWrapper; first | (rw [if_pos (by decide +kernel)]; kernel_rfl) | (rw [if_neg (by decide +kernel)]; exact ⟨rfl, rfl⟩))
    (fun os started H enc _ => row os started H enc)

theorem proved : Rows.CountWideSaid := over
#print axioms proved
end Go.Proofs.Ytkhhaeoofebjlaa.countWide
