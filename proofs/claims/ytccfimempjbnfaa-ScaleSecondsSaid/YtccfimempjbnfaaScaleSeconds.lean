/- ScaleSeconds: the function answers true at every input, and its arguments read behind the call as they read before. No conditions. -/
import Derived.Test.YtccfimempjbnfaaRows
import Derived.Test.YtccfimempjbnfaaScaleSecondsW
import Derived.Test.YtccfimempjbnfaaFrame
import Derived.WalkKit
import Derived.ProofKit
import Derived.OpenShut
namespace Go.Proofs.Ytccfimempjbnfaa.scaleSeconds
open Go.ChangeShapes Go.WideShapes Go.ChangeAt Go.RowKit
set_option linter.unusedVariables false

theorem knob : ownKnob Try.prog.godebug = none := by kernel_rfl

set_option maxRecDepth 100000 in
theorem row (os : Os) (started : os.Started) (H : Type) (enc : TypeId × Value → H) :
    ReturnsInHanded {} Try.checked os 5 .any (Rows.scaleSecondsSpec.pre6 enc Try.prog Try.f5 Rows.scaleSecondsRow.domain false) (Rows.scaleSecondsSpec.post enc Try.prog Try.f5 false true false false) := by
  refine returnsInHanded_of_change (C := Try.checked) knob started (by kernel_rfl) Try.func5 (ChangeSpec.witness6 (enc := enc) (C := Try.checked) false ⟨#[], #[.int .u64 0, .int .u32 0, .int .u64 0, .int .u64 0], []⟩ 8 (by kernel_rfl) (by kernel_rfl) (by kernel_rfl) (by kernel_rfl)) ?_
  intro W base args ds gs before fits whole cond _
  have kept := whole
  obtain ⟨pp, qq, told, vars, rfl, frz, nd⟩ := whole
  have fit : ∀ (j : Nat) t v, Try.f5.params[j]? = some t → args[j]? = some v → Value.okWide Try.prog W .any base t v := fits
  have tell : DataW.TrodAll enc Try.prog W 0 (fun _ => true) true Try.f5.params.toList args.toList ds pp := told
  rw [Try.params5] at tell fit
  have all := tell
  obtain ⟨x0, xs0, d0, ds0, q0, r0, shape, rfl, rfl, h0, t0⟩ := trodAll_cons tell
  obtain ⟨x1, xs1, d1, ds1, q1, r1, rfl, rfl, rfl, h1, t1⟩ := trodAll_cons t0
  obtain ⟨x2, xs2, d2, ds2, q2, r2, rfl, rfl, rfl, h2, t2⟩ := trodAll_cons t1
  obtain ⟨x3, xs3, d3, ds3, q3, r3, rfl, rfl, rfl, h3, t3⟩ := trodAll_cons t2
  obtain ⟨rfl, rfl, rfl⟩ := trodAll_nil t3
  obtain rfl : args = #[x0, x1, x2, x3] := by cases args; simp_all
  obtain ⟨rfl, rfl⟩ := trodVars_none vars
  obtain ⟨a0, rfl, w0⟩ := read_int Try.underlying22 (fit 0 22 x0 rfl rfl) h0
  obtain ⟨a1, rfl, w1⟩ := read_int Try.underlying36 (fit 1 36 x1 rfl rfl) h1
  obtain ⟨a2, rfl, w2⟩ := read_int Try.underlying22 (fit 2 22 x2 rfl rfl) h2
  obtain ⟨a3, rfl, w3⟩ := read_int Try.underlying22 (fit 3 22 x3 rfl rfl) h3
  clear told fits tell
  have core : Calls Try.prog 5 #[.int .u64 a0, .int .u32 a1, .int .u64 a2, .int .u64 a3] W fun e w' => e = .returned (.bool true) ∧ Below W.heap.size W w' := by
    have B0 := word_of_wf w0
    have B1 := u32_of_wf w1
    have B2 := word_of_wf w2
    have B3 := word_of_wf w3
    obtain ⟨n0, rfl⟩ : ∃ n : Nat, a0 = (n : Int) := ⟨a0.toNat, by omega⟩
    obtain ⟨n1, rfl⟩ : ∃ n : Nat, a1 = (n : Int) := ⟨a1.toNat, by omega⟩
    obtain ⟨n2, rfl⟩ : ∃ n : Nat, a2 = (n : Int) := ⟨a2.toNat, by omega⟩
    obtain ⟨n3, rfl⟩ : ∃ n : Nat, a3 = (n : Int) := ⟨a3.toNat, by omega⟩
    exact seconds10_walk W n0 n1 n2 n3 (by omega) (by omega) (by omega) (by omega)
  refine core.mono fun e W' ⟨he, hg⟩ => ?_
  subst he
  exact ⟨_, rfl, post_low (pv := []) kept hg (fun _ _ _ => trodAll_cons_mk (shut_bool Try.underlying4 _) trodAll_mk0) (fun sp hs => all_back hg (by decide +kernel) all (fun x hx => kept.lt x (List.mem_append_left _ hx)) (fun x hx => hs x (List.mem_append_left _ hx))) (fun _ _ => rfl)⟩

theorem over : Rows.scaleSecondsRow.holds Try.pinned (OpenSpec.ofChange Rows.scaleSecondsSpec) :=
  OpenClaim.holds_of_wide 5 Try.f5 rfl rfl rfl rfl rfl rfl rfl ⟨rfl, rfl, rfl, rfl, rfl⟩ rfl rfl rfl rfl rfl (by kernel_rfl) Try.func5 (by kernel_rfl)
    (of_decide_eq_true (by kernel_rfl)) (by unfold Func.isWrapper; first | (rw [if_pos (by decide +kernel)]; kernel_rfl) | (rw [if_neg (by decide +kernel)]; exact ⟨rfl, rfl⟩))
    (fun os started H enc _ => row os started H enc)

theorem proved : Rows.ScaleSecondsSaid := over
#print axioms proved
end Go.Proofs.Ytccfimempjbnfaa.scaleSeconds
