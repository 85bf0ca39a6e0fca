/- MacParts: the function answers true at every input, and its arguments read behind the call as they read before. No conditions. -/
import Derived.Test.YtkojgegfmhoomaaRows
import Derived.Test.YtkojgegfmhoomaaMacPartsV
import Derived.Test.YtkojgegfmhoomaaMacV
import Derived.Test.YtkojgegfmhoomaaFrame
import Derived.WalkKit
import Derived.ProofKit
import Derived.OpenShut
namespace Go.Proofs.Ytkojgegfmhoomaa.macParts
open Go.ChangeShapes Go.WideShapes Go.ChangeAt Go.RowKit
set_option linter.unusedVariables false

theorem knob : ownKnob Try.prog.godebug = none := by kernel_rfl

set_option maxRecDepth 100000 in
theorem row (os : Os) (started : os.Started) (H : Type) (enc : TypeId × Value → H) :
    ReturnsInHanded {} Try.checked os 5 .any (Rows.macPartsSpec.pre6 enc Try.prog Try.f5 Rows.macPartsRow.domain false) (Rows.macPartsSpec.post enc Try.prog Try.f5 false true false false) := by
  refine returnsInHanded_of_change (C := Try.checked) knob started (by kernel_rfl) Try.func5 (ChangeSpec.witness6 (enc := enc) (C := Try.checked) false ⟨#[], #[.agg #[.int .u32 0, .int .u64 0, .int .u64 0], .slice none 0 0, .int .u16 0, .int .u16 0], []⟩ 8 (by kernel_rfl) (by kernel_rfl) (by kernel_rfl) (by kernel_rfl)) ?_
  intro W base args ds gs before fits whole cond _
  have kept := whole
  obtain ⟨pp, qq, told, vars, rfl, frz, nd⟩ := whole
  have fit : ∀ (j : Nat) t v, Try.f5.params[j]? = some t → args[j]? = some v → Value.okWide Try.prog W .any base t v := fits
  have tell : DataW.TrodAll enc Try.prog W 0 (fun _ => true) true Try.f5.params.toList args.toList ds pp := told
  rw [Try.params5] at tell fit
  have all := tell
  obtain ⟨x0, xs0, d0, ds0, q0, r0, shape, rfl, rfl, h0, t0⟩ := trodAll_cons tell
  obtain ⟨x1, xs1, d1, ds1, q1, r1, rfl, rfl, rfl, h1, t1⟩ := trodAll_cons t0
  obtain ⟨x2, xs2, d2, ds2, q2, r2, rfl, rfl, rfl, h2, t2⟩ := trodAll_cons t1
  obtain ⟨x3, xs3, d3, ds3, q3, r3, rfl, rfl, rfl, h3, t3⟩ := trodAll_cons t2
  obtain ⟨rfl, rfl, rfl⟩ := trodAll_nil t3
  obtain rfl : args = #[x0, x1, x2, x3] := by cases args; simp_all
  obtain ⟨rfl, rfl⟩ := trodVars_none vars
  obtain ⟨a0, b0, c0, rfl, wa0, wb0, wc0⟩ := read_agg3 (k0 := .u32) (k1 := .u64) (k2 := .u64) Try.underlying25 (by kernel_rfl) (by kernel_rfl) (by kernel_rfl) (by kernel_rfl) (by kernel_rfl) (fit 0 25 x0 rfl rfl) h0
  obtain ⟨p1, n1, c1, z1, rfl, H1, W1⟩ := read_ints Try.underlying28 Try.underlying5 (by kernel_rfl) (fit 1 28 x1 rfl rfl) h1
  obtain ⟨a2, rfl, w2⟩ := read_int Try.underlying47 (fit 2 47 x2 rfl rfl) h2
  obtain ⟨a3, rfl, w3⟩ := read_int Try.underlying47 (fit 3 47 x3 rfl rfl) h3
  clear told fits tell
  have core : Calls Try.prog 5 #[.agg #[.int .u32 a0, .int .u64 b0, .int .u64 c0], .slice p1 n1 c1, .int .u16 a2, .int .u16 a3] W fun e w' => e = .returned (.bool true) ∧ Below W.heap.size W w' := by
    obtain ⟨x, rfl⟩ := nat_of (u32_of_wf wa0).1
    obtain ⟨y, rfl⟩ := nat_of (word_of_wf wb0).1
    obtain ⟨z, rfl⟩ := nat_of (word_of_wf wc0).1
    obtain ⟨t, rfl⟩ := nat_of (u16_of_wf w2).1
    obtain ⟨s, rfl⟩ := nat_of (u16_of_wf w3).1
    have i0 := (u32_of_wf wa0).2
    have i1 := (word_of_wf wb0).2
    have i2 := (word_of_wf wc0).2
    have i3 := (u16_of_wf w2).2
    have i4 := (u16_of_wf w3).2
    have B1 : ∀ z ∈ z1, 0 ≤ z ∧ z < ((256 : Nat) : Int) := fun z hz => u8_of_wf (W1 z hz)
    exact parts6_any W ⟨x, y, z⟩ t s p1 n1 c1 (z1.map Int.toNat) ⟨by simp only; omega, by simp only; omega, by simp only; omega⟩ (by omega) (by omega) (holds_nat H1 fun z hz => (B1 z hz).1) (nat_lt B1)
  refine core.mono fun e W' ⟨he, hg⟩ => ?_
  subst he
  exact ⟨_, rfl, post_low (pv := []) kept hg (fun _ _ _ => trodAll_cons_mk (shut_bool Try.underlying4 _) trodAll_mk0) (fun sp hs => all_back hg (by decide +kernel) all (fun x hx => kept.lt x (List.mem_append_left _ hx)) (fun x hx => hs x (List.mem_append_left _ hx))) (fun _ _ => rfl)⟩

theorem over : Rows.macPartsRow.holds Try.pinned (OpenSpec.ofChange Rows.macPartsSpec) :=
  OpenClaim.holds_of_wide 5 Try.f5 rfl rfl rfl rfl rfl rfl rfl ⟨rfl, rfl, rfl, rfl, rfl⟩ rfl rfl rfl rfl rfl (by kernel_rfl) Try.func5 (by kernel_rfl)
    (of_decide_eq_true (by kernel_rfl)) (by unfold Func.isWrapper; first | (rw [if_pos (by decide +kernel)]; kernel_rfl) | (rw [if_neg (by decide +kernel)]; exact ⟨rfl, rfl⟩))
    (fun os started H enc _ => row os started H enc)

theorem proved : Rows.MacPartsSaid := over
#print axioms proved
end Go.Proofs.Ytkojgegfmhoomaa.macParts
