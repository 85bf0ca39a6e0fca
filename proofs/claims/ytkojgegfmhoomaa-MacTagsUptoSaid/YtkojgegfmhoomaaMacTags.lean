/- MacTags: the function answers true at every input, and its arguments read behind the call as they read before. No conditions. -/
import Derived.Test.YtkojgegfmhoomaaRows
import Derived.Test.YtkojgegfmhoomaaMacTagsW
import Derived.Test.YtkojgegfmhoomaaMacV
import Derived.Test.YtkojgegfmhoomaaFrame
import Derived.WalkKit
import Derived.ProofKit
import Derived.OpenShut
import Derived.JoinedCond
namespace Go.Proofs.Ytkojgegfmhoomaa.macTags
open Go.ChangeShapes Go.WideShapes Go.ChangeAt Go.RowKit
set_option linter.unusedVariables false

theorem knob : ownKnob Try.prog.godebug = none := by kernel_rfl

set_option maxRecDepth 100000 in
theorem row (os : Os) (started : os.Started) (H : Type) (enc : TypeId × Value → H) (F : Stop.Interp) :
    ReturnsInHanded {} Try.checked os 3 .any ((Rows.OpenSpec.upto Rows.macTagsSpec).pre6 enc Try.prog Try.f3 Rows.macTagsUptoRow.domain false) (((Rows.OpenSpec.upto Rows.macTagsSpec).at F).post enc Try.prog Try.f3 false true false false) := by
  refine returnsInHanded_of_cond (C := Try.checked) (s := Rows.OpenSpec.upto Rows.macTagsSpec) (k := Rows.uptoSmall) rfl knob started (by kernel_rfl) Try.func3
    (OpenSpec.witness (enc := enc) (C := Try.checked) (s := Rows.OpenSpec.upto Rows.macTagsSpec) (k := Rows.uptoSmall) rfl false ⟨#[], #[.agg #[.int .u32 0, .int .u64 0, .int .u64 0], .slice none 0 0, .int .u64 0], []⟩ 8 (by kernel_rfl) (by kernel_rfl) (by kernel_rfl)
      (x := ([.agg [.lit (.int .u32 0), .lit (.int .u64 0), .lit (.int .u64 0)], .nil, .lit (.int .u64 0)], [], [])) (by kernel_rfl) rfl (by kernel_rfl)) ?_
  intro W base args ds gs before fits whole cond hk _
  have kept := whole
  obtain ⟨pp, qq, told, vars, rfl, frz, nd⟩ := whole
  have fit : ∀ (j : Nat) t v, Try.f3.params[j]? = some t → args[j]? = some v → Value.okWide Try.prog W .any base t v := fits
  have tell : DataW.TrodAll enc Try.prog W 0 (fun _ => true) true Try.f3.params.toList args.toList ds pp := told
  rw [Try.params3] at tell fit
  have all := tell
  obtain ⟨x0, xs0, d0, ds0, q0, r0, shape, rfl, rfl, h0, t0⟩ := trodAll_cons tell
  obtain ⟨x1, xs1, d1, ds1, q1, r1, rfl, rfl, rfl, h1, t1⟩ := trodAll_cons t0
  obtain ⟨x2, xs2, d2, ds2, q2, r2, rfl, rfl, rfl, h2, t2⟩ := trodAll_cons t1
  obtain ⟨rfl, rfl, rfl⟩ := trodAll_nil t2
  obtain rfl : args = #[x0, x1, x2] := by cases args; simp_all
  obtain ⟨rfl, rfl⟩ := trodVars_none vars
  obtain ⟨a0, b0, c0, rfl, wa0, wb0, wc0⟩ := read_agg3 (k0 := .u32) (k1 := .u64) (k2 := .u64) Try.underlying25 (by kernel_rfl) (by kernel_rfl) (by kernel_rfl) (by kernel_rfl) (by kernel_rfl) (fit 0 25 x0 rfl rfl) h0
  obtain ⟨p1, n1, c1, l1, rfl, H1, W1, B1⟩ := read_parts Try.underlying26 (by kernel_rfl) Try.underlying28 Try.underlying5 (by kernel_rfl) (fit 1 26 x1 rfl rfl) h1
  obtain ⟨a2, rfl, w2⟩ := read_int Try.underlying23 (fit 2 23 x2 rfl rfl) h2
  have HK : Rows.uptoBulkAll [d0, d1, d2] ≤ 1048576 := of_decide_eq_true hk
  clear told fits tell
  have core : Calls Try.prog 3 #[.agg #[.int .u32 a0, .int .u64 b0, .int .u64 c0], .slice p1 n1 c1, .int .u64 a2] W fun e w' => e = .returned (.bool true) ∧ Below W.heap.size W w' := by
    obtain ⟨x, rfl⟩ := nat_of (u32_of_wf wa0).1
    obtain ⟨y, rfl⟩ := nat_of (word_of_wf wb0).1
    obtain ⟨z, rfl⟩ := nat_of (word_of_wf wc0).1
    obtain ⟨t, rfl⟩ := nat_of (word_of_wf w2).1
    have i0 := (u32_of_wf wa0).2
    have i1 := (word_of_wf wb0).2
    have i2 := (word_of_wf wc0).2
    have hb : totalP l1 ≤ 2000000 := by
      have h := HK
      simp only [Rows.uptoBulkAll] at h
      have := B1.1
      omega
    exact tags6_any W ⟨x, y, z⟩ t p1 n1 c1 l1 ⟨by simp only; omega, by simp only; omega, by simp only; omega⟩ H1 W1 hb
  refine core.mono fun e W' ⟨he, hg⟩ => ?_
  subst he
  exact ⟨_, rfl, post_low (pv := []) kept hg (fun _ _ _ => trodAll_cons_mk (shut_bool Try.underlying4 _) trodAll_mk0) (fun sp hs => all_back hg (by decide +kernel) all (fun x hx => kept.lt x (List.mem_append_left _ hx)) (fun x hx => hs x (List.mem_append_left _ hx))) (fun _ _ => rfl)⟩

theorem proved : Rows.MacTagsUptoSaid :=
  OpenClaim.holds_of_cond 3 Try.f3 rfl rfl rfl rfl rfl rfl rfl ⟨rfl, rfl, rfl, rfl, rfl⟩ rfl rfl rfl rfl rfl (by kernel_rfl) Try.func3 (by kernel_rfl)
    (of_decide_eq_true (by kernel_rfl)) (by unfold Func.isWrapper; first | (rw [if_pos (by decide +kernel)]; kernel_rfl) | (rw [if_neg (by decide +kernel)]; exact ⟨rfl, rfl⟩))
    (fun os started H enc _ F => row os started H enc F)
#print axioms proved
end Go.Proofs.Ytkojgegfmhoomaa.macTags
