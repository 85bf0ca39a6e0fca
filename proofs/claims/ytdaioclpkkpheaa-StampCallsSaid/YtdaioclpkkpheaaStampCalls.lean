/- StampCalls: the function answers true at every input, and its arguments read behind the call as they read before. No conditions. -/
import Derived.Test.YtdaioclpkkpheaaRows
import Derived.Test.YtdaioclpkkpheaaStampCallsW
import Derived.Test.YtdaioclpkkpheaaPostLow
import Derived.WalkKit
import Derived.ProofKit
import Derived.OpenShut
import Derived.Lib.SmallJoins
namespace Go.Proofs.Ytdaioclpkkpheaa.stampCalls
open Go.ChangeShapes Go.WideShapes Go.ChangeAt Go.RowKit Go.Joins
set_option linter.unusedVariables false

theorem knob : ownKnob Try.prog.godebug = none := by kernel_rfl
theorem size25 : Try.prog.cellsOf 25 = 3 := by kernel_rfl

theorem walk (a0 : Int) (a1 : Int) (a2 : Int) (a3 : Int) (a4 : Int) (a5 : Int) (w0 : (Lit.int .u64 a0).wf = true) (w1 : (Lit.int .i64 a1).wf = true) (w2 : (Lit.int .i64 a2).wf = true) (w3 : (Lit.int .i32 a3).wf = true) (w4 : (Lit.int .u32 a4).wf = true) (w5 : (Lit.int .u64 a5).wf = true) (w : World) :
    Calls Try.prog 3 #[.int .u64 a0, .int .i64 a1, .int .i64 a2, .agg #[.int .i32 a3, .int .u32 a4, .int .u64 a5]] w fun e w' => e = .returned (.bool true) ∧ Below w.heap.size w w' := by
  obtain ⟨p0, p1⟩ := word_of_wf w0
  obtain ⟨q0, q1⟩ := u32_of_wf w4
  obtain ⟨r0, r1⟩ := word_of_wf w5
  obtain ⟨u, rfl⟩ : ∃ u : Nat, a0 = (u : Int) := ⟨a0.toNat, by omega⟩
  obtain ⟨off, rfl⟩ : ∃ k : Nat, a4 = (k : Int) := ⟨a4.toNat, by omega⟩
  obtain ⟨frac, rfl⟩ : ∃ k : Nat, a5 = (k : Int) := ⟨a5.toNat, by omega⟩
  exact calls_walk u a1 a2 a3 off frac (by omega) (i64_of_wf w1) (i64_of_wf w2) (i32_of_wf w3) (by omega) (by omega) w

set_option maxRecDepth 100000 in
theorem row (os : Os) (started : os.Started) (H : Type) (enc : TypeId × Value → H) :
    ReturnsInHanded {} Try.checked os 3 .any (Rows.stampCallsSpec.pre6 enc Try.prog Try.f3 Rows.stampCallsRow.domain false) (Rows.stampCallsSpec.post enc Try.prog Try.f3 false true false false) := by
  refine returnsInHanded_of_change (C := Try.checked) knob started (by kernel_rfl) Try.func3 (ChangeSpec.witness6 (enc := enc) (C := Try.checked) false ⟨#[], #[.int .u64 0, .int .i64 0, .int .i64 0, .agg #[.int .i32 0, .int .u32 0, .int .u64 0]], []⟩ 8 (by kernel_rfl) (by kernel_rfl) (by kernel_rfl) (by kernel_rfl)) ?_
  intro W base args ds gs before fits whole cond _
  have kept := whole
  obtain ⟨pp, qq, told, vars, rfl, frz, nd⟩ := whole
  have fit : ∀ (j : Nat) t v, Try.f3.params[j]? = some t → args[j]? = some v → Value.okWide Try.prog W .any base t v := fits
  have tell : DataW.TrodAll enc Try.prog W 0 (fun _ => true) true Try.f3.params.toList args.toList ds pp := told
  rw [Try.params3] at tell fit
  obtain ⟨x0, xs0, d0, ds0, p0, q0, shape, rfl, rfl, h0, r0⟩ := trodAll_cons tell
  obtain ⟨x1, xs1, d1, ds1, p1, q1, rfl, rfl, rfl, h1, r1⟩ := trodAll_cons r0
  obtain ⟨x2, xs2, d2, ds2, p2, q2, rfl, rfl, rfl, h2, r2⟩ := trodAll_cons r1
  obtain ⟨x3, xs3, d3, ds3, p3, q3, rfl, rfl, rfl, h3, r3⟩ := trodAll_cons r2
  obtain ⟨rfl, rfl, rfl⟩ := trodAll_nil r3
  obtain rfl : args = #[x0, x1, x2, x3] := by cases args; simp_all
  obtain ⟨rfl, rfl⟩ := trodVars_none vars
  obtain ⟨a0, rfl, rfl, rfl, w0⟩ := open_int Try.underlying22 (fit 0 22 x0 rfl rfl) h0
  obtain ⟨a1, rfl, rfl, rfl, w1⟩ := open_int Try.underlying2 (fit 1 2 x1 rfl rfl) h1
  obtain ⟨a2, rfl, rfl, rfl, w2⟩ := open_int Try.underlying2 (fit 2 2 x2 rfl rfl) h2
  obtain ⟨c3, c4, c5, y3, y4, y5, m3, rfl, rfl, rfl, z3, z4, z5⟩ := open_agg3 Try.underlying25 (by kernel_rfl) size25 (fit 3 25 x3 rfl rfl) h3
  obtain ⟨a3, e3, rfl, w3⟩ := DataW.trod_int Try.underlying21 z3
  obtain ⟨a4, e4, rfl, w4⟩ := DataW.trod_int Try.underlying23 z4
  obtain ⟨a5, e5, rfl, w5⟩ := DataW.trod_int Try.underlying22 z5
  simp at e3
  subst e3
  simp at e4
  subst e4
  simp at e5
  subst e5
  clear told fits
  simp only [List.append_nil] at kept
  have s3 : ∀ (W' : World) (sp : Nat → Bool), DataW.Trod enc Try.prog W' 0 sp true 25 (.agg #[.int .i32 a3, .int .u32 a4, .int .u64 a5]) (.agg [.lit (.int .i32 a3), .lit (.int .u32 a4), .lit (.int .u64 a5)]) [] := fun W' sp =>
    shut_agg3 (y0 := (.lit (.int .i32 a3), [])) (y1 := (.lit (.int .u32 a4), [])) (y2 := (.lit (.int .u64 a5), [])) Try.underlying25 (by kernel_rfl) size25 ⟨1, by simp [DataW.trod, Try.underlying21, w3]⟩ ⟨1, by simp [DataW.trod, Try.underlying23, w4]⟩ ⟨1, by simp [DataW.trod, Try.underlying22, w5]⟩
  refine (walk a0 a1 a2 a3 a4 a5 w0 w1 w2 w3 w4 w5 W).mono fun e W' ⟨he, hg⟩ => ?_
  subst he
  exact ⟨_, rfl, post_low (pa := []) (pv := []) kept hg (fun _ _ _ => trodAll_cons_mk (shut_bool Try.underlying4 _) trodAll_mk0) (fun sp _ => trodAll_cons_mk (shut_int Try.underlying22 w0) (trodAll_cons_mk (shut_int Try.underlying2 w1) (trodAll_cons_mk (shut_int Try.underlying2 w2) (trodAll_cons_mk (s3 _ sp) trodAll_mk0)))) (fun _ _ => rfl)⟩

theorem over : Rows.stampCallsRow.holds Try.pinned (OpenSpec.ofChange Rows.stampCallsSpec) :=
  OpenClaim.holds_of_wide 3 Try.f3 rfl rfl rfl rfl rfl rfl rfl ⟨rfl, rfl, rfl, rfl, rfl⟩ rfl rfl rfl rfl rfl (by kernel_rfl) Try.func3 (by kernel_rfl)
    (of_decide_eq_true (by kernel_rfl)) (by unfold Func.isWrapper; first | (rw [if_pos (by decide +kernel)]; kernel_rfl) | (rw [if_neg (by decide +kernel)]; exact ⟨rfl, rfl⟩))
    (fun os started H enc _ => row os started H enc)

theorem proved : Rows.StampCallsSaid := over
#print axioms proved
end Go.Proofs.Ytdaioclpkkpheaa.stampCalls
