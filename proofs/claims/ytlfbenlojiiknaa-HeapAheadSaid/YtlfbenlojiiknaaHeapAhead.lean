/- HeapAhead: the function answers true at every input, and its arguments read behind the call as they read before. No conditions. -/
import Derived.Test.YtlfbenlojiiknaaRows
import Derived.Test.YtlfbenlojiiknaaHeapAh
import Derived.Test.YtlfbenlojiiknaaHpL
import Derived.Test.YtlfbenlojiiknaaFrame3
import Derived.Test.YtlfbenlojiiknaaPostLow
import Derived.Test.YtlfbenlojiiknaaFrame
import Derived.WalkKit
import Derived.ProofKit
import Derived.OpenShut
namespace Go.Proofs.Ytlfbenlojiiknaa.heapAhead
open Go.ChangeShapes Go.WideShapes Go.ChangeAt Go.RowKit
set_option linter.unusedVariables false

theorem knob : ownKnob Try.prog.godebug = none := by kernel_rfl

set_option maxRecDepth 100000 in
theorem row (os : Os) (started : os.Started) (H : Type) (enc : TypeId × Value → H) :
    ReturnsInHanded {} Try.checked os 6 .any (Rows.heapAheadSpec.pre6 enc Try.prog Try.f6 Rows.heapAheadRow.domain false) (Rows.heapAheadSpec.post enc Try.prog Try.f6 false true false false) := by
  refine returnsInHanded_of_change (C := Try.checked) knob started (by kernel_rfl) Try.func6 (ChangeSpec.witness6 (enc := enc) (C := Try.checked) false ⟨#[], #[.agg #[.int .u64 0, .int .u64 0, .int .i64 0], .agg #[.int .u64 0, .int .u64 0, .int .i64 0], .agg #[.int .u64 0, .int .u64 0, .int .i64 0]], []⟩ 8 (by kernel_rfl) (by kernel_rfl) (by kernel_rfl) (by kernel_rfl)) ?_
  intro W base args ds gs before fits whole cond _
  have kept := whole
  obtain ⟨pp, qq, told, vars, rfl, frz, nd⟩ := whole
  have fit : ∀ (j : Nat) t v, Try.f6.params[j]? = some t → args[j]? = some v → Value.okWide Try.prog W .any base t v := fits
  have tell : DataW.TrodAll enc Try.prog W 0 (fun _ => true) true Try.f6.params.toList args.toList ds pp := told
  rw [Try.params6] at tell fit
  have all := tell
  obtain ⟨x0, xs0, d0, ds0, q0, r0, shape, rfl, rfl, h0, t0⟩ := trodAll_cons tell
  obtain ⟨x1, xs1, d1, ds1, q1, r1, rfl, rfl, rfl, h1, t1⟩ := trodAll_cons t0
  obtain ⟨x2, xs2, d2, ds2, q2, r2, rfl, rfl, rfl, h2, t2⟩ := trodAll_cons t1
  obtain ⟨rfl, rfl, rfl⟩ := trodAll_nil t2
  obtain rfl : args = #[x0, x1, x2] := by cases args; simp_all
  obtain ⟨rfl, rfl⟩ := trodVars_none vars
  obtain ⟨a0, b0, c0, rfl, wa0, wb0, wc0⟩ := read_agg3 (k0 := .u64) (k1 := .u64) (k2 := .i64) Try.underlying34 (by kernel_rfl) (by kernel_rfl) (by kernel_rfl) (by kernel_rfl) (by kernel_rfl) (fit 0 34 x0 rfl rfl) h0
  obtain ⟨a1, b1, c1, rfl, wa1, wb1, wc1⟩ := read_agg3 (k0 := .u64) (k1 := .u64) (k2 := .i64) Try.underlying34 (by kernel_rfl) (by kernel_rfl) (by kernel_rfl) (by kernel_rfl) (by kernel_rfl) (fit 1 34 x1 rfl rfl) h1
  obtain ⟨a2, b2, c2, rfl, wa2, wb2, wc2⟩ := read_agg3 (k0 := .u64) (k1 := .u64) (k2 := .i64) Try.underlying34 (by kernel_rfl) (by kernel_rfl) (by kernel_rfl) (by kernel_rfl) (by kernel_rfl) (fit 2 34 x2 rfl rfl) h2
  clear told fits tell
  have core : Calls Try.prog 6 #[.agg #[.int .u64 a0, .int .u64 b0, .int .i64 c0], .agg #[.int .u64 a1, .int .u64 b1, .int .i64 c1], .agg #[.int .u64 a2, .int .u64 b2, .int .i64 c2]] W fun e w' => e = .returned (.bool true) ∧ Below W.heap.size W w' := by
    obtain ⟨i0, rfl⟩ := Int.eq_ofNat_of_zero_le (word_of_wf wa0).1
    obtain ⟨j0, rfl⟩ := Int.eq_ofNat_of_zero_le (word_of_wf wb0).1
    obtain ⟨i1, rfl⟩ := Int.eq_ofNat_of_zero_le (word_of_wf wa1).1
    obtain ⟨j1, rfl⟩ := Int.eq_ofNat_of_zero_le (word_of_wf wb1).1
    obtain ⟨i2, rfl⟩ := Int.eq_ofNat_of_zero_le (word_of_wf wa2).1
    obtain ⟨j2, rfl⟩ := Int.eq_ofNat_of_zero_le (word_of_wf wb2).1
    exact ahead13_walk heap_code W ⟨i0, j0, c0⟩ ⟨i1, j1, c1⟩ ⟨i2, j2, c2⟩
  refine core.mono fun e W' ⟨he, hg⟩ => ?_
  subst he
  exact ⟨_, rfl, post_low (pv := []) kept hg (fun _ _ _ => trodAll_cons_mk (shut_bool Try.underlying4 _) trodAll_mk0) (fun sp hs => all_back hg (by decide +kernel) all (fun x hx => kept.lt x (List.mem_append_left _ hx)) (fun x hx => hs x (List.mem_append_left _ hx))) (fun _ _ => rfl)⟩

theorem over : Rows.heapAheadRow.holds Try.pinned (OpenSpec.ofChange Rows.heapAheadSpec) :=
  OpenClaim.holds_of_wide 6 Try.f6 rfl rfl rfl rfl rfl rfl rfl ⟨rfl, rfl, rfl, rfl, rfl⟩ rfl rfl rfl rfl rfl (by kernel_rfl) Try.func6 (by kernel_rfl)
    (of_decide_eq_true (by kernel_rfl)) (by unfold Func.isWrapper; first | (rw [if_pos (by decide +kernel)]; kernel_rfl) | (rw [if_neg (by decide +kernel)]; exact ⟨rfl, rfl⟩))
    (fun os started H enc _ => row os started H enc)

theorem proved : Rows.HeapAheadSaid := over
#print axioms proved
end Go.Proofs.Ytlfbenlojiiknaa.heapAhead
