/- ExtBack: the function answers true at every input, and its arguments read behind the call as they read before. No conditions. -/
import Derived.Test.YteclcefeipjoeaaRows
import Derived.Test.YteclcefeipjoeaaExtBackW
import Derived.Test.YteclcefeipjoeaaFrameX
import Derived.Test.YteclcefeipjoeaaFrame
import Derived.WalkKit
import Derived.ProofKit
import Derived.OpenShut
namespace Go.Proofs.Yteclcefeipjoeaa.extBack
open Go.ChangeShapes Go.WideShapes Go.ChangeAt Go.RowKit
set_option linter.unusedVariables false

theorem knob : ownKnob Try.prog.godebug = none := by kernel_rfl

set_option maxRecDepth 100000 in
theorem row (os : Os) (started : os.Started) (H : Type) (enc : TypeId × Value → H) :
    ReturnsInHanded {} Try.checked os 5 .any (Rows.extBackSpec.pre6 enc Try.prog Try.f5 Rows.extBackRow.domain false) (Rows.extBackSpec.post enc Try.prog Try.f5 false true false false) := by
  refine returnsInHanded_of_change (C := Try.checked) knob started (by kernel_rfl) Try.func5 (ChangeSpec.witness6 (enc := enc) (C := Try.checked) false ⟨#[], #[.slice none 0 0, .agg #[.int .u8 0, .int .u8 0, .int .u8 0, .int .u8 0, .int .u8 0, .int .u8 0, .int .u8 0, .int .u8 0, .int .u8 0, .int .u8 0, .int .u8 0, .int .u8 0], .slice none 0 0], []⟩ 8 (by kernel_rfl) (by kernel_rfl) (by kernel_rfl) (by kernel_rfl)) ?_
  intro W base args ds gs before fits whole cond _
  have kept := whole
  obtain ⟨pp, qq, told, vars, rfl, frz, nd⟩ := whole
  have fit : ∀ (j : Nat) t v, Try.f5.params[j]? = some t → args[j]? = some v → Value.okWide Try.prog W .any base t v := fits
  have tell : DataW.TrodAll enc Try.prog W 0 (fun _ => true) true Try.f5.params.toList args.toList ds pp := told
  rw [Try.params5] at tell fit
  have all := tell
  obtain ⟨x0, xs0, d0, ds0, q0, r0, shape, rfl, rfl, h0, t0⟩ := trodAll_cons tell
  obtain ⟨x1, xs1, d1, ds1, q1, r1, rfl, rfl, rfl, h1, t1⟩ := trodAll_cons t0
  obtain ⟨x2, xs2, d2, ds2, q2, r2, rfl, rfl, rfl, h2, t2⟩ := trodAll_cons t1
  obtain ⟨rfl, rfl, rfl⟩ := trodAll_nil t2
  obtain rfl : args = #[x0, x1, x2] := by cases args; simp_all
  obtain ⟨rfl, rfl⟩ := trodVars_none vars
  obtain ⟨p0, n0, c0, l0, rfl, H0, W0⟩ := read_exts (g := 5) Try.underlying22 Try.underlying44 (by kernel_rfl) (by kernel_rfl) (by kernel_rfl) (by kernel_rfl) (by kernel_rfl) (by kernel_rfl) (by kernel_rfl) Try.underlying5 (by kernel_rfl) (fit 0 22 x0 rfl rfl) h0
  obtain ⟨C1, z1, rfl, S1, H1, W1⟩ := read_arr (k := .u8) Try.underlying46 Try.underlying5 (by kernel_rfl) (by kernel_rfl) (fit 1 46 x1 rfl rfl) h1
  obtain ⟨p2, n2, c2, z2, rfl, H2, W2⟩ := read_ints Try.underlying25 Try.underlying5 (by kernel_rfl) (fit 2 25 x2 rfl rfl) h2
  clear told fits tell
  have core : Calls Try.prog 5 #[.slice p0 n0 c0, .agg C1, .slice p2 n2 c2] W fun e w' => e = .returned (.bool true) ∧ Below W.heap.size W w' := by
    have B1 : ∀ z ∈ z1, 0 ≤ z ∧ z < ((256 : Nat) : Int) := fun z hz => u8_of_wf (W1 z hz)
    have B2 : ∀ z ∈ z2, 0 ≤ z ∧ z < ((256 : Nat) : Int) := fun z hz => u8_of_wf (W2 z hz)
    have e : valsI .u8 z1 = valsN .u8 (z1.map Int.toNat) := by
      unfold valsN valsI
      rw [List.map_map]
      refine List.map_congr_left fun z hz => ?_
      have := (B1 z hz).1
      show Value.int .u8 z = Value.int .u8 ((z.toNat : Nat) : Int)
      rw [Int.toNat_of_nonneg this]
    exact back_walk W C1 (z1.map Int.toNat) S1 (H1.trans e) (nat_lt B1) p0 n0 c0 l0 H0 W0 p2 n2 c2 (z2.map Int.toNat) (holds_nat H2 fun z hz => (B2 z hz).1) (nat_lt B2)
  refine core.mono fun e W' ⟨he, hg⟩ => ?_
  subst he
  exact ⟨_, rfl, post_low (pv := []) kept hg (fun _ _ _ => trodAll_cons_mk (shut_bool Try.underlying4 _) trodAll_mk0) (fun sp hs => all_back hg (by decide +kernel) all (fun x hx => kept.lt x (List.mem_append_left _ hx)) (fun x hx => hs x (List.mem_append_left _ hx))) (fun _ _ => rfl)⟩

theorem over : Rows.extBackRow.holds Try.pinned (OpenSpec.ofChange Rows.extBackSpec) :=
  OpenClaim.holds_of_wide 5 Try.f5 rfl rfl rfl rfl rfl rfl rfl ⟨rfl, rfl, rfl, rfl, rfl⟩ rfl rfl rfl rfl rfl (by kernel_rfl) Try.func5 (by kernel_rfl)
    (of_decide_eq_true (by kernel_rfl)) (by unfold Func.isWrapper; first | (rw [if_pos (by decide +kernel)]; kernel_rfl) | (rw [if_neg (by decide +kernel)]; exact ⟨rfl, rfl⟩))
    (fun os started H enc _ => row os started H enc)

theorem proved : Rows.ExtBackSaid := over
#print axioms proved
end Go.Proofs.Yteclcefeipjoeaa.extBack
