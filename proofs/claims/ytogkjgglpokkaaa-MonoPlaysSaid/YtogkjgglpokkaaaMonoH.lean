/- Layer 11 (mono): numbers for the laws: far from the end; masks. -/
import Derived.Test.YtogkjgglpokkaaaMonoC
set_option maxRecDepth 100000
namespace Go.Proofs.Ytogkjgglpokkaaa
open Go.ChangeShapes Go.WideShapes Go.ChangeAt Go.RowKit MonoM

/-- What a mask of low bits leaves. -/
theorem mask_in (a : Int) (m : Nat) (hm : m < 9223372036854775808) : 0 ≤ bits .and .i64 a (m : Int) ∧ bits .and .i64 a (m : Int) ≤ (m : Int) := by
  have h2 : (BitVec.ofInt 64 (m : Int)).toNat = m := by
    rw [BitVec.ofInt_natCast, BitVec.toNat_ofNat]; exact Nat.mod_eq_of_lt (by omega)
  have e : bits .and .i64 a (m : Int) = IntKind.i64.wrap (((BitVec.ofInt 64 a).toNat &&& m : Nat) : Int) := by
    show IntKind.i64.wrap ((BitVec.ofInt 64 a &&& BitVec.ofInt 64 (m : Int)).toNat : Int) = _
    rw [BitVec.toNat_and, h2]
  have l : (BitVec.ofInt 64 a).toNat &&& m ≤ m := Nat.and_le_right
  rw [e, IntKind.wrap_i64]
  generalize (BitVec.ofInt 64 a).toNat &&& m = g at *
  omega

/-- Far from the end: at most 2^61 went, and it is not full. -/
structure Far (x : Mo) : Prop where
  ok : x.Ok
  f : x.full = false
  r : x.raw ≤ 2305843009213693952
  m : x.mono ≤ 2305843009213693952

section
variable {x : Mo} {d : Int}
theorem Far.to_le (h : Far x) (h0 : 0 ≤ d) (h1 : d ≤ 1125899906842624) : x.to d ≤ 2307531859073957888 := by
  have := Mo.q_hi h.ok h0
  have := h.m
  unfold Mo.to
  omega
theorem Far.after (h : Far x) (h0 : 0 ≤ d) (h1 : d ≤ 1125899906842624) : x.after d = ⟨x.raw + d, x.to d, x.rate, (d * x.rate + x.rest) % 1000000000, false⟩ := by
  have := h.to_le h0 h1
  have := h.r
  exact Mo.after_far h.f (by omega) (by omega)
theorem Far.go (h : Far x) (h0 : 0 ≤ d) (h1 : d ≤ 1125899906842624) : goX x d = x.after d ∧ goE x d = 0 ∧ goN x d = d + x.q d := by
  have e := go_yes x (d := d) (by unfold badD; omega) (by rw [h.after h0 h1])
  refine ⟨e.1, e.2.1, ?_⟩
  rw [e.2.2, h.after h0 h1]
  unfold Mo.to
  dsimp only
  omega
theorem Far.raw (h : Far x) (h0 : 0 ≤ d) (h1 : d ≤ 1125899906842624) : (x.after d).raw = x.raw + d := by rw [h.after h0 h1]
theorem Far.mono (h : Far x) (h0 : 0 ≤ d) (h1 : d ≤ 1125899906842624) : (x.after d).mono = x.to d := by rw [h.after h0 h1]
theorem Far.full (h : Far x) (h0 : 0 ≤ d) (h1 : d ≤ 1125899906842624) : (x.after d).full = false := by rw [h.after h0 h1]
theorem Far.next (h : Far x) (h0 : 0 ≤ d) (h1 : d ≤ 1125899906842624) (r : x.raw + d ≤ 2305843009213693952) (m : x.to d ≤ 2305843009213693952) : Far (x.after d) :=
  ⟨Mo.after_ok h.ok h0, h.full h0 h1, by rw [h.raw h0 h1]; exact r, by rw [h.mono h0 h1]; exact m⟩
theorem Mo.to_hi (ok : x.Ok) (h0 : 0 ≤ d) : x.to d ≤ x.mono + (d + d / 2000 + 1) := by
  have := Mo.q_hi ok h0
  unfold Mo.to
  omega
theorem Mo.to_low (ok : x.Ok) (h0 : 0 ≤ d) : x.mono + (d - d / 2000 - 1) ≤ x.to d := by
  have := Mo.q_lo ok h0
  unfold Mo.to
  omega
end
end Go.Proofs.Ytogkjgglpokkaaa
