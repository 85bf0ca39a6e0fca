/- Layer 11 (mono): a clock at one rate: Mono is the raw time, and the rate's part of it, down. -/
import Derived.Test.YtogkjgglpokkaaaMonoH
set_option maxRecDepth 100000
namespace Go.Proofs.Ytogkjgglpokkaaa
open Go.ChangeShapes Go.WideShapes Go.ChangeAt Go.RowKit MonoM

/-- A clock of which so much went at one rate. -/
structure Ex (x : Mo) (r S : Int) : Prop where
  ok : x.Ok
  f : x.full = false
  raw : x.raw = S
  rate : x.rate = r
  e : x.mono * 1000000000 + x.rest = S * 1000000000 + S * r

theorem ex_zero (r : Int) (r0 : -500000 ≤ r) (r1 : r ≤ 500000) : Ex ⟨0, 0, r, 0, false⟩ r 0 := by
  refine ⟨?_, rfl, rfl, rfl, ?_⟩
  · have h := rate_ok zero_ok r
    rw [(rate_yes zeroM r0 r1).2] at h
    exact h
  · rw [Int.zero_mul r]
section
variable {x : Mo} {r S d : Int}
theorem Ex.r0 (h : Ex x r S) : -500000 ≤ r ∧ r ≤ 500000 := by rw [← h.rate]; exact ⟨h.ok.s0, h.ok.s1⟩
theorem Ex.mono (h : Ex x r S) : x.mono = S + S * r / 1000000000 := by
  have e := h.e
  have a := h.ok.e0
  have b := h.ok.e1
  generalize S * r = p at *
  omega
theorem Ex.s0 (h : Ex x r S) : 0 ≤ S := by rw [← h.raw]; exact h.ok.r0
theorem Ex.far (h : Ex x r S) (b : S ≤ 1125899906842624) : Far x := by
  have m := mul_rate h.s0 h.r0.1 h.r0.2
  have e := h.mono
  have s := h.s0
  generalize S * r = p at *
  exact ⟨h.ok, h.f, by rw [h.raw]; omega, by rw [e]; omega⟩
theorem Ex.next (h : Ex x r S) (b : S ≤ 1125899906842624) (h0 : 0 ≤ d) (h1 : d ≤ 1125899906842624) : Ex (x.after d) r (S + d) := by
  have F := h.far b
  refine ⟨Mo.after_ok h.ok h0, F.full h0 h1, by rw [F.raw h0 h1, h.raw], by rw [Mo.after_rate, h.rate], ?_⟩
  rw [F.after h0 h1]
  dsimp only
  have e := h.e
  unfold Mo.to Mo.q
  rw [h.rate, Int.add_mul S d r]
  generalize S * r = p at *
  generalize d * r = q at *
  omega
end
/-- Of two rates the greater one never makes less. -/
theorem ex_more {x y : Mo} {r o S : Int} (h : Ex x r S) (k : Ex y o S) (g : r ≤ o) : x.mono ≤ y.mono := by
  rw [h.mono, k.mono]
  have := Int.mul_le_mul_of_nonneg_left g h.s0
  generalize S * r = p at *
  generalize S * o = q at *
  omega
/-- Opposite rates. -/
theorem ex_mirror {x y : Mo} {r S : Int} (h : Ex x r S) (k : Ex y (-r) S) : x.mono + y.mono - 2 * S ≤ 0 ∧ -1 ≤ x.mono + y.mono - 2 * S := by
  rw [h.mono, k.mono, Int.mul_neg]
  generalize S * r = p at *
  omega
/-- The same went at the same rate. -/
theorem ex_same {x y : Mo} {r S : Int} (h : Ex x r S) (k : Ex y r S) : x.mono = y.mono := by rw [h.mono, k.mono]

/-- Go of a clock at one rate. -/
theorem pgo11_ex (w : World) (N : Nat) (x : Mo) (r S d : Int) (c : Clk w N x) (h : Ex x r S) (b : S ≤ 1125899906842624) (h0 : 0 ≤ d) (h1 : d ≤ 1125899906842624) :
    Calls Try.prog 11 #[.pointer (some ⟨N, 0, none⟩), .int .i64 d] w fun e w' => ∃ n, e = .returned (.tuple #[.int .i64 n, .int .i64 0]) ∧ Clk w' N (x.after d) ∧ Turn N w w' := by
  have r := pgo11_any w N x d c h.ok
  have e := (h.far b).go h0 h1
  rw [e.1, e.2.1] at r
  exact r.mono fun e w' ⟨a, b, t⟩ => ⟨_, a, b, t⟩
end Go.Proofs.Ytogkjgglpokkaaa
