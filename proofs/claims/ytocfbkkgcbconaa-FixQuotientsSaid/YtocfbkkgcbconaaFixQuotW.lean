/- The walk of FixQuotients: quotients and roots are the document's. -/
import Derived.Test.YtocfbkkgcbconaaBigJ
namespace Go.Proofs.Ytocfbkkgcbconaa
open Go.ChangeShapes Go.WideShapes Go.ChangeAt Go.RowKit BigM

theorem root_uniq (n x : Nat) (hn : n < 18446744073709551616) (h1 : x * x ≤ n) (h2 : n < (x + 1) * (x + 1)) : rootN n = x := by
  obtain ⟨g1, g2⟩ := rootN_spec n hn
  have le : ∀ {a b : Nat}, a * a < (b + 1) * (b + 1) → a ≤ b := by
    intro a b h
    rcases Nat.lt_or_ge b a with g | g
    · have := Nat.mul_le_mul (show b + 1 ≤ a by omega) (show b + 1 ≤ a by omega)
      omega
    · exact g
  have a := le (Nat.lt_of_le_of_lt g1 h2)
  have b := le (Nat.lt_of_le_of_lt h1 g2)
  omega

structure HalfRel (n lo hi : Nat) : Prop where
  l : lo * lo ≤ n
  h : n < hi * hi
  b : hi ≤ 4294967296
  s : lo < hi

theorem rsqrt_any (n r : Nat) (hn : n < 18446744073709551616) (hr : rootN n = r) (w : World) :
    Calls Try.prog 27 #[.int .u64 n] w fun e w' => e = .returned (.int .u64 r) ∧ w = w' := by
  have HN := Lib.hid hn
  have HR := Lib.hid hr
  clear hn hr
  go_enter Try.func27, Try.ntmps27
  go_wp2
  go_loop [3, 4] (fun l h => ∃ lo hi : Nat, l = .int .u64 lo ∧ h = .int .u64 hi ∧ HalfRel n lo hi) (fun l h => (intOf h - intOf l).toNat)
  case atStart => exact ⟨0, 4294967296, rfl, rfl, ⟨by omega, by have := HN.out; omega, by omega, by omega⟩⟩
  case round =>
    obtain ⟨lo, hi, rfl, rfl, h⟩ := hrel
    have H := Lib.hid h
    have hs := h.s
    have hb := h.b
    obtain ⟨d, hd⟩ : ∃ d, d = hi - lo := ⟨_, rfl⟩
    have e1 : IntKind.u64.wrap ((hi : Int) - (lo : Int)) = (d : Int) := by rw [IntKind.wrap_u64]; omega
    by_cases c : 1 < d
    · obtain ⟨s, hs'⟩ : ∃ s, s = lo + hi := ⟨_, rfl⟩
      obtain ⟨m, hm⟩ : ∃ m, m = s / 2 := ⟨_, rfl⟩
      obtain ⟨q, hq⟩ : ∃ q, q = n / m := ⟨_, rfl⟩
      have m0 : 0 < m := by omega
      have e2 : IntKind.u64.wrap ((lo : Int) + (hi : Int)) = (s : Int) := by rw [IntKind.wrap_u64]; omega
      have e3 : (s : Int) / 2 = (m : Int) := by omega
      have e4 : (n : Int) / (m : Int) = (q : Int) := by rw [hq]; simp
      have qn : q ≤ n := by rw [hq]; exact Nat.div_le_self _ _
      have e5 : IntKind.u64.wrap (q : Int) = (q : Int) := by rw [IntKind.wrap_u64]; have := HN.out; omega
      have e6 : IntKind.u64.wrap (m : Int) = (m : Int) := by rw [IntKind.wrap_u64]; omega
      have m1 : ¬ ((m : Int) = 0) := by omega
      have m2 : ¬ m = 0 := by omega
      have c' : 1 < (d : Int) := by omega
      by_cases g : m ≤ q
      · have HH : Hid (HalfRel n m hi) := ⟨by rw [hq, Nat.le_div_iff_mul_le m0] at g; exact g, h.h, h.b, by omega⟩
        have LT : Hid (hi - m < hi - lo ∧ m < hi) := by unfold Hid; omega
        have g' : (m : Int) ≤ (q : Int) := by omega
        clear h hs hb hd c hs' hm hq m0 qn
        go_wp2
        go_round
        case rel => exact ⟨m, hi, rfl, rfl, HH.out⟩
        case measure => have := LT.out; simp [intOf]; omega
      · have HH : Hid (HalfRel n lo m) := ⟨h.l, by
          rcases Nat.lt_or_ge n (m * m) with f | f
          · exact f
          · exact absurd (by rw [hq, Nat.le_div_iff_mul_le m0]; exact f) g, by omega, by omega⟩
        have LT : Hid (m - lo < hi - lo ∧ lo < m) := by unfold Hid; omega
        have g' : ¬ ((m : Int) ≤ (q : Int)) := by omega
        clear h hs hb hd c hs' hm hq m0 qn
        go_wp2
        go_round
        case rel => exact ⟨lo, m, rfl, rfl, HH.out⟩
        case measure => have := LT.out; simp [intOf]; omega
    · have hl : hi = lo + 1 := by omega
      have hx : lo = r := by
        rw [← HR.out]
        exact (root_uniq n lo HN.out h.l (by rw [← hl]; exact h.h)).symm
      have X : Hid (lo = r) := hx
      have c' : ¬ (1 < (d : Int)) := by omega
      clear h hs hb hd c hl hx
      go_wp2
      go_ret
      exact ⟨ret_int (congrArg Int.ofNat X.out), rfl⟩

theorem sqrt_to (n r : Nat) (hn : n < 18446744073709551616) (h : rootN n = r) (w : World) :
    Calls Try.prog 26 #[.int .u64 n] w fun e w' => e = .returned (.int .u64 r) ∧ w = w' := by
  have c := sqrt_any n hn w
  rw [h] at c
  exact c

theorem md_all (a b c : Int) (up : Bool) (ha : I64 a) (hb : I64 b) (hc : I64 c) : ∃ q e : Int,
    (∀ w, Calls Try.prog 24 #[.int .i64 a, .int .i64 b, .int .i64 c, .bool up] w (TwoPost w q e)) ∧
    (up = false → ∀ w, Calls Try.prog 23 #[.int .i64 a, .int .i64 b, .int .i64 c] w (TwoPost w q e)) ∧
    (up = true → ∀ w, Calls Try.prog 25 #[.int .i64 a, .int .i64 b, .int .i64 c] w (TwoPost w q e)) := by
  by_cases h : c ≤ 0
  · refine ⟨0, 1, fun w => (rmuldiv_arg a b c up h w).mono ?_, fun _ w => (muldiv_arg a b c h w).mono ?_, fun _ w => (muldivup_arg a b c h w).mono ?_⟩ <;>
    · rintro e w' ⟨rfl, rfl⟩
      exact ⟨rfl, Below.refl _ _⟩
  · have h0 : 0 < c := by omega
    refine ⟨outN (quoI (a * b) c up), outE (quoI (a * b) c up), fun w => rmuldiv_any a b c up ha hb hc h0 w, ?_, ?_⟩
    · rintro rfl w
      refine (muldiv_any a b c ha hb hc h0 w).mono ?_
      rintro e w' ⟨rfl, o⟩
      exact ⟨rfl, o.b⟩
    · rintro rfl w
      refine (muldivup_any a b c ha hb hc h0 w).mono ?_
      rintro e w' ⟨rfl, o⟩
      exact ⟨rfl, o.b⟩

set_option maxRecDepth 100000 in
set_option maxHeartbeats 2000000 in
theorem quot_walk (a b c : Int) (ha : I64 a) (hb : I64 b) (hc : I64 c) (w : World) :
    Calls Try.prog 4 #[.int .i64 a, .int .i64 b, .int .i64 c] w fun e w' => e = .returned (.bool true) ∧ Below w.heap.size w w' := by
  obtain ⟨q1, e1, R1, F1, -⟩ := md_all a b c false ha hb hc
  obtain ⟨q2, e2, R2, -, F2⟩ := md_all a b c true ha hb hc
  have D1 := Lib.hid (F1 rfl)
  have D2 := Lib.hid R1
  have U1 := Lib.hid (F2 rfl)
  have U2 := Lib.hid R2
  obtain ⟨n, hn⟩ : ∃ n : Nat, a % 18446744073709551616 = (n : Int) := ⟨(a % 18446744073709551616).toNat, by omega⟩
  have nl : n < 18446744073709551616 := by omega
  have aw : IntKind.u64.wrap a = (n : Int) := by rw [IntKind.wrap_u64, hn]
  obtain ⟨r, hr⟩ : ∃ r, rootN n = r := ⟨_, rfl⟩
  have S1 := Lib.hid (fun w => sqrt_to n r nl hr w)
  have S2 := Lib.hid (fun w => rsqrt_any n r nl hr w)
  clear F1 F2 R1 R2 hn nl hr
  go_enter Try.func4, Try.ntmps4
  go_wp2_with fail
  refine (D1.out _).mono ?_; rintro e w1 ⟨rfl, b1⟩
  go_wp2_with fail
  refine (D2.out _).mono ?_; rintro e w2 ⟨rfl, b2⟩
  go_wp2_with fail
  refine (U1.out _).mono ?_; rintro e w3 ⟨rfl, b3⟩
  go_wp2_with fail
  refine (U2.out _).mono ?_; rintro e w4 ⟨rfl, b4⟩
  go_wp2_with fail
  refine (awake_any _).mono ?_; rintro e w5 ⟨rfl, b5⟩
  go_wp2_with fail
  refine (S1.out _).mono ?_; rintro e w' ⟨rfl, rfl⟩
  go_wp2_with fail
  refine (S2.out _).mono ?_; rintro e w' ⟨rfl, rfl⟩
  go_wp2
  go_ret
  exact ⟨rfl, Chain.done ((((((Chain.nil w).step b1).step b2).step b3).step b4).step b5.b)⟩
end Go.Proofs.Ytocfbkkgcbconaa
