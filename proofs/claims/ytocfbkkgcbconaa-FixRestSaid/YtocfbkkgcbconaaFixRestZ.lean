/- FixRest: its ways put together. -/
import Derived.Test.YtocfbkkgcbconaaFixRestW
namespace Go.Proofs.Ytocfbkkgcbconaa
open Go.ChangeShapes Go.WideShapes Go.ChangeAt Go.RowKit

/-- The words of the quotient times the divisor, taken from those of the product. -/
theorem rest_words (a b q s r : Int) (k ph pl : Nat) (hq : I64 q) (hk : I64 (k : Int)) (et : a * b = s + r) (es : s = q * k) (r0 : 0 ≤ r) (r1 : r < k) (k1 : k < 9223372036854775808)
    (h1 : a * b % 340282366920938463463374607431768211456 / 18446744073709551616 = (ph : Int)) (h2 : a * b % 18446744073709551616 = (pl : Int)) :
    ∃ qh ql lo o oo : Nat, (∀ w, Calls Try.prog 28 #[.int .i64 q, .int .i64 k] w fun e w' => e = .returned (.tuple #[.int .u64 qh, .int .u64 ql]) ∧ w = w') ∧
      (∀ w, (callFunc 30 #[.int .u64 pl, .int .u64 ql, .int .u64 0]).run Try.prog w = .ok (.value (.tuple #[.int .u64 lo, .int .u64 o])) w) ∧
      (∀ w, (callFunc 30 #[.int .u64 ph, .int .u64 qh, .int .u64 o]).run Try.prog w = .ok (.value (.tuple #[.int .u64 0, .int .u64 oo])) w) ∧ (lo : Int) = r := by
  obtain ⟨qh, hqh⟩ : ∃ qh : Nat, q * k % 340282366920938463463374607431768211456 / 18446744073709551616 = (qh : Int) := ⟨(q * k % 340282366920938463463374607431768211456 / 18446744073709551616).toNat, by omega⟩
  obtain ⟨ql, hql⟩ : ∃ ql : Nat, q * k % 18446744073709551616 = (ql : Int) := ⟨(q * k % 18446744073709551616).toNat, by omega⟩
  have WQ := fun w => wide_any q k hq hk qh ql hqh hql w
  rw [← es] at hqh hql
  rw [et] at h1 h2
  obtain ⟨o, o1, o2, o3, o4⟩ := words_diff (s + r) s r k ph pl qh ql rfl r0 r1 k1 h1 h2 hqh hql
  exact ⟨qh, ql, _, o, _, WQ, fun w => sub64_of pl ql 0 _ o (by omega) rfl o2 w, fun w => sub64_of ph qh o 0 _ o1 o4 rfl w, o3⟩

theorem rest_walk (a b c : Int) (ha : I64 a) (hb : I64 b) (hc : I64 c) (w : World) :
    Calls Try.prog 5 #[.int .i64 a, .int .i64 b, .int .i64 c] w fun e w' => e = .returned (.bool true) ∧ Grown w w' := by
  by_cases h : c ≤ 0
  · exact rest_arg a b c h w
  obtain ⟨k, rfl⟩ : ∃ k : Nat, c = (k : Int) := ⟨c.toNat, by omega⟩
  have h0 : 0 < (k : Int) := by omega
  have k1 : k < 9223372036854775808 := by unfold I64 at hc; omega
  have cw : IntKind.u64.wrap (k : Int) = (k : Int) := by rw [IntKind.wrap_u64]; omega
  obtain ⟨s, r, et, es, r0, r1, alt, qn⟩ := quo_both (a * b) k h0
  have DOWN := fun w => muldiv_any a b k ha hb hc h0 w
  have UP := fun w => muldivup_any a b k ha hb hc h0 w
  have T3 : I64 (-a) → ∀ w, Calls Try.prog 23 #[.int .i64 (-a), .int .i64 b, .int .i64 k] w fun e w' => e = .returned (.tuple #[.int .i64 (outN (-(quoI (a * b) k true))), .int .i64 (outE (-(quoI (a * b) k true)))]) ∧ Out w w' := fun n w => by
    have h := muldiv_any (-a) b k n hb hc h0 w
    rw [Int.neg_mul, qn] at h
    exact h
  generalize quoI (a * b) k false = q at *
  generalize quoI (a * b) k true = p at *
  clear qn
  obtain ⟨ph, hph⟩ : ∃ ph : Nat, a * b % 340282366920938463463374607431768211456 / 18446744073709551616 = (ph : Int) := ⟨(a * b % 340282366920938463463374607431768211456 / 18446744073709551616).toNat, by omega⟩
  obtain ⟨pl, hpl⟩ : ∃ pl : Nat, a * b % 18446744073709551616 = (pl : Int) := ⟨(a * b % 18446744073709551616).toNat, by omega⟩
  have WAB := fun w => wide_any a b ha hb ph pl hph hpl w
  have EX := fun hq : I64 q => rest_words a b q s r k ph pl hq hc et es r0 r1 k1 hph hpl
  clear hph hpl et es
  have AM : a = -9223372036854775808 → (a == -9223372036854775808) = true := fun h => by simp [h]
  have AN : a ≠ -9223372036854775808 → (a == -9223372036854775808) = false ∧ IntKind.i64.wrap (-a) = -a ∧ I64 (-a) := fun h => by
    refine ⟨by simp [h], ?_, ?_⟩
    · rw [IntKind.wrap_i64]; unfold I64 at ha; omega
    · unfold I64 at ha ⊢; omega
  by_cases hq : I64 q
  · rw [outN_ok hq, outE_ok hq] at DOWN
    obtain ⟨qh, ql, lo, o, oo, WQ, S1, S2, el⟩ := EX hq
    have rc : ¬ k ≤ lo := by omega
    by_cases hp : I64 p
    · rw [outN_ok hp, outE_ok hp] at UP
      rcases alt with ⟨z, pq⟩ | ⟨z, pq⟩
      · have hr : ((lo : Int) == 0) = true ∧ (p == q) = true := ⟨by rw [el, z]; rfl, by simp [pq]⟩
        by_cases hm : a = -9223372036854775808
        · exact e1f1zmin a b k q p 0 ph pl qh ql lo o oo w DOWN UP WAB WQ S1 S2 cw rc hr (AM hm) h0
        · obtain ⟨a1, a2, a3⟩ := AN hm
          have T := T3 a3
          by_cases hn : I64 (-p)
          · rw [outN_ok hn, outE_ok hn] at T
            exact e1f1zok a b k q p (-p) ph pl qh ql lo o oo w DOWN UP WAB WQ S1 S2 cw rc hr T a1 a2 (by rw [beq_eq_false_iff_ne]; unfold I64 at hp; omega) (by rw [IntKind.wrap_i64]; unfold I64 at hp; omega) (by simp) h0
          · rw [outN_no hn, outE_no hn] at T
            exact e1f1zno a b k q p 0 ph pl qh ql lo o oo w DOWN UP WAB WQ S1 S2 cw rc hr T a1 a2 h0
      · have hr : ((lo : Int) == 0) = false ∧ p = q + 1 ∧ (p == q) = false ∧ q < 9223372036854775807 ∧ -9223372036854775808 ≤ q := ⟨by rw [beq_eq_false_iff_ne]; omega, pq, by rw [beq_eq_false_iff_ne]; omega, by unfold I64 at hp; omega, hq.1⟩
        by_cases hm : a = -9223372036854775808
        · exact e1f1pmin a b k q p 0 ph pl qh ql lo o oo w DOWN UP WAB WQ S1 S2 cw rc hr (AM hm) h0
        · obtain ⟨a1, a2, a3⟩ := AN hm
          have T := T3 a3
          by_cases hn : I64 (-p)
          · rw [outN_ok hn, outE_ok hn] at T
            exact e1f1pok a b k q p (-p) ph pl qh ql lo o oo w DOWN UP WAB WQ S1 S2 cw rc hr T a1 a2 (by rw [beq_eq_false_iff_ne]; unfold I64 at hp; omega) (by rw [IntKind.wrap_i64]; unfold I64 at hp; omega) (by simp) h0
          · rw [outN_no hn, outE_no hn] at T
            exact e1f1pno a b k q p 0 ph pl qh ql lo o oo w DOWN UP WAB WQ S1 S2 cw rc hr T a1 a2 h0
    · have p63 : p = 9223372036854775808 ∧ q = 9223372036854775807 := by unfold I64 at hq hp; omega
      rw [outN_no hp, outE_no hp] at UP
      have hq7 : (q == 9223372036854775807) = true := by simp [p63.2]
      by_cases hm : a = -9223372036854775808
      · exact e1f0pmin a b k q p 0 ph pl qh ql lo o oo w DOWN UP WAB WQ S1 S2 cw rc hq7 (AM hm) h0
      · obtain ⟨a1, a2, a3⟩ := AN hm
        have T := T3 a3
        have hn : I64 (-p) := by unfold I64; omega
        rw [outN_ok hn, outE_ok hn] at T
        exact e1f0plst a b k q p (-p) ph pl qh ql lo o oo w DOWN UP WAB WQ S1 S2 cw rc hq7 T a1 a2 (by simp [p63.1]) h0
  · rw [outN_no hq, outE_no hq] at DOWN
    by_cases hp : I64 p
    · rw [outN_ok hp, outE_ok hp] at UP
      by_cases hm : a = -9223372036854775808
      · exact e0f1pmin a b k q p 0 ph pl 0 0 0 0 0 w DOWN UP WAB (AM hm) h0
      · obtain ⟨a1, a2, a3⟩ := AN hm
        have T := T3 a3
        have hn : ¬ I64 (-p) := by unfold I64 at hq hp ⊢; omega
        rw [outN_no hn, outE_no hn] at T
        exact e0f1pno a b k q p 0 ph pl 0 0 0 0 0 w DOWN UP WAB T a1 a2 h0
    · rw [outN_no hp, outE_no hp] at UP
      by_cases hm : a = -9223372036854775808
      · exact e0f0pmin a b k q p 0 ph pl 0 0 0 0 0 w DOWN UP WAB (AM hm) h0
      · obtain ⟨a1, a2, a3⟩ := AN hm
        have T := T3 a3
        by_cases hn : I64 (-p)
        · have p63 : p = 9223372036854775808 := by unfold I64 at hp hn; omega
          rw [outN_ok hn, outE_ok hn] at T
          exact e0f0plst a b k q p (-p) ph pl 0 0 0 0 0 w DOWN UP WAB T a1 a2 (by simp [p63]) h0
        · rw [outN_no hn, outE_no hn] at T
          exact e0f0pno a b k q p 0 ph pl 0 0 0 0 0 w DOWN UP WAB T a1 a2 h0
end Go.Proofs.Ytocfbkkgcbconaa
