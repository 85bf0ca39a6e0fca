/- The document's own whole numbers, with their signs: of an int64, times, plus, over, as an int64: for stage 11 and on. -/
import Derived.Test.YtokhlagcflkocaaBigI
set_option maxRecDepth 100000
namespace Go.Proofs.Ytokhlagcflkocaa
open Go.ChangeShapes Go.WideShapes Go.ChangeAt Go.RowKit BigM

/-- A whole number, with its sign; 0 has none. -/
def BigZ (w : World) (x : Value) (t : Int) (L : Nat) : Prop := BigIs w x (decide (t < 0)) t.natAbs L
theorem BigZ.below {w w' : World} {x : Value} {t : Int} {L : Nat} (h : BigZ w x t L) (b : Below w.heap.size w w') : BigZ w' x t L := BigIs.below h b

theorem neg_mul_dec (a b : Int) : ((!(decide (a < 0) == decide (b < 0))) && decide (a.natAbs * b.natAbs ≠ 0)) = decide (a * b < 0) := by
  rcases Int.lt_trichotomy a 0 with ha | ha | ha
  · rcases Int.lt_trichotomy b 0 with hb | hb | hb
    · have := Int.mul_pos_of_neg_of_neg ha hb
      rw [decide_eq_true ha, decide_eq_true hb, decide_eq_false (show ¬ a * b < 0 by omega)]
      rfl
    · subst hb
      simp
    · have := Int.mul_neg_of_neg_of_pos ha hb
      rw [decide_eq_true ha, decide_eq_false (show ¬ b < 0 by omega), decide_eq_true this]
      rw [← Int.natAbs_mul, decide_eq_true (by omega)]
      rfl
  · subst ha
    simp
  · rcases Int.lt_trichotomy b 0 with hb | hb | hb
    · have := Int.mul_neg_of_pos_of_neg ha hb
      rw [decide_eq_false (show ¬ a < 0 by omega), decide_eq_true hb, decide_eq_true this]
      rw [← Int.natAbs_mul, decide_eq_true (by omega)]
      rfl
    · subst hb
      simp
    · have := Int.mul_pos ha hb
      rw [decide_eq_false (show ¬ a < 0 by omega), decide_eq_false (show ¬ b < 0 by omega), decide_eq_false (show ¬ a * b < 0 by omega)]
      rfl
theorem sg_own {m : Bool} {n : Nat} {t : Int} (h : sg (m && decide (n ≠ 0)) n = t) : (m && decide (n ≠ 0)) = decide (t < 0) ∧ n = t.natAbs := by
  by_cases e : n = 0
  · subst e
    rw [show decide ((0 : Nat) ≠ 0) = false from rfl, Bool.and_false] at h ⊢
    unfold sg at h
    simp at h
    subst h
    exact ⟨rfl, rfl⟩
  · rw [decide_eq_true e, Bool.and_true] at h ⊢
    cases m
    · unfold sg at h
      simp at h
      exact ⟨(decide_eq_false (by omega)).symm, by omega⟩
    · unfold sg at h
      simp at h
      exact ⟨(decide_eq_true (by omega)).symm, by omega⟩

/-- Told: a whole number; all else is new. -/
def BigT (w : World) (t : Int) (L : Nat) (e : Ending) (w' : World) : Prop := ∃ x, e = .returned x ∧ BigZ w' x t L ∧ Below w.heap.size w w'

theorem ofz_any (w : World) (a : Int) (ha : I64 a) : Calls Try.prog 33 #[.int .i64 a] w (BigT w a 4) := by
  refine (of_any w a ha).mono ?_
  rintro e w' ⟨x, rfl, g, l⟩
  exact ⟨x, rfl, g, l⟩
theorem timesz_any (w : World) (x y : Value) (a b : Int) (La Lb : Nat) (hx : BigZ w x a La) (hy : BigZ w y b Lb) (la : La ≤ 100) (lb : Lb ≤ 100) :
    Calls Try.prog 53 #[x, y] w (BigT w (a * b) (Lb + 2 * La + 2)) := by
  refine (Times_any w x y _ _ _ _ La Lb hx hy la lb).mono ?_
  rintro e w' ⟨z, rfl, g, l⟩
  rw [neg_mul_dec, ← Int.natAbs_mul] at g
  exact ⟨z, rfl, g, l⟩
theorem plusz_any (w : World) (x y : Value) (a b : Int) (La Lb : Nat) (hx : BigZ w x a La) (hy : BigZ w y b Lb) (la : La ≤ 900) (lb : Lb ≤ 900) :
    Calls Try.prog 32 #[x, y] w (BigT w (a + b) (max La Lb + 1)) := by
  refine (Plus_any w x y _ _ _ _ La Lb hx hy la lb).mono ?_
  rintro e w' ⟨z, rfl, g, l⟩
  have s : ∀ t : Int, sg (decide (t < 0)) t.natAbs = t := fun t => by
    unfold sg
    by_cases h : t < 0
    · simp [h]; omega
    · simp [h]; omega
  have h := sg_own (m := sumM (decide (a < 0)) a.natAbs (decide (b < 0)) b.natAbs) (n := sumN (decide (a < 0)) a.natAbs (decide (b < 0)) b.natAbs) (t := a + b) (by rw [sum_sg, s, s])
  rw [h.1, h.2] at g
  exact ⟨z, rfl, g, l⟩

/-- A size over another one: the quotient and what is left, as digits without signs. -/
theorem overz_any (w : World) (p1 : Option Addr) (k1 c1 : Nat) (p2 : Option Addr) (k2 c2 : Nat) (m1 m2 : Bool) (a b La Lb : Nat) (hx : BigIs w (.agg #[.bool m1, .slice p1 k1 c1]) m1 a La) (hy : BigIs w (.agg #[.bool m2, .slice p2 k2 c2]) m2 b Lb) (la : La ≤ 100) (lb : Lb ≤ 100) (b0 : 0 < b) (q r : Nat) (hq : a / b = q) (hr : a % b = r) :
    Calls Try.prog 54 #[.slice p1 k1 c1, .slice p2 k2 c2] w fun e w' => ∃ p k c p' k' c', e = .returned (.tuple #[.slice p k c, .slice p' k' c']) ∧ BigRaw w' (.agg #[.bool false, .slice p k c]) false q La ∧ BigRaw w' (.agg #[.bool false, .slice p' k' c']) false r Lb ∧ Below w.heap.size w w' := by
  obtain ⟨v1, d1, e1, o1, g1, n1, h1, l1⟩ := hx.out
  obtain ⟨v2, d2, e2, o2, g2, n2, h2, l2⟩ := hy.out
  injection e1 with e1
  injection e2 with e2
  have e1' : Value.slice p1 k1 c1 = v1 := by simpa using e1
  have e2' : Value.slice p2 k2 c2 = v2 := by simpa using e2
  subst e1' e2'
  refine (Over_any w _ _ d1 d2 o1 o2 g1 g2 n2 b h2 b0 (by omega) (by omega)).mono ?_
  rintro e w' ⟨vq, vr, qs, rs, rfl, i1, i2, i3, i4, i5, i6, i7, i8, i9⟩
  obtain ⟨p, c, rfl⟩ := own_len i1 rfl
  obtain ⟨p', c', rfl⟩ := own_len i5 rfl
  rw [h1, hq] at i3
  rw [h1, hr] at i8
  have lr : rs.length ≤ d2.length := canon_len g2 i7 (by rw [i8, h2, ← hr]; exact Nat.le_of_lt (Nat.mod_lt _ b0))
  exact ⟨p, _, c, p', _, c', rfl, ⟨_, qs, rfl, i1, i2, i3, by omega⟩, ⟨_, rs, rfl, i5, i6, i8, by omega⟩, i9⟩
end Go.Proofs.Ytokhlagcflkocaa

