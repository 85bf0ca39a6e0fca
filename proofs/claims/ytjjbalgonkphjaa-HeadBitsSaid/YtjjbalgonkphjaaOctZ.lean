/- Layer 3 (octet): rows there and back, as numbers. No program. -/
import Derived.Test.YtjjbalgonkphjaaOctX
namespace Go.Proofs.Ytjjbalgonkphjaa
open Go.ChangeShapes Go.WideShapes Go.ChangeAt Go.RowKit OctM

theorem layT_prefix (zs : List Int) (xs : List Nat) {k N : Nat} (h : k ≤ N) : ∃ r, layT zs xs N = layT zs xs k ++ r := by
  induction N with
  | zero => obtain rfl : k = 0 := by omega
            exact ⟨[], rfl⟩
  | succ m ih =>
    by_cases e : k = m + 1
    · subst e; exact ⟨[], by simp⟩
    · obtain ⟨r, hr⟩ := ih (by omega)
      exact ⟨r ++ digN (xs.getD m 0) (zs.getD m 0).toNat, by rw [layT_succ, hr, List.append_assoc]⟩
theorem layT_at {zs : List Int} (xs : List Nat) (ok : okAll zs) {k : Nat} (hk : k ≤ zs.length) : (layT zs xs k).length = atT zs k := by
  have a := layT_len zs xs k ok hk
  have b := atT_int ok hk
  omega
/-- The place of a number in a row. -/
theorem lay_place {zs : List Int} (xs bh : List Nat) (ok : okAll zs) {k N : Nat} (hk : k < N) (hN : N ≤ zs.length) (hf : fitT zs xs N) :
    (((layT zs xs N ++ bh).drop (atT zs k)).take (zs.getD k 0).toNat) = digN (xs.getD k 0) (zs.getD k 0).toNat ∧ numN (((layT zs xs N ++ bh).drop (atT zs k)).take (zs.getD k 0).toNat) = xs.getD k 0 := by
  obtain ⟨r, hr⟩ := layT_prefix zs xs (show k + 1 ≤ N by omega)
  have e : ((layT zs xs N ++ bh).drop (atT zs k)).take (zs.getD k 0).toNat = digN (xs.getD k 0) (zs.getD k 0).toNat := by
    rw [hr, layT_succ, ← layT_at xs ok (k := k) (by omega), List.append_assoc, List.append_assoc, List.drop_left, List.take_append_of_le_length (by rw [digN_len]; exact Nat.le_refl _), List.take_of_length_le (by rw [digN_len]; exact Nat.le_refl _)]
  refine ⟨e, ?_⟩
  rw [e, num_dig, Nat.mod_eq_of_lt (hf k hk)]
theorem take_lay {zs : List Int} (xs bh : List Nat) (ok : okAll zs) {N : Nat} (hN : N ≤ zs.length) (hx : xs.length = N) (hf : fitT zs xs N) (k : Nat) (hk : k ≤ N) : takT zs (layT zs xs N ++ bh) k = xs.take k := by
  induction k with
  | zero => rfl
  | succ m ih =>
    show takT zs (layT zs xs N ++ bh) m ++ [numN _] = _
    rw [ih (by omega), (lay_place xs bh ok (k := m) (by omega) hN hf).2, take_next (by omega)]
theorem takT_getD (zs : List Int) (ds : List Nat) {m N : Nat} (h : m < N) : (takT zs ds N).getD m 0 = numN ((ds.drop (atT zs m)).take (zs.getD m 0).toNat) := by
  induction N with
  | zero => omega
  | succ j ih =>
    by_cases e : m < j
    · rw [show takT zs ds (j + 1) = takT zs ds j ++ [numN ((ds.drop (atT zs j)).take (zs.getD j 0).toNat)] from rfl, List.getD_eq_getElem?_getD, List.getElem?_append_left (by rw [takT_len]; exact e), ← List.getD_eq_getElem?_getD]
      exact ih e
    · obtain rfl : m = j := by omega
      rw [show takT zs ds (m + 1) = takT zs ds m ++ [numN ((ds.drop (atT zs m)).take (zs.getD m 0).toNat)] from rfl, List.getD_eq_getElem?_getD, List.getElem?_append_right (by rw [takT_len]; exact Nat.le_refl _), takT_len, Nat.sub_self]
      rfl
theorem lay_take {zs : List Int} {ds : List Nat} (ok : okAll zs) (hy : Byt ds) {N : Nat} (hN : N ≤ zs.length) (hl : atT zs N ≤ ds.length) (k : Nat) (hk : k ≤ N) : layT zs (takT zs ds N) k = ds.take (atT zs k) := by
  induction k with
  | zero => show [] = _; rw [show atT zs 0 = 0 from rfl]; rfl
  | succ m ih =>
    have a1 := atT_succ ok (k := m) (by omega)
    have a2 := atT_mono ok (j := m + 1) (k := N) (by omega) hN
    have g := takT_getD zs ds (N := N) (m := m) (by omega)
    have l : ((ds.drop (atT zs m)).take (zs.getD m 0).toNat).length = (zs.getD m 0).toNat := by rw [List.length_take, List.length_drop]; omega
    have d := dig_num (byt_take (byt_drop hy (atT zs m)) (zs.getD m 0).toNat)
    rw [l] at d
    rw [layT_succ, ih (by omega), g, d, a1, List.take_add]
theorem take_fit (zs : List Int) {ds : List Nat} (hy : Byt ds) (N : Nat) : fitT zs (takT zs ds N) N := by
  intro i hi
  rw [takT_getD zs ds hi]
  refine Nat.lt_of_lt_of_le (numN_lt (byt_take (byt_drop hy _) _)) (Nat.pow_le_pow_right (by omega) ?_)
  rw [List.length_take]
  omega
theorem fit_lt {zs : List Int} {xs : List Nat} (ok : okAll zs) (hx : xs.length = zs.length) (hf : fitT zs xs zs.length) : ∀ x ∈ xs, x < 18446744073709551616 := by
  intro x h
  obtain ⟨i, hi, rfl⟩ := List.getElem_of_mem h
  have a := hf i (by omega)
  rw [List.getD_eq_getElem?_getD, List.getElem?_eq_getElem hi] at a
  have o := okAll_get ok (i := i) (by omega)
  unfold okS at o
  exact Nat.lt_of_lt_of_le a (pow_le8 _ (by omega))

/-- What the program's calls tell of a row that was laid. -/
structure BackN (zs : List Int) (xs D : List Nat) (L : Nat) : Prop where
  lay : layD zs xs = D ∧ layE zs xs = 0
  wid : widV zs = (L : Int) ∧ widE zs = 0
  len : D.length = L
  byt : Byt D
  low : L ≤ 8 * zs.length
  take : ∀ bh, takX zs (D ++ bh) = xs ∧ takD zs (D ++ bh) = bh ∧ takE zs (D ++ bh) = 0
  at' : ∀ k, k < zs.length → atV D (atT zs k : Int) (zs.getD k 0) = xs.getD k 0 ∧ inP D.length (atT zs k : Int) (zs.getD k 0)
  short : ∀ j, j < L → takE zs (D.take j) = 4
  other : ∀ es, Byt es → es.length < L → takE zs es = 4
  back : ∀ es, Byt es → L ≤ es.length → ∃ o l, takX zs es = o ∧ takD zs es = l ∧ takE zs es = 0 ∧ (∀ x ∈ o, x < 18446744073709551616) ∧ o.length = zs.length ∧ layE zs o = 0 ∧ layD zs o ++ l = es

theorem backN {zs : List Int} {xs : List Nat} (ok : okAll zs) (hx : xs.length = zs.length) (hf : fitT zs xs zs.length) : BackN zs xs (layT zs xs zs.length) (atT zs zs.length) := by
  have ll := layT_at xs ok (k := zs.length) (Nat.le_refl _)
  have si := atT_all ok
  have e0 : layE zs xs = 0 := by unfold layE; rw [if_pos ⟨ok, hx⟩, if_pos hf]
  refine ⟨⟨by unfold layD; rw [if_pos ⟨⟨ok, hx⟩, hf⟩], e0⟩, ⟨by unfold widV; rw [if_pos ok, si], by unfold widE; rw [if_pos ok]⟩, ll, layT_byt _ _ _, by rw [← ll]; exact layT_le zs xs _ ok (Nat.le_refl _), fun bh => ?_, fun k hk => ?_, fun j hj => ?_, fun es _ h => ?_, fun es hy h => ?_⟩
  · have g : sumI zs ≤ ((layT zs xs zs.length ++ bh).length : Int) := by rw [List.length_append, ll, ← si]; omega
    refine ⟨?_, ?_, ?_⟩
    · unfold takX
      rw [if_pos ⟨ok, g⟩, take_lay xs bh ok (Nat.le_refl _) hx hf _ (Nat.le_refl _), List.take_of_length_le (by omega)]
    · unfold takD
      rw [if_pos ⟨ok, g⟩, ← ll, List.drop_left]
    · unfold takE
      rw [if_pos ok, if_neg (by omega)]
  · have o := okAll_get ok hk
    have a1 := atT_succ ok hk
    have a2 := atT_mono ok (j := k + 1) (k := zs.length) (by omega) (Nat.le_refl _)
    have p : inP (layT zs xs zs.length).length (atT zs k : Int) (zs.getD k 0) := by
      refine ⟨o, by omega, ?_⟩
      unfold okS at o
      rw [ll]
      omega
    refine ⟨?_, p⟩
    unfold atV
    rw [if_pos p, Int.toNat_natCast]
    have b := (lay_place xs [] ok hk (Nat.le_refl _) hf).2
    rwa [List.append_nil] at b
  · unfold takE
    rw [if_pos ok, if_pos (by rw [List.length_take, ll, ← si]; omega)]
  · unfold takE
    rw [if_pos ok, if_pos (by rw [← si]; omega)]
  · have g : sumI zs ≤ (es.length : Int) := by rw [← si]; omega
    have f := take_fit zs hy zs.length
    have tl := takT_len zs es zs.length
    refine ⟨takT zs es zs.length, es.drop (atT zs zs.length), by unfold takX; rw [if_pos ⟨ok, g⟩], by unfold takD; rw [if_pos ⟨ok, g⟩], by unfold takE; rw [if_pos ok, if_neg (by omega)], fit_lt ok tl f, tl, by unfold layE; rw [if_pos ⟨ok, tl⟩, if_pos f], ?_⟩
    unfold layD
    rw [if_pos ⟨⟨ok, tl⟩, f⟩, lay_take ok hy (Nat.le_refl _) h _ (Nat.le_refl _), List.take_append_drop]
end Go.Proofs.Ytjjbalgonkphjaa
