/- Layer 3 (octet): rows stand in the order of their numbers. No program beyond the cells' helper. -/
import Derived.Test.YtpamnephndoefaaOctBackM
import Derived.Lib.Bytealg
import Derived.Lib.Bytes
namespace Go.Proofs.Ytpamnephndoefaa
open Go.ChangeShapes Go.WideShapes Go.ChangeAt Go.RowKit OctM

/-- Which of two rows of digits is ahead: the first that differs counts. -/
def cmpN : List Nat → List Nat → Int
  | [], [] => 0
  | [], _ :: _ => -1
  | _ :: _, [] => 1
  | a :: s, b :: t => if a < b then -1 else if b < a then 1 else cmpN s t

theorem cmp_bytes {a b : List Nat} (ha : Byt a) (hb : Byt b) : Lib.compareBytes (Lib.bytesOf (a.map fun d : Nat => (d : Int))) (Lib.bytesOf (b.map fun d : Nat => (d : Int))) = cmpN a b := by
  have e : ∀ l : List Nat, Lib.bytesOf (l.map fun d : Nat => (d : Int)) = l.map UInt8.ofNat := by
    intro l
    unfold Lib.bytesOf
    rw [List.map_map]
    apply List.map_congr_left
    intro d _
    simp
  rw [e, e]
  clear e
  induction a generalizing b with
  | nil => cases b <;> rfl
  | cons x s ih =>
    cases b with
    | nil => rfl
    | cons y t =>
      have hx := ha x (by simp)
      have hy := hb y (by simp)
      have i := ih (b := t) (fun d hd => ha d (by simp [hd])) (fun d hd => hb d (by simp [hd]))
      have l1 : UInt8.ofNat x < UInt8.ofNat y ↔ x < y := by rw [UInt8.lt_iff_toNat_lt, UInt8.toNat_ofNat', UInt8.toNat_ofNat']; omega
      have l2 : UInt8.ofNat y < UInt8.ofNat x ↔ y < x := by rw [UInt8.lt_iff_toNat_lt, UInt8.toNat_ofNat', UInt8.toNat_ofNat']; omega
      simp only [List.map_cons, Lib.compareBytes, cmpN, l1, l2, i]
theorem cmpN_same (a : List Nat) : cmpN a a = 0 := by
  induction a with
  | nil => rfl
  | cons x s ih => simp [cmpN, ih]
theorem cmpN_pre (p a b : List Nat) : cmpN (p ++ a) (p ++ b) = cmpN a b := by
  induction p with
  | nil => rfl
  | cons x s ih => simp [cmpN, ih]
theorem cmpN_suf (s : List Nat) {a b : List Nat} (h : a.length = b.length) : cmpN (a ++ s) (b ++ s) = cmpN a b := by
  induction a generalizing b with
  | nil => obtain rfl : b = [] := List.length_eq_zero_iff.1 h.symm
           exact cmpN_same s
  | cons x t ih =>
    cases b with
    | nil => simp at h
    | cons y u => simp only [List.cons_append, cmpN, ih (b := u) (by simpa using h)]
theorem numN_cons (d : Nat) (ds : List Nat) : numN (d :: ds) = d * 256 ^ ds.length + numN ds := by
  obtain ⟨s, hs⟩ : ∃ s, s = ds.length := ⟨_, rfl⟩
  induction s generalizing ds with
  | zero => obtain rfl : ds = [] := List.length_eq_zero_iff.1 hs.symm
            simp [numN]
  | succ s ih =>
    obtain ⟨a, x, rfl, ha⟩ := snoc_of hs.symm
    rw [← List.cons_append, numN_snoc, ih a ha.symm, numN_snoc, List.length_append, Nat.pow_add]
    simp only [List.length_cons, List.length_nil, Nat.zero_add, Nat.pow_one]
    rw [Nat.add_mul, Nat.mul_assoc]
    omega
theorem cmpN_num {a b : List Nat} (ha : Byt a) (hb : Byt b) (h : a.length = b.length) : (numN a < numN b → cmpN a b = -1) ∧ (numN a = numN b → cmpN a b = 0) ∧ (numN b < numN a → cmpN a b = 1) := by
  induction a generalizing b with
  | nil => obtain rfl : b = [] := List.length_eq_zero_iff.1 h.symm
           exact ⟨fun g => absurd g (by omega), fun _ => rfl, fun g => absurd g (by omega)⟩
  | cons x s ih =>
    cases b with
    | nil => simp at h
    | cons y t =>
      have hl : s.length = t.length := by simpa using h
      have sa : Byt s := fun d hd => ha d (by simp [hd])
      have sb : Byt t := fun d hd => hb d (by simp [hd])
      have i := ih (b := t) sa sb hl
      have n1 := numN_lt sa
      have n2 := numN_lt sb
      rw [numN_cons, numN_cons, hl]
      rw [hl] at n1
      have P : 0 < 256 ^ t.length := Nat.pow_pos (by omega)
      generalize 256 ^ t.length = B at *
      unfold cmpN
      by_cases c1 : x < y
      · have : x * B + B ≤ y * B := by rw [← Nat.succ_mul]; exact Nat.mul_le_mul_right B c1
        rw [if_pos c1]
        exact ⟨fun _ => rfl, fun g => absurd g (by omega), fun g => absurd g (by omega)⟩
      · rw [if_neg c1]
        by_cases c2 : y < x
        · have : y * B + B ≤ x * B := by rw [← Nat.succ_mul]; exact Nat.mul_le_mul_right B c2
          rw [if_pos c2]
          exact ⟨fun g => absurd g (by omega), fun g => absurd g (by omega), fun _ => rfl⟩
        · rw [if_neg c2]
          obtain rfl : x = y := by omega
          exact ⟨fun g => i.1 (by omega), fun g => i.2.1 (by omega), fun g => i.2.2 (by omega)⟩

theorem getD_set (xs : List Nat) (k y i : Nat) (h : k < xs.length) : (xs.set k y).getD i 0 = if i = k then y else xs.getD i 0 := by
  rw [List.getD_eq_getElem?_getD, List.getD_eq_getElem?_getD, List.getElem?_set]
  by_cases e : i = k
  · subst e; simp [h]
  · rw [if_neg e, if_neg (fun g => e g.symm)]
theorem layT_same (zs : List Int) {xs ys : List Nat} {k : Nat} (h : ∀ i, i < k → xs.getD i 0 = ys.getD i 0) : layT zs xs k = layT zs ys k := by
  induction k with
  | zero => rfl
  | succ m ih => rw [layT_succ, layT_succ, ih (fun i hi => h i (by omega)), h m (by omega)]
theorem layT_set (zs : List Int) (xs : List Nat) (k y : Nat) (hk : k < xs.length) {N : Nat} (hN : k < N) :
    ∃ p s, layT zs xs N = p ++ digN (xs.getD k 0) (zs.getD k 0).toNat ++ s ∧ layT zs (xs.set k y) N = p ++ digN y (zs.getD k 0).toNat ++ s := by
  induction N with
  | zero => omega
  | succ m ih =>
    by_cases e : k = m
    · subst e
      refine ⟨layT zs xs k, [], by rw [layT_succ, List.append_nil], ?_⟩
      rw [layT_succ, List.append_nil, getD_set _ _ _ _ hk, if_pos rfl]
      congr 1
      exact (layT_same zs (fun i hi => by rw [getD_set _ _ _ _ hk, if_neg (by omega)])).symm
    · obtain ⟨p, s, h1, h2⟩ := ih (by omega)
      refine ⟨p, s ++ digN (xs.getD m 0) (zs.getD m 0).toNat, by rw [layT_succ, h1, List.append_assoc _ s], ?_⟩
      rw [layT_succ, h2, getD_set _ _ _ _ hk, if_neg (by omega), List.append_assoc _ s]
theorem fit_set {zs : List Int} {xs : List Nat} {k y N : Nat} (hk : k < xs.length) (hf : fitT zs xs N) (hy : y < 256 ^ (zs.getD k 0).toNat) : fitT zs (xs.set k y) N := by
  intro i hi
  rw [getD_set _ _ _ _ hk]
  by_cases e : i = k
  · subst e; rw [if_pos rfl]; exact hy
  · rw [if_neg e]; exact hf i hi

/-- Rows of the same sizes, the same but for one number: they stand in its order. -/
theorem order_num {zs : List Int} {xs : List Nat} {k y : Nat} (hk : k < xs.length) (hl : xs.length = zs.length) (hf : fitT zs xs zs.length) (hy : y < 256 ^ (zs.getD k 0).toNat) :
    (xs.getD k 0 < y → cmpN (layT zs xs zs.length) (layT zs (xs.set k y) zs.length) = -1) ∧ (xs.getD k 0 = y → cmpN (layT zs xs zs.length) (layT zs (xs.set k y) zs.length) = 0) ∧
      (y < xs.getD k 0 → cmpN (layT zs xs zs.length) (layT zs (xs.set k y) zs.length) = 1) := by
  obtain ⟨p, s, h1, h2⟩ := layT_set zs xs k y hk (N := zs.length) (by omega)
  have e1 : numN (digN (xs.getD k 0) (zs.getD k 0).toNat) = xs.getD k 0 := by rw [num_dig, Nat.mod_eq_of_lt (hf k (by omega))]
  have e2 : numN (digN y (zs.getD k 0).toNat) = y := by rw [num_dig, Nat.mod_eq_of_lt hy]
  have c := cmpN_num (digN_byt (xs.getD k 0) (zs.getD k 0).toNat) (digN_byt y (zs.getD k 0).toNat) (by rw [digN_len, digN_len])
  rw [e1, e2] at c
  rw [h1, h2, List.append_assoc, List.append_assoc, cmpN_pre, cmpN_suf _ (by rw [digN_len, digN_len])]
  exact c
end Go.Proofs.Ytpamnephndoefaa
