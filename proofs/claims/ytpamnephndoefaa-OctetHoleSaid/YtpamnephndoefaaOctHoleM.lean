/- What Put leaves, for whole numbers: layer 3 (octet). No program. -/
import Derived.Test.YtpamnephndoefaaOctV
namespace Go.Proofs.Ytpamnephndoefaa
open OctM

/-- The row behind a Put. -/
def holeD (es : List Nat) (pp k v : Nat) : List Nat := es.take pp ++ digN v k ++ es.drop (pp + k)
theorem holeD_len (es : List Nat) (pp k v : Nat) (h : pp + k ≤ es.length) : (holeD es pp k v).length = es.length := by
  unfold holeD
  rw [List.length_append, List.length_append, List.length_take, List.length_drop, digN_len]
  omega
theorem holeD_byt {es : List Nat} (h : Byt es) (pp k v : Nat) : Byt (holeD es pp k v) := byt_append (byt_append (byt_take h _) (digN_byt _ _)) (byt_drop h _)
theorem holeD_take (es : List Nat) (pp k v : Nat) (h : pp + k ≤ es.length) : (holeD es pp k v).take pp = es.take pp := by
  unfold holeD
  rw [List.append_assoc, List.take_append_of_le_length (by rw [List.length_take]; omega), List.take_take, Nat.min_self]
theorem holeD_mid (es : List Nat) (pp k v : Nat) (h : pp + k ≤ es.length) : ((holeD es pp k v).drop pp).take k = digN v k := by
  unfold holeD
  have l : (es.take pp).length = pp := by rw [List.length_take]; omega
  rw [List.append_assoc, List.drop_append_of_le_length (by omega), List.drop_of_length_le (by omega), List.nil_append, List.take_append_of_le_length (by rw [digN_len]; exact Nat.le_refl _), List.take_of_length_le (by rw [digN_len]; exact Nat.le_refl _)]
theorem holeD_drop (es : List Nat) (pp k v : Nat) (h : pp + k ≤ es.length) : (holeD es pp k v).drop (pp + k) = es.drop (pp + k) := by
  unfold holeD
  have l : (es.take pp ++ digN v k).length = pp + k := by rw [List.length_append, List.length_take, digN_len]; omega
  rw [List.drop_append_of_le_length (by omega), List.drop_of_length_le (by omega), List.nil_append]
theorem okS_cast {k : Nat} (h1 : 1 ≤ k) (h8 : k ≤ 8) : okS (k : Int) := ⟨by omega, by omega⟩
theorem hole_put (es : List Nat) (pp k v : Nat) (h1 : 1 ≤ k) (h8 : k ≤ 8) (hv : v < 256 ^ k) (h : pp + k ≤ es.length) : putD es (pp : Int) (k : Int) v = holeD es pp k v ∧ putE es (pp : Int) (k : Int) v = 0 := by
  have e : putE es (pp : Int) (k : Int) v = 0 := by
    unfold putE
    rw [if_pos ⟨okS_cast h1 h8, by omega⟩, Int.toNat_natCast, if_pos hv, if_pos (by omega)]
  refine ⟨?_, e⟩
  unfold putD holeD
  rw [if_pos e, Int.toNat_natCast, Int.toNat_natCast]
theorem hole_at (es : List Nat) (pp k v : Nat) (h1 : 1 ≤ k) (h8 : k ≤ 8) (hv : v < 256 ^ k) (h : pp + k ≤ es.length) : atV (holeD es pp k v) (pp : Int) (k : Int) = v ∧ decide (inP (holeD es pp k v).length (pp : Int) (k : Int)) = true := by
  have i : inP (holeD es pp k v).length (pp : Int) (k : Int) := ⟨okS_cast h1 h8, by omega, by rw [holeD_len _ _ _ _ h]; omega⟩
  refine ⟨?_, decide_eq_true i⟩
  unfold atV
  rw [if_pos i, Int.toNat_natCast, Int.toNat_natCast, holeD_mid _ _ _ _ h, num_dig, Nat.mod_eq_of_lt hv]
theorem hole_is (es : List Nat) (pp k : Nat) (h1 : 1 ≤ k) (h8 : k ≤ 8) (h : pp + k ≤ es.length) : atV es (pp : Int) (k : Int) = numN ((es.drop pp).take k) ∧ decide (inP es.length (pp : Int) (k : Int)) = true := by
  have i : inP es.length (pp : Int) (k : Int) := ⟨okS_cast h1 h8, by omega, by omega⟩
  refine ⟨?_, decide_eq_true i⟩
  unfold atV
  rw [if_pos i, Int.toNat_natCast, Int.toNat_natCast]
theorem hole_mid_len (es : List Nat) (pp k : Nat) (h : pp + k ≤ es.length) : ((es.drop pp).take k).length = k := by
  rw [List.length_take, List.length_drop]; omega
theorem hole_was (es : List Nat) (pp k : Nat) (hy : Byt es) (h : pp + k ≤ es.length) : numN ((es.drop pp).take k) < 256 ^ k := by
  have a := numN_lt (byt_take (byt_drop hy pp) k)
  rwa [hole_mid_len _ _ _ h] at a
theorem hole_back (es : List Nat) (pp k v : Nat) (hy : Byt es) (h : pp + k ≤ es.length) : holeD (holeD es pp k v) pp k (numN ((es.drop pp).take k)) = es := by
  have a := dig_num (byt_take (byt_drop hy pp) k)
  rw [hole_mid_len _ _ _ h] at a
  show (holeD es pp k v).take pp ++ digN _ k ++ (holeD es pp k v).drop (pp + k) = es
  rw [holeD_take _ _ _ _ h, holeD_drop _ _ _ _ h, a, List.append_assoc]
  rw [show es.drop (pp + k) = (es.drop pp).drop k by rw [List.drop_drop], List.take_append_drop, List.take_append_drop]
theorem hole_range (es : List Nat) (pp k v : Nat) (h1 : 1 ≤ k) (h8 : k ≤ 8) (hv : ¬ v < 256 ^ k) : putD es (pp : Int) (k : Int) v = [] ∧ putE es (pp : Int) (k : Int) v = 20 := by
  have e : putE es (pp : Int) (k : Int) v = 20 := by
    unfold putE
    rw [if_pos ⟨okS_cast h1 h8, by omega⟩, Int.toNat_natCast, if_neg hv]
  refine ⟨?_, e⟩
  unfold putD
  rw [e]; rfl
theorem hole_short (es : List Nat) (pp k v : Nat) (h1 : 1 ≤ k) (h8 : k ≤ 8) (hv : v < 256 ^ k) (h : es.length < pp + k) : (putD es (pp : Int) (k : Int) v = [] ∧ putE es (pp : Int) (k : Int) v = 4) ∧ atV es (pp : Int) (k : Int) = 0 ∧ decide (inP es.length (pp : Int) (k : Int)) = false := by
  have e : putE es (pp : Int) (k : Int) v = 4 := by
    unfold putE
    rw [if_pos ⟨okS_cast h1 h8, by omega⟩, Int.toNat_natCast, if_pos hv, if_neg (by omega)]
  have i : ¬ inP es.length (pp : Int) (k : Int) := by rintro ⟨-, -, g⟩; omega
  refine ⟨⟨?_, e⟩, ?_, decide_eq_false i⟩
  · unfold putD
    rw [e]; rfl
  · unfold atV
    rw [if_neg i]
end Go.Proofs.Ytpamnephndoefaa
