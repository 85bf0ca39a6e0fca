/- Layer 6 (mac): a tag byte by byte, as functions of lists. -/
import Derived.Test.YtkojgegfmhoomaaMacS
import Derived.Laws.BitsAllLaws
namespace Go.Proofs.Ytkojgegfmhoomaa
open Go.ChangeShapes Go.WideShapes Go.ChangeAt Go.RowKit OctM

/-- What of a word has come when M bytes have come. -/
def partW (ds : List Nat) (M : Nat) : Nat := leN ((ds.drop (8 * (M / 8))).take (M % 8))
theorem leN_snoc : ∀ (l : List Nat) (b : Nat), leN (l ++ [b]) = leN l + b * 256 ^ l.length
  | [], b => by show 0 * 256 + b = 0 + b * 1; omega
  | x :: l, b => by
    show leN (l ++ [b]) * 256 + x = leN l * 256 + x + b * 256 ^ (l.length + 1)
    rw [leN_snoc l b, Nat.add_mul, Nat.pow_succ, Nat.mul_assoc]
    omega
theorem partW_lt {ds : List Nat} (h : Byt ds) (M : Nat) : partW ds M < 256 ^ (M % 8) := by
  have a := leN_lt (byt_take (byt_drop h (8 * (M / 8))) (M % 8))
  refine Nat.lt_of_lt_of_le a (Nat.pow_le_pow_right (by decide) ?_)
  rw [List.length_take]
  omega
theorem partW_zero (ds : List Nat) {M : Nat} (h : M % 8 = 0) : partW ds M = 0 := by
  unfold partW
  rw [h]
  rfl
/-- One byte more: what has come of the word, joined. -/
theorem partW_join (ds : List Nat) {M : Nat} (hM : M < ds.length) : partW ds M + ds.getD M 0 * 256 ^ (M % 8) = leN ((ds.drop (8 * (M / 8))).take (M % 8 + 1)) := by
  have l1 : M % 8 < (ds.drop (8 * (M / 8))).length := by rw [List.length_drop]; omega
  rw [List.take_succ_eq_append_getElem l1, leN_snoc]
  have e : ((ds.drop (8 * (M / 8))).take (M % 8)).length = M % 8 := by rw [List.length_take]; omega
  rw [e]
  unfold partW
  congr 2
  rw [List.getElem_drop, List.getD_eq_getElem?_getD, List.getElem?_eq_getElem hM, Option.getD_some]
  congr 1
  omega
theorem partW_more (ds : List Nat) {M : Nat} (hM : M < ds.length) (h : ¬ (M + 1) % 8 = 0) : partW ds M + ds.getD M 0 * 256 ^ (M % 8) = partW ds (M + 1) := by
  rw [partW_join ds hM]
  unfold partW
  rw [show (M + 1) / 8 = M / 8 by omega, show (M + 1) % 8 = M % 8 + 1 by omega]
theorem fullN_more (ds : List Nat) {M : Nat} (h : ¬ (M + 1) % 8 = 0) : fullN ds ((M + 1) / 8) = fullN ds (M / 8) := by
  rw [show (M + 1) / 8 = M / 8 by omega]
theorem fullN_word (ds : List Nat) {M : Nat} (hM : M < ds.length) (h : (M + 1) % 8 = 0) : fullN ds ((M + 1) / 8) = fullN ds (M / 8) ++ [partW ds M + ds.getD M 0 * 256 ^ (M % 8)] := by
  rw [partW_join ds hM, show (M + 1) / 8 = M / 8 + 1 by omega, fullN_succ, show M % 8 + 1 = 8 by omega]
theorem join_lt {ds : List Nat} (hy : Byt ds) {M b : Nat} (hb : b < 256) : partW ds M + b * 256 ^ (M % 8) < 18446744073709551616 := by
  have a := partW_lt hy M
  obtain ⟨P, hP⟩ : ∃ P, P = 256 ^ (M % 8) := ⟨_, rfl⟩
  have q : P * 256 ≤ 18446744073709551616 := by
    rw [hP, ← Nat.pow_succ]
    exact Nat.pow_le_pow_right (n := 256) (by decide) (show M % 8 + 1 ≤ 8 by omega)
  rw [← hP] at a ⊢
  have : b * P ≤ 255 * P := Nat.mul_le_mul_right _ (by omega)
  omega
theorem pow_shift (r : Nat) : (256 : Nat) ^ r = 2 ^ (8 * r) := by rw [show (256 : Nat) = 2 ^ 8 by decide, ← Nat.pow_mul]
/-- .. as the program joins it. -/
theorem or_join {ds : List Nat} (hy : Byt ds) (M b : Nat) (hb : b < 256) (S : Nat) (hS : S = 8 * (M % 8)) :
    bits .or .u64 (partW ds M : Int) (IntKind.u64.wrap ((b : Int) * 2 ^ S)) = ((partW ds M + b * 256 ^ (M % 8) : Nat) : Int) := by
  have a := partW_lt hy M
  have j := join_lt (M := M) hy hb
  have e1 : (b : Int) * 2 ^ S = ((b * 256 ^ (M % 8) : Nat) : Int) := by rw [pow_shift, ← hS]; simp
  have e2 : IntKind.u64.wrap ((b * 256 ^ (M % 8) : Nat) : Int) = ((b * 256 ^ (M % 8) : Nat) : Int) := by rw [IntKind.wrap_u64]; omega
  rw [e1, e2, u64_or_nat _ _ (by omega) (by omega), Nat.or_comm]
  rw [pow_shift] at a ⊢
  rw [nat_join (8 * (M % 8)) _ _ (Nat.mul_mod_left _ _) a, Nat.add_comm]
/-- The last word, as the program joins it. -/
theorem or_last {ds : List Nat} (hy : Byt ds) : bits .or .u64 (partW ds ds.length : Int) (IntKind.u64.wrap ((ds.length : Int) * 72057594037927936)) = ((lastN ds : Nat) : Int) := by
  have a := partW_lt hy ds.length
  have a2 : partW ds ds.length < 72057594037927936 := by
    refine Nat.lt_of_lt_of_le a ?_
    exact Nat.pow_le_pow_right (n := 256) (by decide) (show ds.length % 8 ≤ 7 by omega)
  have e : IntKind.u64.wrap ((ds.length : Int) * 72057594037927936) = ((ds.length % 256 * 72057594037927936 : Nat) : Int) := by rw [IntKind.wrap_u64]; omega
  rw [e, u64_or_nat _ _ (by omega) (by omega), Nat.or_comm, nat_join 56 _ _ (by omega) (by omega)]
  unfold lastN partW
  have f : (ds.drop (8 * (ds.length / 8))).take (ds.length % 8) = ds.drop (8 * (ds.length / 8)) := List.take_of_length_le (by rw [List.length_drop]; omega)
  rw [f, Nat.add_comm]
theorem joinP_get {ps : List Prt} {k : Nat} {q : Prt} (hq : ps[k]? = some q) {j : Nat} (hj : j < q.ds.length) : (joinP ps).getD ((joinP (ps.take k)).length + j) 0 = q.ds.getD j 0 ∧ (joinP (ps.take k)).length + j < (joinP ps).length := by
  obtain ⟨h1, rfl⟩ := List.getElem?_eq_some_iff.1 hq
  have e : ps = ps.take k ++ (ps[k] :: ps.drop (k + 1)) := by rw [← List.drop_eq_getElem_cons h1, List.take_append_drop]
  have e2 : joinP ps = joinP (ps.take k) ++ (ps[k].ds ++ joinP (ps.drop (k + 1))) := by
    conv => lhs; rw [e]
    unfold joinP
    rw [List.flatMap_append, List.flatMap_cons]
  rw [e2]
  refine ⟨?_, by simp only [List.length_append]; omega⟩
  rw [List.getD_eq_getElem?_getD, List.getElem?_append_right (by omega), Nat.add_sub_cancel_left, List.getElem?_append_left hj, ← List.getD_eq_getElem?_getD]
theorem tagN_last (A B : Nat) (ds : List Nat) : tagN A B ds = endN (fourN (inC (takeS (sipS A B (fullN ds (ds.length / 8))) (lastN ds)))) := by
  unfold tagN wordsN
  rw [sip_snoc]
theorem full_ok {A B : Nat} (hA : W64 A) (hB : W64 B) {ds : List Nat} (hy : Byt ds) {M : Nat} (hM : M ≤ ds.length) : (sipS A B (fullN ds (M / 8))).ok := by
  refine sip_ok hA hB fun m hm => words_w64 hy m ?_
  unfold wordsN
  refine List.mem_append.2 (.inl ?_)
  unfold fullN at hm ⊢
  obtain ⟨i, hi, rfl⟩ := List.mem_map.1 hm
  exact List.mem_map.2 ⟨i, List.mem_range.2 (by have := List.mem_range.1 hi; omega), rfl⟩
end Go.Proofs.Ytkojgegfmhoomaa
