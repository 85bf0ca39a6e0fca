/- SaneUses: what of a packet does matter, of numbers and texts alone. -/
import Derived.Test.YtggogcbmdillfaaDoorSaneE
import Derived.Deep.Heap
import Derived.Laws.BitsAllLaws
set_option maxRecDepth 100000
namespace Go.Proofs.YtggogcbmdillfaaDoor
open Go.ChangeShapes Go.WideShapes Go.ChangeAt Go.RowKit OctM StampM SaneM

/-- a byte of a text, opaque in a walk ('attribute [local go_sem ↓] idxS_eq'). -/
def idxS (v i : Value) : Sem Value := Instr.index 9 v i
theorem idxS_eq (v i : Value) : Instr.index 9 v i = idxS v i := rfl
theorem index_str (w : World) {L : List Nat} (hL : Byt L) {m z : Nat} (h : L[m]? = some z) : (idxS (.string (strN L)) (.int .i64 (m : Int))).run Tryd.prog w = .ok (.int .u8 (z : Int)) w := by
  have hm : m < L.length := (List.getElem?_eq_some_iff.1 h).1
  have hz : z < 256 := hL z (List.mem_of_getElem? h)
  have hs : m < (strN L).size := by rw [strN_size]; exact hm
  have e : ((strN L)[m]'hs).toNat = z := by
    have : (strN L).data.toList[m]? = some (UInt8.ofNat z) := by rw [strN_data, List.getElem?_map, h]; rfl
    have e1 : (strN L)[m]'hs = UInt8.ofNat z := by
      rw [Array.getElem?_toList] at this
      exact (Array.getElem?_eq_some_iff.1 this).2
    rw [e1, UInt8.toNat_ofNat']
    exact Nat.mod_eq_of_lt hz
  unfold idxS
  simp [Instr.index, go_sem, hs, e]

/-- nothing but whether Rec and Xmt are 0 does matter. -/
theorem uses_test (lp mo st R : Nat) {rc rc' xm xm' : Nat} (h1 : rc' = 0 ↔ rc = 0) (h2 : xm' = 0 ↔ xm = 0) : testN lp mo st rc' xm' R = testN lp mo st rc xm R := by
  have e : deaf lp st rc' xm' R ↔ deaf lp st rc xm R := by unfold deaf; rw [h1, h2]
  unfold testN
  by_cases a : mo ≠ 4
  · rw [if_pos a, if_pos a]
  · rw [if_neg a, if_neg a]
    by_cases b : st = 0
    · rw [if_pos b, if_pos b]
    · rw [if_neg b, if_neg b]
      by_cases c : deaf lp st rc xm R
      · rw [if_pos c, if_pos (e.2 c)]
      · rw [if_neg c, if_neg (fun k => c (e.1 k))]
theorem uses_zero {lp mo st rc xm R : Nat} (h : testN lp mo st rc xm R = 0) : mo = 4 ∧ st ≠ 0 ∧ lp ≠ 3 ∧ st ≤ 15 ∧ rc ≠ 0 ∧ xm ≠ 0 ∧ R ≤ 16000000000 := by
  unfold testN at h
  by_cases a : mo ≠ 4
  · rw [if_pos a] at h; cases h
  · rw [if_neg a] at h
    by_cases b : st = 0
    · rw [if_pos b] at h; cases h
    · rw [if_neg b] at h
      by_cases c : deaf lp st rc xm R
      · rw [if_pos c] at h; cases h
      · unfold deaf at c
        exact ⟨by omega, b, by omega, by omega, by omega, by omega, by omega⟩
theorem uses_kiss {lp mo st rc xm R : Nat} (h : testN lp mo st rc xm R = 23) : st = 0 := by
  unfold testN at h
  by_cases a : mo ≠ 4
  · rw [if_pos a] at h; cases h
  · rw [if_neg a] at h
    by_cases b : st = 0
    · exact b
    · rw [if_neg b] at h
      split at h <;> cases h
theorem or_one {a : Nat} (h : a < 18446744073709551616) : ∃ r : Nat, bits .or .u64 (a : Int) 1 = (r : Int) ∧ r ≠ 0 ∧ r < 18446744073709551616 := by
  refine ⟨a ||| 1, u64_or_nat a 1 h (by decide), ?_, Nat.or_lt_two_pow (n := 64) h (by decide)⟩
  have : 1 ≤ a ||| 1 := Nat.right_le_or
  omega
end Go.Proofs.YtggogcbmdillfaaDoor
