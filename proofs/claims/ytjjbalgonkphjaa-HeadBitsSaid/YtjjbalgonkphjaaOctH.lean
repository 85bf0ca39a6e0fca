/- Layer 3 (octet): the program's Put. -/
import Derived.Test.YtjjbalgonkphjaaOctF
namespace Go.Proofs.Ytjjbalgonkphjaa
open Go.ChangeShapes Go.WideShapes Go.ChangeAt Go.RowKit OctM

theorem pfits_at (w : World) (v s : Nat) (hv : v < 18446744073709551616) (h1 : 1 ≤ s) (h8 : s ≤ 8) (b : Bool) (hb : decide (v < 256 ^ s) = b) :
    Calls Try.prog 27 #[.int .u64 v, .int .i64 s] w fun e w' => e = .returned (.bool b) ∧ w = w' := by rw [← hb]; exact pfits_any w v s hv h1 h8
theorem psize_at (z : Int) (w : World) (b : Bool) (hb : decide (okS z) = b) : Calls Try.prog 32 #[.int .i64 z] w fun e w' => e = .returned (.bool b) ∧ w = w' := by rw [← hb]; exact pissize_any z w

/-- A row of the call's own, a place of it written. -/
theorem own_wrote {w1 w2 : World} {B g cap n at' s v : Nat} {cur : Array Value} {ds : List Nat} (hb : B ≤ g) (h1 : n ≤ cap) (h2 : cap ≤ maxLen) (h3 : cur.size = cap * 1) (h4 : cur.toList.take (n * 1) = valsN .u8 ds) (ld : ds.length = n) (hat : at' + s ≤ n)
    (W : Wrote w1 g at' s v cur w2) : w2.ownsRow B 5 1 (.slice (some ⟨g, 0, none⟩) n cap) n (valsN .u8 (ds.take at' ++ digN v s ++ ds.drop (at' + s))) := by
  obtain ⟨cs', hb', hz, hi⟩ := W.row
  refine ⟨?_, .inr ⟨g, cap, cs', rfl, hb, hb', h1, h2, by rw [hz, h3], ?_⟩⟩
  · rw [valsN_len, List.length_append, List.length_append, List.length_take, List.length_drop, digN_len]
    omega
  · apply List.ext_getElem?
    intro i
    rw [Nat.mul_one] at h4 ⊢
    by_cases l : i < n
    · have old := congrArg (fun l : List Value => l[i]?) h4
      simp only [List.getElem?_take, if_pos l, Array.getElem?_toList] at old
      rw [valsN_get (by omega)] at old
      rw [List.getElem?_take, if_pos l, Array.getElem?_toList, hi i, valsN_get (by rw [List.length_append, List.length_append, List.length_take, List.length_drop, digN_len]; omega)]
      simp only [List.getD_eq_getElem?_getD] at old ⊢
      by_cases c1 : i < at'
      · rw [if_neg (by omega), List.append_assoc, List.getElem?_append_left (by rw [List.length_take]; omega), List.getElem?_take, if_pos c1]
        exact old
      · by_cases c2 : i < at' + s
        · rw [if_pos ⟨by omega, c2⟩, List.append_assoc, List.getElem?_append_right (by rw [List.length_take]; omega), List.length_take, Nat.min_eq_left (by omega), List.getElem?_append_left (by rw [digN_len]; omega)]
        · rw [if_neg (by omega), List.getElem?_append_right (by rw [List.length_append, List.length_take, digN_len]; omega), List.length_append, List.length_take, digN_len, Nat.min_eq_left (by omega), List.getElem?_drop, show at' + s + (i - (at' + s)) = i by omega]
          exact old
    · rw [List.getElem?_take, if_neg l, List.getElem?_eq_none (by rw [valsN_len, List.length_append, List.length_append, List.length_take, List.length_drop, digN_len]; omega)]

end Go.Proofs.Ytjjbalgonkphjaa

