/- Layer 16 (leap), work ahead: votes, in plain lists: more than half. No Go in sight. -/
import Derived.Test.YtpfbdpoileepoaaLpD
set_option maxRecDepth 100000
namespace Go.Proofs.Ytpfbdpoileepoaa

theorem sure_app (a b : List Nat) : sureN (a ++ b) = sureN a + sureN b := List.countP_append
theorem said_app (a b : List Nat) (d : Nat) : saidN (a ++ b) d = saidN a d + saidN b d := List.countP_append
theorem said_le {l : List Nat} {d : Nat} (h : d < 3) : saidN l d ≤ sureN l := by
  unfold saidN sureN
  refine List.countP_mono_left fun x _ e => ?_
  simp only [decide_eq_true_eq] at e ⊢
  omega
/-- What the vote says of the list. -/
theorem vote_inv (l : List Nat) : ((voteN l).2 = true ∧ (voteN l).1 < 3 ∧ sureN l < 2 * saidN l (voteN l).1 ∧ ∀ d, d < (voteN l).1 → ¬ sureN l < 2 * saidN l d) ∨ (voteN l).2 = false ∧ (voteN l).1 = 0 := by
  unfold voteN
  split
  · rename_i h; exact .inl ⟨rfl, by decide, h, fun d hd => absurd hd (by omega)⟩
  · rename_i h0
    split
    · rename_i h; exact .inl ⟨rfl, by decide, h, fun d hd => by obtain rfl : d = 0 := by { have : d < 1 := hd; omega }; exact h0⟩
    · rename_i h1
      split
      · rename_i h; exact .inl ⟨rfl, by decide, h, fun d hd => by
          have : d < 2 := hd
          rcases (show d = 0 ∨ d = 1 by omega) with rfl | rfl
          · exact h0
          · exact h1⟩
      · exact .inr ⟨rfl, rfl⟩
/-- The order, and any 3, change nothing. -/
theorem vote_same {l m : List Nat} (hs : sureN m = sureN l) (hd : ∀ d, d < 3 → saidN m d = saidN l d) : voteN m = voteN l := by
  unfold voteN
  rw [hs, hd 0 (by omega), hd 1 (by omega), hd 2 (by omega)]
theorem vote_turned (l : List Nat) (k : Nat) : voteN (([3] ++ l.drop k ++ l.take k) ++ [3, 3, 3, 3]) = voteN l := by
  refine vote_same ?_ fun d hd => ?_
  · have e : sureN l = sureN (l.take k) + sureN (l.drop k) := by rw [← sure_app, List.take_append_drop]
    rw [sure_app, sure_app, sure_app, e]
    have : sureN [3] = 0 := rfl
    have : sureN [3, 3, 3, 3] = 0 := rfl
    omega
  · have e : saidN l d = saidN (l.take k) d + saidN (l.drop k) d := by rw [← said_app, List.take_append_drop]
    rw [said_app, said_app, said_app, e]
    have h1 : saidN [3] d = 0 := by unfold saidN; rw [List.countP_singleton, if_neg (by simp; omega)]
    have h4 : saidN [3, 3, 3, 3] d = 0 := by
      have : ([3, 3, 3, 3] : List Nat) = [3] ++ ([3] ++ ([3] ++ [3])) := rfl
      rw [this, said_app, said_app, said_app, h1]
    omega
/-- One more of the same. -/
theorem vote_more {l : List Nat} (h : (voteN l).2 = true) : voteN (l ++ [(voteN l).1]) = ((voteN l).1, true) := by
  rcases vote_inv l with ⟨-, a3, y, no⟩ | ⟨e, -⟩
  · generalize (voteN l).1 = a at *
    have s1 : sureN (l ++ [a]) = sureN l + 1 := by
      rw [sure_app]
      have : sureN [a] = 1 := by unfold sureN; rw [List.countP_singleton, if_pos (decide_eq_true a3)]
      omega
    have d1 : saidN (l ++ [a]) a = saidN l a + 1 := by
      rw [said_app]
      have : saidN [a] a = 1 := by unfold saidN; rw [List.countP_singleton, if_pos (decide_eq_true rfl)]
      omega
    refine vote_yes (fun d hd => ?_) a3 (by omega)
    have : saidN (l ++ [a]) d = saidN l d := by
      rw [said_app]
      have : saidN [a] d = 0 := by unfold saidN; rw [List.countP_singleton, if_neg (by simp; omega)]
      omega
    have := no d hd
    omega
  · rw [e] at h; cases h
end Go.Proofs.Ytpfbdpoileepoaa
