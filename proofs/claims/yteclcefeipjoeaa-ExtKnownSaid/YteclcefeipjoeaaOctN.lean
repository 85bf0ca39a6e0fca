/- Layer 3 (octet): the program's own small calls: sizes, what fits, what is within, signs. -/
import Derived.Test.YteclcefeipjoeaaOctX
namespace Go.Proofs.Yteclcefeipjoeaa
open Go.ChangeShapes Go.WideShapes Go.ChangeAt Go.RowKit OctM

theorem pissize_any (z : Int) (w : World) :
    Calls Try.prog 43 #[.int .i64 z] w fun e w' => e = .returned (.bool (decide (okS z))) ∧ w = w' := by
  by_cases h : okS z
  · rw [decide_eq_true h]
    have h1 : decide (1 ≤ z) = true := by have := h.1; simp; omega
    have h2 : decide (z ≤ 8) = true := by have := h.2; simp; omega
    have h1' : (1 : Int) ≤ z := h.1
    have h2' : z ≤ 8 := h.2
    clear h
    go_enter Try.func43, Try.ntmps43
    go_wp2
    go_ret
    exact ⟨rfl, rfl⟩
  · rw [decide_eq_false h]
    by_cases h1 : 1 ≤ z
    · have h2 : decide (z ≤ 8) = false := by unfold okS at h; simp; omega
      have h1' : decide (1 ≤ z) = true := by simp; omega
      have h2' : 8 < z := by unfold okS at h; omega
      clear h
      go_enter Try.func43, Try.ntmps43
      go_wp2
      go_ret
      exact ⟨rfl, rfl⟩
    · have h1' : decide (1 ≤ z) = false := by simp; omega
      have h2' : z < 1 := by omega
      clear h h1
      go_enter Try.func43, Try.ntmps43
      go_wp2
      go_ret
      exact ⟨rfl, rfl⟩

theorem pwithin_any (w : World) (p : Option Addr) (n c : Nat) (x z : Int) (hz : okS z) (hn : n ≤ 140737488355328) :
    Calls Try.prog 46 #[.slice p n c, .int .i64 x, .int .i64 z] w fun e w' => e = .returned (.bool (decide (x + z ≤ (n : Int)))) ∧ w = w' := by
  have h1 : 1 ≤ z := hz.1
  have h2 : z ≤ 8 := hz.2
  have h3 : (n : Int) ≤ 140737488355328 := by omega
  clear hz hn
  by_cases h : x + z ≤ (n : Int)
  · rw [decide_eq_true h]
    have h4 : decide (x ≤ (n : Int) - z) = true := by simp; omega
    clear h
    go_enter Try.func46, Try.ntmps46
    go_wp2
    go_ret
    exact ⟨rfl, rfl⟩
  · rw [decide_eq_false h]
    have h4 : decide (x ≤ (n : Int) - z) = false := by simp; omega
    clear h
    go_enter Try.func46, Try.ntmps46
    go_wp2
    go_ret
    exact ⟨rfl, rfl⟩

theorem pret_bool {a b : Bool} (h : a = b) : Ending.returned (.bool a) = .returned (.bool b) := by rw [h]
theorem eight {s : Nat} (h1 : 1 ≤ s) (h8 : s ≤ 8) : s = 1 ∨ s = 2 ∨ s = 3 ∨ s = 4 ∨ s = 5 ∨ s = 6 ∨ s = 7 ∨ s = 8 := by omega

set_option maxHeartbeats 1600000 in
theorem pfits_any (w : World) (n s : Nat) (hn : n < 18446744073709551616) (h1 : 1 ≤ s) (h8 : s ≤ 8) :
    Calls Try.prog 39 #[.int .u64 n, .int .i64 s] w fun e w' => e = .returned (.bool (decide (n < 256 ^ s))) ∧ w = w' := by
  rcases eight h1 h8 with rfl | rfl | rfl | rfl | rfl | rfl | rfl | rfl
  all_goals
    clear h1 h8
    go_enter Try.func39, Try.ntmps39
    go_wp2
    go_ret
    refine ⟨pret_bool ?_, rfl⟩
    rw [Bool.eq_iff_iff]
    simp
    omega

/-- a number's lowest bytes, the highest bit of which is its sign. -/
def extV (n s : Nat) : Int := sgV (n % 256 ^ s) s

theorem extV_of_lt {n s : Nat} (h : n < 256 ^ s) : extV n s = sgV n s := by unfold extV; rw [Nat.mod_eq_of_lt h]

set_option maxHeartbeats 1600000 in
/-- What is kept of a signed number tells it again just where it is one of so many bytes. -/
theorem ext_iff (n : Int) (s m : Nat) (hn : I64 n) (hm : n % 18446744073709551616 = (m : Int)) (h1 : 1 ≤ s) (h8 : s ≤ 8) : extV m s = n ↔ absM n < halfN s := by
  obtain ⟨n1, n2⟩ := hn
  rcases eight h1 h8 with rfl | rfl | rfl | rfl | rfl | rfl | rfl | rfl
  all_goals
    unfold extV sgV halfN absM
    simp only [Nat.reducePow, Nat.reduceSub, Nat.reduceMul]
    split <;> split <;> omega

set_option maxHeartbeats 1600000 in
theorem un_num (n : Int) (s m : Nat) (hn : I64 n) (hm : n % 18446744073709551616 = (m : Int)) (h1 : 1 ≤ s) (h8 : s ≤ 8) (h : absM n < halfN s) : unV n s = m % 256 ^ s := by
  obtain ⟨n1, n2⟩ := hn
  unfold absM at h
  rcases eight h1 h8 with rfl | rfl | rfl | rfl | rfl | rfl | rfl | rfl
  all_goals
    unfold halfN at h
    unfold unV
    simp only [Nat.reducePow, Nat.reduceSub, Nat.reduceMul] at h ⊢
    split at h <;> split <;> omega
end Go.Proofs.Yteclcefeipjoeaa

