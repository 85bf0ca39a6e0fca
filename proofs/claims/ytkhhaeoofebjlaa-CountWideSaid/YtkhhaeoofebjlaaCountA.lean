/- Layer 9 (count): what the program asks of a counter, call by call: when, below, made, way, and the first of what is wrong. -/
import Derived.Test.YtkhhaeoofebjlaaCountM
import Derived.Test.YtkhhaeoofebjlaaSlice
import Derived.LoopTactic
import Derived.BigQuiet
import Derived.Deep.RegionWith
set_option maxRecDepth 100000
namespace Go.Proofs.Ytkhhaeoofebjlaa
open Go.ChangeShapes Go.WideShapes Go.ChangeAt Go.RowKit

/-- A counter's cells. -/
def ctC (k l t : Nat) (f : Bool) : Array Value := #[.int .i64 (k : Nat), .int .u64 (l : Nat), .int .u64 (t : Nat), .bool f]
/-- In a block lies a counter of so many bits, its last reading, its total, and whether it is full. -/
def Ct (w : World) (N k l t : Nat) (f : Bool) : Prop := w.heap[N]? = some (.cells (ctC k l t f) 43 (0, 0))
theorem Ct.at {w : World} {N k l t : Nat} {f : Bool} (h : Ct w N k l t f) :
    w.cell? ⟨N, 0, none⟩ = some (.int .i64 (k : Nat)) ∧ w.cell? ⟨N, 1, none⟩ = some (.int .u64 (l : Nat)) ∧ w.cell? ⟨N, 2, none⟩ = some (.int .u64 (t : Nat)) ∧ w.cell? ⟨N, 3, none⟩ = some (.bool f) :=
  ⟨blk_cell h, blk_cell h, blk_cell h, blk_cell h⟩
theorem Ct.lt {w : World} {N k l t : Nat} {f : Bool} (h : Ct w N k l t f) : N < w.heap.size := by
  unfold Ct at h
  exact (Array.getElem?_eq_some_iff.1 h).1
theorem Ct.below {w w' : World} {N k l t : Nat} {f : Bool} (h : Ct w N k l t f) (b : Below w.heap.size w w') : Ct w' N k l t f := by
  have := h.lt
  unfold Ct at h ⊢
  rw [b.block N this]
  exact h

theorem pwhen9_any (w : World) (b : Bool) (e : Int) :
    Calls Try.prog 15 #[.bool b, .int .i64 e] w fun r w' => r = .returned (.int .i64 (if b = true then e else 0)) ∧ w' = w := by
  cases b
  all_goals
    go_enter Try.func15, Try.ntmps15
    go_wp2
    go_ret
    exact ⟨rfl, rfl⟩

theorem pbelow9_any (w : World) (x k : Nat) (hk : k ≤ 64) :
    Calls Try.prog 17 #[.int .u64 (x : Nat), .int .i64 (k : Nat)] w fun r w' => r = .returned (.bool (decide (x < 2 ^ k))) ∧ w' = w := by
  have S := shr_left (x := x) hk
  have E : (x < 2 ^ k) ↔ x / 2 ^ k = 0 := by rw [Nat.div_eq_zero_iff]; have := Nat.two_pow_pos k; omega
  obtain ⟨d, hd⟩ : ∃ d, decide (x < 2 ^ k) = d := ⟨_, rfl⟩
  rw [hd]
  have S2 : (x : Int) / 2 ^ k = ((x / 2 ^ k : Nat) : Int) := by simp
  obtain ⟨q, hq⟩ : ∃ q, x / 2 ^ k = q := ⟨_, rfl⟩
  rw [hq] at S S2 E
  have hd' : decide (q = 0) = d := by rw [← hd]; exact (decide_eq_decide.2 E).symm
  have D : Hid (((q : Int) == 0) = d) := by unfold Hid; rw [← hd', Bool.eq_iff_iff]; simp
  clear E hk hd hd' hq
  go_enter Try.func17, Try.ntmps17
  go_wp2
  go_ret
  exact ⟨ret_bool (by first | exact D.out | (rw [← D.out]; simp)), rfl⟩

theorem pmade9_any (w : World) (N k l t : Nat) (f : Bool) (h : Ct w N k l t f) (hk : 0 < k) :
    Calls Try.prog 19 #[.pointer (some ⟨N, 0, none⟩)] w fun r w' => r = .returned (.bool true) ∧ w' = w := by
  have c0 := h.at.1
  have n0 : ¬ (k : Int) = 0 := by omega
  have n1 : ((k : Int) != 0) = true := by simp; omega
  clear h hk
  go_enter Try.func19, Try.ntmps19
  go_wp2
  go_ret
  exact ⟨rfl, rfl⟩
theorem pmade9_none (w : World) :
    Calls Try.prog 19 #[.pointer none] w fun r w' => r = .returned (.bool false) ∧ w' = w := by
  go_enter Try.func19, Try.ntmps19
  go_wp2
  go_ret
  exact ⟨rfl, rfl⟩

theorem pway9_any (w : World) (N k l t x y : Nat) (f : Bool) (h : Ct w N k l t f) (hk : k ≤ 64) (hl : l < 2 ^ k) (hy : y < 2 ^ k) (e : x = (l + y) % 2 ^ k) :
    Calls Try.prog 22 #[.pointer (some ⟨N, 0, none⟩), .int .u64 (x : Nat)] w fun r w' => r = .returned (.int .u64 (y : Nat)) ∧ w' = w := by
  obtain ⟨c0, c1, -, -⟩ := h.at
  obtain ⟨z, hz, E1, E2⟩ := way_round hk hl hy e
  obtain ⟨mk, hm⟩ : ∃ mk, mk + 1 = 2 ^ k := ⟨2 ^ k - 1, by have := Nat.two_pow_pos k; omega⟩
  obtain ⟨j, hj⟩ : ∃ j, j + k = 64 := ⟨64 - k, by omega⟩
  have SR := shr_round hj hm
  have SI := div_round hj hm
  have AN := and_round hz hk hm
  rw [E2] at AN
  have J1 : IntKind.i64.wrap (64 - (k : Int)) = (j : Int) := by rw [IntKind.wrap_i64]; omega
  have J2 : (64 - (k : Int)) = (j : Int) := by omega
  have JB : (0 : Int) ≤ (j : Int) := by omega
  clear h hk hl hy e hz E2 hm hj
  go_enter Try.func22, Try.ntmps22
  go_wp2
  go_ret
  exact ⟨rfl, rfl⟩
end Go.Proofs.Ytkhhaeoofebjlaa
