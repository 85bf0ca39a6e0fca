/- Layer 3 (octet): the program's iterator over the bytes of a place. -/
import Derived.Test.YteclcefeipjoeaaOctO
import Derived.RangeFuncNested
import Derived.RangeFuncBound
import Derived.RangeFuncCalls
import Derived.RangeFuncLeaves
import Derived.RangeFuncBox
import Derived.Shelf.Abstract
import Derived.Shelf.RegionOpen
import Derived.OwnWalkIn
import Derived.TacticsInMore
import Derived.LoopNIn
import Derived.LoopIn
namespace Go.Proofs.Yteclcefeipjoeaa
open Go.ChangeShapes Go.WideShapes Go.ChangeAt Go.RowKit OctM
attribute [local go_sem] Oper.semAt_some

/-- What the iterator wants kept across a round: the box of the place. -/
def KpBox (B : Nat) (W W' : World) : Prop := ∀ v, W.cell? ⟨B, 0, none⟩ = some v → W'.cell? ⟨B, 0, none⟩ = some v
theorem kpBox_t {B : Nat} {X Y Z : World} (h : KpBox B X Y) (k : KpBox B Y Z) : KpBox B X Z := fun v e => k v (h v e)
theorem kpBox_b {B : Nat} {w : World} (W : World) (l : Nat) (o o' : Obj) (_ : w.heap.size ≤ l) (h : W.heap[l]? = some o) (ho : o.isCells = false) (_ : o.isWalk = false) : KpBox B W (W.putObj l o') :=
  fun _ e => cell_kept e (grownBy_putObj' W l o') (fun r er => by cases er; exact ⟨o, h, ho⟩)

/-- What a round is handed: the byte's number, and by how many bits its digit is above the lowest one. -/
def shD (s : Nat) (x : Fin s) : Nat := 8 * (s - 1 - x.val)
abbrev encD (s : Nat) (x : Fin s) : Array Value := #[.int .i64 (x.val : Int), .int .i64 (shD s x : Int)]
theorem fin_succ {s k : Nat} (h : k < s) : (List.finRange s).take (k + 1) = (List.finRange s).take k ++ [⟨k, h⟩] := by
  rw [List.take_succ_eq_append_getElem (by simpa using h)]
  simp
theorem fin_len {s k : Nat} (h : k ≤ s) : ((List.finRange s).take k).length = k := by simp [h]

set_option maxHeartbeats 1000000 in
theorem pdigits_in (F : Fence) (n : Nat) (h : F.fn 45) (hro : F.round = none) (a : Option Addr) (len cap : Nat) (w : World) :
    CallsIn F n Try.prog 45 #[.slice a len cap] w fun e w' => e = .returned (.func (.func 48) #[] #[.pointer (some ⟨w.heap.size, 0, none⟩)]) ∧ w' = w.alloc (.cells #[.slice a len cap] 25) := by
  refine callsIn_of_wp Try.func45 rfl h ?_ hro
  simp only [Try.ntmps45, List.size_toArray, List.length_cons, List.length_nil, Nat.reduceAdd, Nat.reduceSub, Array.replicate_succ, Array.replicate_zero, List.push_toArray, List.append_toArray, List.nil_append, List.cons_append]
  gi_wp2
  go_ret
  exact ⟨rfl, rfl⟩

set_option maxRecDepth 100000 in
set_option maxHeartbeats 2000000 in
/-- The closure: each byte's number, with its digit's place; it stops where a round says 'no more'. -/
theorem pdigits1_in (F : Fence) (n : Nat) (h : F.fn 48) (hro : F.round = none) (hn : 1 ≤ n) (l B s cap : Nat) (a : Option Addr) (hs : s ≤ 8) (J Jx : List (Fin s) → World → Prop)
    (hY : ∀ pre x W, J pre W → pre.length < s → YieldAt F (n - 1) Try.prog l (encD s x) W fun e W' =>
      (e = .returned (.bool true) ∧ J (pre ++ [x]) W' ∧ KpBox B W W') ∨ (e = .returned (.bool false) ∧ Jx (pre ++ [x]) W'))
    (W : World) (hB : W.cell? ⟨B, 0, none⟩ = some (.slice a s cap)) (h0 : J [] W) :
    CallsIn F n Try.prog 48 #[.func (.yield l) #[] #[], .pointer (some ⟨B, 0, none⟩)] W fun e W' => (∃ v, e = .returned v) ∧
      ((∃ ys, ys = List.finRange s ∧ J ys W') ∨ (∃ pre, True ∧ Jx pre W')) := by
  have s8 : (s : Int) ≤ 8 := by omega
  have HS := Lib.hid hs
  clear hs
  refine callsIn_of_wp Try.func48 rfl h ?_ hro
  simp only [Try.ntmps48, List.size_toArray, List.length_cons, List.length_nil, Nat.reduceAdd, Nat.reduceSub, Array.replicate_succ, Array.replicate_zero, List.push_toArray, List.append_toArray, List.nil_append, List.cons_append]
  gi_wp2
  gi_loopw [6] (fun i wr => ∃ k : Nat, k ≤ s ∧ i = .int .i64 k ∧ J ((List.finRange s).take k) wr ∧ wr.cell? ⟨B, 0, none⟩ = some (.slice a s cap))
    (fun i _ => s - (intOf i).toNat)
  case atStart => exact ⟨0, Nat.zero_le _, rfl, h0, hB⟩
  case round =>
    obtain ⟨k, hk, rfl, hJ, hc⟩ := hrel
    by_cases hlt : k < s
    · obtain ⟨fn, tmps, assign, body, hy, hR⟩ := hY _ ⟨k, hlt⟩ wr hJ (by rw [fin_len hk]; exact hlt)
      dsimp only [encD] at hy
      obtain ⟨m, hm⟩ : ∃ m : Nat, m = shD s ⟨k, hlt⟩ := ⟨_, rfl⟩
      rw [← hm] at hy
      have em : 8 * ((s : Int) - 1 - (k : Int)) = (m : Int) := by unfold shD at hm; simp only at hm; omega
      have lt' : (k : Int) < (s : Int) := by omega
      clear hm
      gi_wp2
      refine hR.mono ?_
      rintro e W3 (⟨rfl, hJ3, hk3⟩ | ⟨rfl, hJx3⟩)
      · gi_wp2
        go_roundw
        case rel => exact ⟨k + 1, by omega, by simp, by rw [fin_succ hlt]; exact hJ3, hk3 _ hc⟩
        case measure => simp [intOf]; omega
      · gi_wp2
        refine bodyPost_ret (results_none rfl _ _ _) rfl ?_
        exact ⟨⟨_, rfl⟩, .inr ⟨_, trivial, hJx3⟩⟩
    · obtain rfl : k = s := by omega
      gi_wp2
      go_end0
      exact ⟨⟨_, rfl⟩, .inl ⟨_, by rw [List.take_of_length_le (by simp)], hJ⟩⟩

theorem pdigits_stops (F : Fence) (n : Nat) (h : F.fn 48) (hro : F.round = none) (hn : 1 ≤ n) (B s cap : Nat) (a : Option Addr) (hs : s ≤ 8) (w : World) (hB : w.cell? ⟨B, 0, none⟩ = some (.slice a s cap)) :
    SeqStopsK F n Try.prog 48 #[.pointer (some ⟨B, 0, none⟩)] (encD s) (KpBox B) (fun ys => ys = List.finRange s) (fun _ => True) s w := fun l J Jx W hW _ _ hY h0 =>
  pdigits1_in F n h hro hn l B s cap a hs J Jx hY W ((hW.cell (p := ⟨B, 0, none⟩) (World.block_lt_of_cell? w _ hB)).trans hB) h0
end Go.Proofs.Yteclcefeipjoeaa

