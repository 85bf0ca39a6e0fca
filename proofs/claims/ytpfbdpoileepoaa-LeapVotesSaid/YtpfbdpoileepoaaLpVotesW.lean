/- LeapVotes, the walk, work ahead. -/
import Derived.Test.YtpfbdpoileepoaaLpF
import Derived.Test.YtpfbdpoileepoaaLpD
set_option maxRecDepth 100000
namespace Go.Proofs.Ytpfbdpoileepoaa
open Go.ChangeShapes Go.WideShapes Go.ChangeAt Go.RowKit SmM

theorem holdsN_first {w : World} {p : Option Addr} {n c : Nat} {l : List Nat} (h : Holds w p n c (valsN .u8 l)) {m : Nat} (hm : m ≤ n) : Holds w p m c (valsN .u8 (l.take m)) := by
  have ln : l.length = n := by have := h.len; rwa [valsN_len] at this
  refine ⟨by rw [valsN_len, List.length_take]; omega, Nat.le_trans hm h.cap, h.max, h.bare, fun i u hu => ?_⟩
  have hi : i < m := by
    have := (List.getElem?_eq_some_iff.1 hu).1
    rw [valsN_len, List.length_take] at this
    omega
  refine h.cell i u ?_
  rw [← hu]
  unfold valsN
  rw [List.map_take, List.getElem?_take, if_pos hi]
theorem votes16_core (C : LCode) (w : World) (p : Option Addr) (n c m : Nat) (l : List Nat) (EM : min (n : Int) 100 = (m : Int)) (mc : (m : Int) ≤ (c : Int)) (h : Holds w p m c (valsN .u8 l)) (hd : ∀ d ∈ l, d < 256) :
    Calls Try.prog 4 #[.slice p n c] w fun r w' => r = .returned (.bool true) ∧ Below w.heap.size w w' := by
  have EI : (if (100 : Int) < (n : Int) then (100 : Int) else (n : Int)) = (m : Int) := by split <;> omega
  have m0 : (0 : Int) ≤ (m : Int) := by omega
  have AW := Lib.hid (alive16 C)
  have V1 := Lib.hid (C.vote h hd (by omega))
  have V2 := Lib.hid (fun w' (k : Below w.heap.size w w') => rvote16 w' p m c l (h.below k) hd (by omega))
  generalize (voteN l).1 = v at *
  generalize (voteN l).2 = g at *
  clear h hd
  go_enter Try.func4, Try.ntmps4
  go_wp2_with fail
  refine V1.out.mono ?_; rintro e w1 ⟨rfl, b1⟩
  have R2 := Lib.hid (V2.out w1 b1)
  have L1 := Lib.hid b1
  clear b1 V1 V2 EI EM mc
  go_wp2_with fail
  refine R2.out.mono ?_; rintro e w2 ⟨rfl, hw⟩
  obtain rfl := hw.symm
  clear R2
  cases g
  · go_wp2_with fail
    refine (AW.out _).mono ?_; rintro e w3 ⟨rfl, b3⟩
    have L3 := Lib.hid (L1.out.trans (b3.mono L1.out.size))
    clear b3
    go_wp2
    go_ret
    exact ⟨rfl, L3.out⟩
  · go_wp2_with fail
    refine (AW.out _).mono ?_; rintro e w3 ⟨rfl, b3⟩
    have L3 := Lib.hid (L1.out.trans (b3.mono L1.out.size))
    clear b3
    go_wp2
    go_ret
    exact ⟨rfl, L3.out⟩
theorem votes16_walk (C : LCode) (w : World) (p : Option Addr) (n c : Nat) (l : List Nat) (h : Holds w p n c (valsN .u8 l)) (hd : ∀ d ∈ l, d < 256) :
    Calls Try.prog 4 #[.slice p n c] w fun r w' => r = .returned (.bool true) ∧ Below w.heap.size w w' := by
  have cap := h.cap
  exact votes16_core C w p n c (min n 100) (l.take (min n 100)) (by omega) (by omega) (holdsN_first h (Nat.min_le_left _ _)) fun d hx => hd d (List.mem_of_mem_take hx)
end Go.Proofs.Ytpfbdpoileepoaa
