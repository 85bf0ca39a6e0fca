/- slices.Equal over rows of unsigned integers, as we hold them (the theorem is the one of XOctE, for seats without stage 3: never import both). -/
import Derived.Test.YtlfbenlojiiknaaSlice
import Derived.RegionTactic
import Derived.Deep.QuietTactic
import Derived.BigQuiet
namespace Go.Proofs.Ytlfbenlojiiknaa
open Go.ChangeShapes Go.WideShapes Go.ChangeAt Go.RowKit

theorem take_more {l : List Nat} {i : Nat} (h : i < l.length) : l.take (i + 1) = l.take i ++ [l.getD i 0] := by
  rw [List.take_succ_eq_append_getElem h, List.getD_eq_getElem?_getD, List.getElem?_eq_getElem h]; rfl

set_option maxHeartbeats 1600000 in
theorem sequal_any (w : World) (p q : Option Addr) (n c m d : Nat) (a b : List Nat) (ha : Holds w p n c (valsN .u64 a)) (hb : Holds w q m d (valsN .u64 b)) (hn : n ≤ 1000) (hm : m ≤ 1000000) :
    Calls Try.prog 30 #[.slice p n c, .slice q m d] w fun e w' => e = .returned (.bool (decide (a = b))) ∧ ∃ k, w' = w.drewN k := by
  have la : a.length = n := by have := ha.len; rwa [valsN_len] at this
  have lb : b.length = m := by have := hb.len; rwa [valsN_len] at this
  by_cases e : n = m
  · subst e
    have HA := Lib.hid ha
    have HB := Lib.hid hb
    have LA := Lib.hid la
    have LB := Lib.hid lb
    have hn' : (n : Int) ≤ 1000 := by omega
    have HN := Lib.hid hn
    clear ha hb la lb hn hm
    go_enter Try.func30, Try.ntmps30
    go_wp2_with fail
    go_loopw [13] (fun i wr => ∃ k j : Nat, i = .int .i64 k ∧ Hid (k ≤ n) ∧ Hid (a.take k = b.take k) ∧ wr = w.drewN j) (fun i _ => 2000 - (intOf i).toNat)
    case atStart => exact ⟨0, 0, rfl, Nat.zero_le _, rfl, rfl⟩
    case round =>
      obtain ⟨k, j, rfl, hk, he, rfl⟩ := hrel
      by_cases g : k < n
      · have g' : (k : Int) < (n : Int) := by omega
        have G := Lib.hid g
        obtain ⟨x, ex, cx⟩ := HA.out.atN g
        obtain ⟨y, ey, cy⟩ := HB.out.atN g
        subst ex ey
        obtain ⟨u, hu⟩ : ∃ u, u = a.getD k 0 := ⟨_, rfl⟩
        obtain ⟨v, hv⟩ : ∃ v, v = b.getD k 0 := ⟨_, rfl⟩
        rw [← hu] at cx
        rw [← hv] at cy
        have HU := Lib.hid hu
        have HV := Lib.hid hv
        clear g hu hv
        by_cases f : u = v
        · subst f
          go_wp2_with fail
          go_quiet (fail)
          go_wp2
          go_roundw
          case rel =>
            refine ⟨k + 1, _, by go_num, G.out, ?_, rfl⟩
            unfold Hid
            rw [take_more (by rw [LA.out]; exact G.out), take_more (by rw [LB.out]; exact G.out), he.out, ← HU.out, ← HV.out]
          case measure => simp [intOf]; omega
        · have f1 : ((u : Int) != (v : Int)) = true := by simp; omega
          have f2 : ((u : Int) == (v : Int)) = false := by simp; omega
          have f3 : ¬ (u : Int) = (v : Int) := by omega
          have FIN : Hid (decide (a = b) = false) := by
            unfold Hid
            rw [decide_eq_false_iff_not]
            intro h
            subst h
            exact f (HU.out.trans HV.out.symm)
          go_wp2_with fail
          go_quiet (fail)
          go_wp2
          go_ret
          exact ⟨ret_bool FIN.out.symm, _, drewN_add _ _ _⟩
      · have g' : (n : Int) ≤ (k : Int) := by omega
        have FIN : Hid (decide (a = b) = true) := by
          unfold Hid
          rw [decide_eq_true_iff]
          have h := he.out
          rwa [List.take_of_length_le (by rw [LA.out]; omega), List.take_of_length_le (by rw [LB.out]; omega)] at h
        clear g he hk
        go_wp2
        go_ret
        exact ⟨ret_bool FIN.out.symm, _, rfl⟩
  · have FIN : Hid (decide (a = b) = false) := by
      unfold Hid
      rw [decide_eq_false_iff_not]
      rintro rfl
      exact e (la.symm.trans lb)
    rw [FIN.out]
    have f1 : ((n : Int) != (m : Int)) = true := by simp; omega
    have f2 : ((n : Int) == (m : Int)) = false := by simp; omega
    have f3 : ¬ (n : Int) = (m : Int) := by omega
    have n1 : (n : Int) ≤ 1000 := by omega
    have n2 : (m : Int) ≤ 1000000 := by omega
    clear ha hb la lb e hn hm
    go_enter Try.func30, Try.ntmps30
    go_wp2
    go_ret
    exact ⟨rfl, 0, rfl⟩
end Go.Proofs.Ytlfbenlojiiknaa
