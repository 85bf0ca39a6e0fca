/- Layer 3 (octet): the program's Width, Signed, Unsigned, and bytes in new memory. -/
import Derived.Test.YteclcefeipjoeaaOctN
namespace Go.Proofs.Yteclcefeipjoeaa
open Go.ChangeShapes Go.WideShapes Go.ChangeAt Go.RowKit OctM

set_option maxHeartbeats 800000 in
theorem pwidth_any (w : World) (p : Option Addr) (n c : Nat) (zs : List Int) (hz : Holds w p n c (valsI .i64 zs)) (hn : n ≤ 140737488355328) (u e' : Int) (hu : widV zs = u) (he : widE zs = e') :
    Calls Try.prog 38 #[.slice p n c] w fun e w' => e = .returned (.tuple #[.int .i64 u, .int .i64 e']) ∧ w = w' := by
  have hl : zs.length = n := by have := hz.len; rwa [valsI_len] at this
  have HZ := Lib.hid hz
  have HL := Lib.hid hl
  have HU := Lib.hid hu
  have HE := Lib.hid he
  have HN := Lib.hid hn
  clear hz hl hu hn he
  go_enter Try.func38, Try.ntmps38
  go_wp2_with fail
  go_loop [4, 9] (fun s i => ∃ (k : Nat) (t : Int), s = .int .i64 t ∧ i = .int .i64 k ∧ k ≤ n ∧ okAll (zs.take k) ∧ sumI (zs.take k) = t) (fun _ i => n - (intOf i).toNat)
  case atStart => exact ⟨0, 0, rfl, rfl, Nat.zero_le _, by intro z hz; simp at hz, rfl⟩
  case round =>
    obtain ⟨k, t, rfl, rfl, k1, ok, st⟩ := hrel
    have tb := sumI_le ok
    rw [List.length_take, st, HL.out, Nat.min_eq_left k1] at tb
    have k2 : (k : Int) ≤ 140737488355328 := by have := HN.out; omega
    obtain ⟨t1, t2⟩ := tb
    by_cases g : k < n
    · obtain ⟨a, rfl, hc⟩ := HZ.out.atI g
      obtain ⟨z, ez⟩ : ∃ z, z = zs.getD k 0 := ⟨_, rfl⟩
      rw [← ez] at hc
      have g' : (k : Int) < (n : Int) := by omega
      have EZ := Lib.hid ez
      have OK := Lib.hid ok
      have ST := Lib.hid st
      have K1 := Lib.hid k1
      have G := Lib.hid g
      clear ez ok st k1 g
      by_cases s : okS z
      · have s1 : 1 ≤ z := s.1
        have s2 : z ≤ 8 := s.2
        have S := Lib.hid (decide_eq_true s)
        have S' := Lib.hid s
        clear s
        go_wp2_with fail
        refine (pissize_any z _).mono ?_; rintro e w' ⟨rfl, rfl⟩
        rw [S.out]
        go_wp2
        go_round
        case rel =>
          refine ⟨k + 1, t + z, rfl, by go_num, by have := G.out; omega, ?_, ?_⟩
          · rw [takeI_next (by rw [HL.out]; exact G.out), ← EZ.out]; exact okAll_snoc OK.out S'.out
          · rw [takeI_next (by rw [HL.out]; exact G.out), ← EZ.out, sumI_snoc, ST.out]
        case measure => simp [intOf]; have := G.out; omega
      · have S := Lib.hid (decide_eq_false s)
        have S' := Lib.hid s
        have no : Hid (¬ okAll zs) := by
          intro h
          refine S'.out ?_
          rw [EZ.out]
          exact okAll_get h (by rw [HL.out]; exact G.out)
        have fin : Hid (u = 0 ∧ e' = 1) := by
          unfold Hid
          rw [← HU.out, ← HE.out]
          unfold widV widE
          rw [if_neg no.out, if_neg no.out]
          exact ⟨rfl, rfl⟩
        clear s
        go_wp2_with fail
        refine (pissize_any z _).mono ?_; rintro e w' ⟨rfl, rfl⟩
        rw [S.out]
        go_wp2
        go_ret2
        exact ⟨ret_pair fin.out.1.symm fin.out.2.symm, rfl⟩
    · have g' : (n : Int) ≤ (k : Int) := by omega
      have fin : Hid (u = t ∧ e' = 0) := by
        unfold Hid
        have e : zs.take k = zs := List.take_of_length_le (by rw [HL.out]; omega)
        rw [e] at ok st
        rw [← HU.out, ← HE.out, ← st]
        unfold widV widE
        rw [if_pos ok, if_pos ok]
        exact ⟨rfl, rfl⟩
      clear g ok st k1
      go_wp2
      go_ret2
      exact ⟨ret_pair fin.out.1.symm fin.out.2.symm, rfl⟩

theorem psize_ok (z : Int) (h : okS z) (w : World) : Calls Try.prog 43 #[.int .i64 z] w fun e w' => e = .returned (.bool true) ∧ w = w' := by
  have := pissize_any z w
  rwa [decide_eq_true h] at this

theorem un_shift (s m : Nat) (h1 : 1 ≤ s) (h8 : s ≤ 8) :
    IntKind.u64.wrap ((m : Int) * 2 ^ (64 - 8 * s)) / 2 ^ (64 - 8 * s) = ((m % 256 ^ s : Nat) : Int) := by
  rcases eight h1 h8 with rfl | rfl | rfl | rfl | rfl | rfl | rfl | rfl
  all_goals
    simp only [IntKind.wrap_u64, Nat.reducePow, Nat.reduceSub, Nat.reduceMul, Int.reducePow]
    omega

end Go.Proofs.Yteclcefeipjoeaa

