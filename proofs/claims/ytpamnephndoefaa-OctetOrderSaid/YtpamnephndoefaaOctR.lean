/- Contracts of the document's own answers for layer 3 (octet): sizes, widths, numbers. -/
import Derived.Test.YtpamnephndoefaaRow
import Derived.Test.YtpamnephndoefaaOctM
namespace Go.Proofs.Ytpamnephndoefaa
open Go.ChangeShapes Go.WideShapes Go.ChangeAt Go.RowKit OctM

theorem rsize_ok (z : Int) (h : okS z) (w : World) :
    Calls Try.prog 40 #[.int .i64 z] w fun e w' => e = .returned (.bool true) ∧ w = w' := by
  have c : z = 1 ∨ z = 2 ∨ z = 3 ∨ z = 4 ∨ z = 5 ∨ z = 6 ∨ z = 7 ∨ z = 8 := by unfold okS at h; omega
  rcases c with rfl | rfl | rfl | rfl | rfl | rfl | rfl | rfl
  all_goals
    go_enter Try.func40, Try.ntmps40
    go_wp2
    go_ret
    exact ⟨rfl, rfl⟩
theorem rsize_no (z : Int) (h : ¬ okS z) (w : World) :
    Calls Try.prog 40 #[.int .i64 z] w fun e w' => e = .returned (.bool false) ∧ w = w' := by
  have n1 : (z == 1) = false := by rw [beq_eq_false_iff_ne]; unfold okS at h; omega
  have n2 : (z == 2) = false := by rw [beq_eq_false_iff_ne]; unfold okS at h; omega
  have n3 : (z == 3) = false := by rw [beq_eq_false_iff_ne]; unfold okS at h; omega
  have n4 : (z == 4) = false := by rw [beq_eq_false_iff_ne]; unfold okS at h; omega
  have n5 : (z == 5) = false := by rw [beq_eq_false_iff_ne]; unfold okS at h; omega
  have n6 : (z == 6) = false := by rw [beq_eq_false_iff_ne]; unfold okS at h; omega
  have n7 : (z == 7) = false := by rw [beq_eq_false_iff_ne]; unfold okS at h; omega
  have n8 : (z == 8) = false := by rw [beq_eq_false_iff_ne]; unfold okS at h; omega
  clear h
  go_enter Try.func40, Try.ntmps40
  go_wp2
  go_ret
  exact ⟨rfl, rfl⟩
theorem rsize_any (z : Int) (w : World) :
    Calls Try.prog 40 #[.int .i64 z] w fun e w' => e = .returned (.bool (decide (okS z))) ∧ w = w' := by
  by_cases h : okS z
  · rw [decide_eq_true h]; exact rsize_ok z h w
  · rw [decide_eq_false h]; exact rsize_no z h w

def widthI (zs : List Int) : Int := if okAll zs then sumI zs else -1

set_option maxHeartbeats 800000 in
theorem rwidth_any (w : World) (p : Option Addr) (n c : Nat) (zs : List Int) (hz : Holds w p n c (valsI .i64 zs)) (hn : n ≤ 140737488355328) (u : Int) (hu : widthI zs = u) :
    Calls Try.prog 16 #[.slice p n c] w fun e w' => e = .returned (.int .i64 u) ∧ w = w' := by
  have hl : zs.length = n := by have := hz.len; rwa [valsI_len] at this
  have HZ := Lib.hid hz
  have HL := Lib.hid hl
  have HU := Lib.hid hu
  have HN := Lib.hid hn
  clear hz hl hu hn
  go_enter Try.func16, Try.ntmps16
  go_wp2_with fail
  go_loop [3, 4] (fun s i => ∃ (k : Nat) (t : Int), s = .int .i64 t ∧ i = .int .i64 k ∧ k ≤ n ∧ okAll (zs.take k) ∧ sumI (zs.take k) = t) (fun _ i => n - (intOf i).toNat)
  case atStart => exact ⟨0, 0, rfl, rfl, Nat.zero_le _, by intro z hz; simp at hz, rfl⟩
  case round =>
    obtain ⟨k, t, rfl, rfl, k1, ok, st⟩ := hrel
    have tb := sumI_le ok
    rw [List.length_take, st, HL.out, Nat.min_eq_left k1] at tb
    have k2 : (k : Int) ≤ 140737488355328 := by have := HN.out; omega
    obtain ⟨t1, t2⟩ := tb
    by_cases g : k < n
    · obtain ⟨a, rfl, hc⟩ := HZ.out.atI g
      obtain ⟨z, ez⟩ : ∃ z, z = zs.getD k 0 := ⟨_, rfl⟩
      rw [← ez] at hc
      have g' : (k : Int) < (n : Int) := by omega
      have EZ := Lib.hid ez
      have OK := Lib.hid ok
      have ST := Lib.hid st
      have K1 := Lib.hid k1
      have G := Lib.hid g
      clear ez ok st k1 g
      by_cases s : okS z
      · have s1 : 1 ≤ z := s.1
        have s2 : z ≤ 8 := s.2
        have S := Lib.hid s
        clear s
        go_wp2_with fail
        refine (rsize_ok z S.out _).mono ?_; rintro e w' ⟨rfl, rfl⟩
        go_wp2
        go_round
        case rel =>
          refine ⟨k + 1, t + z, rfl, by go_num, by have := G.out; omega, ?_, ?_⟩
          · rw [takeI_next (by rw [HL.out]; exact G.out), ← EZ.out]; exact okAll_snoc OK.out S.out
          · rw [takeI_next (by rw [HL.out]; exact G.out), ← EZ.out, sumI_snoc, ST.out]
        case measure => simp [intOf]; have := G.out; omega
      · have S := Lib.hid s
        have fin : Hid (u = -1) := by
          unfold Hid
          rw [← HU.out]
          unfold widthI
          rw [if_neg]
          intro h
          refine S.out ?_
          rw [EZ.out]
          exact okAll_get h (by rw [HL.out]; exact G.out)
        clear s
        go_wp2_with fail
        refine (rsize_no z S.out _).mono ?_; rintro e w' ⟨rfl, rfl⟩
        go_wp2
        go_ret
        exact ⟨ret_int fin.out.symm, rfl⟩
    · have g' : (n : Int) ≤ (k : Int) := by omega
      have fin : Hid (u = t) := by
        unfold Hid
        have e : zs.take k = zs := List.take_of_length_le (by rw [HL.out]; omega)
        rw [e] at ok st
        rw [← HU.out, ← st]
        unfold widthI
        exact if_pos ok
      clear g ok st k1
      go_wp2
      go_ret
      exact ⟨ret_int fin.out.symm, rfl⟩

set_option maxHeartbeats 800000 in
theorem rnumber_any (w : World) (p : Option Addr) (n c : Nat) (ds : List Nat) (hz : Holds w p n c (valsN .u8 ds)) (hb : Byt ds) (hn : n ≤ 8) (v : Nat) (hv : numN ds = v) :
    Calls Try.prog 38 #[.slice p n c] w fun e w' => e = .returned (.int .u64 v) ∧ w = w' := by
  have hl : ds.length = n := by have := hz.len; rwa [valsN_len] at this
  have HZ := Lib.hid hz
  have HL := Lib.hid hl
  have HV := Lib.hid hv
  have HB := Lib.hid hb
  clear hz hl hv hb
  go_enter Try.func38, Try.ntmps38
  go_wp2_with fail
  go_loop [3, 4] (fun s i => ∃ (k t : Nat), s = .int .u64 t ∧ i = .int .i64 k ∧ k ≤ n ∧ numN (ds.take k) = t) (fun _ i => n - (intOf i).toNat)
  case atStart => exact ⟨0, 0, rfl, rfl, Nat.zero_le _, rfl⟩
  case round =>
    obtain ⟨k, t, rfl, rfl, k1, st⟩ := hrel
    by_cases g : k < n
    · obtain ⟨a, rfl, hc⟩ := HZ.out.atN g
      obtain ⟨z, ez⟩ : ∃ z, z = ds.getD k 0 := ⟨_, rfl⟩
      rw [← ez] at hc
      have z1 : z < 256 := by rw [ez]; exact byt_get HB.out k
      have tb := numN_lt (byt_take HB.out k)
      rw [st, List.length_take, HL.out, Nat.min_eq_left k1] at tb
      have pb := Nat.pow_le_pow_right (n := 256) (by omega) (show k ≤ 7 by omega)
      have tb2 : t < 72057594037927936 := Nat.lt_of_lt_of_le tb pb
      obtain ⟨m, hm⟩ : ∃ m, m = t * 256 := ⟨_, rfl⟩
      obtain ⟨q, hq⟩ : ∃ q, q = m + z := ⟨_, rfl⟩
      have e1 : IntKind.u64.wrap ((t : Int) * 256) = (m : Int) := by rw [IntKind.wrap_u64]; omega
      have e2 : IntKind.u64.wrap (z : Int) = (z : Int) := by rw [IntKind.wrap_u64]; omega
      have e3 : IntKind.u64.wrap ((m : Int) + (z : Int)) = (q : Int) := by rw [IntKind.wrap_u64]; omega
      have g' : (k : Int) < (n : Int) := by omega
      have EQ : Hid (q = numN (ds.take (k + 1))) := by unfold Hid; rw [take_next (by rw [HL.out]; exact g), ← ez, numN_snoc, st, hq, hm]
      have K8 : (k : Int) ≤ 8 := by omega
      have G := Lib.hid g
      clear ez st k1 g tb pb tb2 hm hq z1
      go_wp2
      go_round
      case rel => exact ⟨k + 1, q, rfl, by go_num, by have := G.out; omega, EQ.out.symm⟩
      case measure => simp [intOf]; have := G.out; omega
    · have g' : (n : Int) ≤ (k : Int) := by omega
      have fin : Hid (t = v) := by
        unfold Hid
        have e : ds.take k = ds := List.take_of_length_le (by rw [HL.out]; omega)
        rw [e] at st
        rw [← HV.out, ← st]
      clear g st k1
      go_wp2
      go_ret
      exact ⟨by rw [fin.out]; rfl, rfl⟩
end Go.Proofs.Ytpamnephndoefaa
