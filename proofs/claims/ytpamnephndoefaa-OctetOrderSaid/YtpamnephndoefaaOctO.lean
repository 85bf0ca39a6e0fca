/- Layer 3 (octet): the program's Width, Signed, Unsigned, and bytes in new memory. -/
import Derived.Test.YtpamnephndoefaaOctN
namespace Go.Proofs.Ytpamnephndoefaa
open Go.ChangeShapes Go.WideShapes Go.ChangeAt Go.RowKit OctM

/-- Bytes in new memory, from a slice that may be nil. -/
theorem pcopied_any (w : World) (p : Option Addr) (n c : Nat) (ds : List Nat) (hz : Holds w p n c (valsN .u8 ds)) (hn : n ≤ 140737488355328) :
    Calls Try.prog 37 #[.slice p n c] w (OwnPost w n ds) := by
  obtain ⟨i0, hi, hz0, hz1, hz2⟩ := info_of info8
  have HZ := Lib.hid hz
  have BM : Hid (0 + n ≤ maxLen) := by unfold Hid maxLen; omega
  have BY : Hid ((0 + n) * 1 ≤ 140737488355328) := by unfold Hid; omega
  rcases p with _ | a
  · have c0 := hz.bare rfl
    have n0 : n = 0 := by have := hz.cap; omega
    subst c0 n0
    have fin : Hid (OwnPost w 0 ds (.returned (.slice none 0 0)) w) := by
      have l := hz.len
      rw [valsN_len] at l
      obtain rfl := List.length_eq_zero_iff.1 l
      exact ⟨_, rfl, World.ownsRow_nil w _ _ 1, Below.refl _ _⟩
    clear hz hn
    go_enter Try.func37, Try.ntmps37
    go_wp2_with (at_builtin; refine wpList_append_own_none rfl _ _ 24 rfl w.heap.size 5 i0 1 Try.underlying24 hi _ _ _ rfl (World.ownsRow_nil w _ _ 1) rfl ?_)
    go_wp2
    go_ret
    exact fin.out
  · have cells : Hid (∀ j u, (valsN .u8 ds)[j]? = some u → w.cell? (a.add j) = some u) := fun j u hu => by
      obtain ⟨a', e, h⟩ := hz.cell j u hu
      cases e
      exact h
    have hl : Hid ((valsN .u8 ds).length = n * 1) := by unfold Hid; rw [Nat.mul_one]; exact hz.len
    clear hz hn
    go_enter Try.func37, Try.ntmps37
    go_wp2_with (at_builtin; refine wpList_append_own _ rfl _ _ 24 rfl w.heap.size 5 i0 (.int .u8 0) 1 1 Try.underlying24 hi hz0 hz1 hz2 rfl (by decide) _ 0 [] rfl (World.ownsRow_nil w _ _ 1) a n c (valsN .u8 ds) rfl hl.out cells.out (valsN_one _ _) BM.out BY.out (Nat.le_refl _) ?_)
    intro v' w1 hown hgrow _
    have fin : Hid (OwnPost w n ds (.returned v') w1) := ⟨v', rfl, hown, (Below.refl _ _).grown hgrow (Nat.le_refl _) (fun j hj => by cases hj)⟩
    clear hown hgrow
    go_wp2
    go_ret
    exact fin.out

set_option maxHeartbeats 800000 in
theorem pwidth_any (w : World) (p : Option Addr) (n c : Nat) (zs : List Int) (hz : Holds w p n c (valsI .i64 zs)) (hn : n ≤ 140737488355328) (u e' : Int) (hu : widV zs = u) (he : widE zs = e') :
    Calls Try.prog 15 #[.slice p n c] w fun e w' => e = .returned (.tuple #[.int .i64 u, .int .i64 e']) ∧ w = w' := by
  have hl : zs.length = n := by have := hz.len; rwa [valsI_len] at this
  have HZ := Lib.hid hz
  have HL := Lib.hid hl
  have HU := Lib.hid hu
  have HE := Lib.hid he
  have HN := Lib.hid hn
  clear hz hl hu hn he
  go_enter Try.func15, Try.ntmps15
  go_wp2_with fail
  go_loop [4, 9] (fun s i => ∃ (k : Nat) (t : Int), s = .int .i64 t ∧ i = .int .i64 k ∧ k ≤ n ∧ okAll (zs.take k) ∧ sumI (zs.take k) = t) (fun _ i => n - (intOf i).toNat)
  case atStart => exact ⟨0, 0, rfl, rfl, Nat.zero_le _, by intro z hz; simp at hz, rfl⟩
  case round =>
    obtain ⟨k, t, rfl, rfl, k1, ok, st⟩ := hrel
    have tb := sumI_le ok
    rw [List.length_take, st, HL.out, Nat.min_eq_left k1] at tb
    have k2 : (k : Int) ≤ 140737488355328 := by have := HN.out; omega
    obtain ⟨t1, t2⟩ := tb
    by_cases g : k < n
    · obtain ⟨a, rfl, hc⟩ := HZ.out.atI g
      obtain ⟨z, ez⟩ : ∃ z, z = zs.getD k 0 := ⟨_, rfl⟩
      rw [← ez] at hc
      have g' : (k : Int) < (n : Int) := by omega
      have EZ := Lib.hid ez
      have OK := Lib.hid ok
      have ST := Lib.hid st
      have K1 := Lib.hid k1
      have G := Lib.hid g
      clear ez ok st k1 g
      by_cases s : okS z
      · have s1 : 1 ≤ z := s.1
        have s2 : z ≤ 8 := s.2
        have S := Lib.hid (decide_eq_true s)
        have S' := Lib.hid s
        clear s
        go_wp2_with fail
        refine (pissize_any z _).mono ?_; rintro e w' ⟨rfl, rfl⟩
        rw [S.out]
        go_wp2
        go_round
        case rel =>
          refine ⟨k + 1, t + z, rfl, by go_num, by have := G.out; omega, ?_, ?_⟩
          · rw [takeI_next (by rw [HL.out]; exact G.out), ← EZ.out]; exact okAll_snoc OK.out S'.out
          · rw [takeI_next (by rw [HL.out]; exact G.out), ← EZ.out, sumI_snoc, ST.out]
        case measure => simp [intOf]; have := G.out; omega
      · have S := Lib.hid (decide_eq_false s)
        have S' := Lib.hid s
        have no : Hid (¬ okAll zs) := by
          intro h
          refine S'.out ?_
          rw [EZ.out]
          exact okAll_get h (by rw [HL.out]; exact G.out)
        have fin : Hid (u = 0 ∧ e' = 1) := by
          unfold Hid
          rw [← HU.out, ← HE.out]
          unfold widV widE
          rw [if_neg no.out, if_neg no.out]
          exact ⟨rfl, rfl⟩
        clear s
        go_wp2_with fail
        refine (pissize_any z _).mono ?_; rintro e w' ⟨rfl, rfl⟩
        rw [S.out]
        go_wp2
        go_ret2
        exact ⟨ret_pair fin.out.1.symm fin.out.2.symm, rfl⟩
    · have g' : (n : Int) ≤ (k : Int) := by omega
      have fin : Hid (u = t ∧ e' = 0) := by
        unfold Hid
        have e : zs.take k = zs := List.take_of_length_le (by rw [HL.out]; omega)
        rw [e] at ok st
        rw [← HU.out, ← HE.out, ← st]
        unfold widV widE
        rw [if_pos ok, if_pos ok]
        exact ⟨rfl, rfl⟩
      clear g ok st k1
      go_wp2
      go_ret2
      exact ⟨ret_pair fin.out.1.symm fin.out.2.symm, rfl⟩

theorem psigned_any (w : World) (n : Nat) (z : Int) (hn : n < 18446744073709551616) :
    Calls Try.prog 24 #[.int .u64 n, .int .i64 z] w (TellPost w (.returned (.tuple #[.int .i64 (sgR n z), .int .i64 (sgE n z)]))) := by
  have HN := Lib.hid hn
  by_cases h : okS z
  · obtain ⟨s, rfl, h1, h8, es⟩ := okS_nat h
    have S := Lib.hid (decide_eq_true h)
    by_cases f : n < 256 ^ s
    · have e : sgE n s = 0 := by unfold sgE; rw [if_pos h, Int.toNat_natCast, if_pos f]
      have d : sgR n s = extV n s := by unfold sgR; rw [if_pos e, Int.toNat_natCast, extV_of_lt f]
      rw [e, d]
      have F := Lib.hid (decide_eq_true f)
      have H1 := Lib.hid h1
      have H8 := Lib.hid h8
      clear hn h es f e d h1 h8
      go_enter Try.func24, Try.ntmps24
      go_wp2_with fail
      refine (pissize_any s _).mono ?_; rintro e w' ⟨rfl, rfl⟩
      rw [S.out]
      go_wp2_with fail
      refine (pfits_any _ n s HN.out H1.out H8.out).mono ?_; rintro e w' ⟨rfl, rfl⟩
      rw [F.out]
      go_wp2_with fail
      refine (pextend_any _ n s HN.out H1.out H8.out).mono ?_; rintro e w' ⟨rfl, rfl⟩
      go_wp2
      go_ret2
      exact ⟨rfl, Below.refl _ _⟩
    · have e : sgE n s = 20 := by unfold sgE; rw [if_pos h, Int.toNat_natCast, if_neg f]
      have d : sgR n s = 0 := by unfold sgR; rw [e]; rfl
      rw [e, d]
      have F := Lib.hid (decide_eq_false f)
      have H1 := Lib.hid h1
      have H8 := Lib.hid h8
      clear hn h es f e d h1 h8
      go_enter Try.func24, Try.ntmps24
      go_wp2_with fail
      refine (pissize_any s _).mono ?_; rintro e w' ⟨rfl, rfl⟩
      rw [S.out]
      go_wp2_with fail
      refine (pfits_any _ n s HN.out H1.out H8.out).mono ?_; rintro e w' ⟨rfl, rfl⟩
      rw [F.out]
      go_wp2
      go_ret2
      exact ⟨rfl, Below.refl _ _⟩
  · have e : sgE n z = 1 := by unfold sgE; rw [if_neg h]
    have d : sgR n z = 0 := by unfold sgR; rw [e]; rfl
    rw [e, d]
    have S := Lib.hid (decide_eq_false h)
    clear hn h e d
    go_enter Try.func24, Try.ntmps24
    go_wp2_with fail
    refine (pissize_any z _).mono ?_; rintro e w' ⟨rfl, rfl⟩
    rw [S.out]
    go_wp2
    go_ret2
    exact ⟨rfl, Below.refl _ _⟩

theorem psize_ok (z : Int) (h : okS z) (w : World) : Calls Try.prog 39 #[.int .i64 z] w fun e w' => e = .returned (.bool true) ∧ w = w' := by
  have := pissize_any z w
  rwa [decide_eq_true h] at this

theorem un_shift (s m : Nat) (h1 : 1 ≤ s) (h8 : s ≤ 8) :
    IntKind.u64.wrap ((m : Int) * 2 ^ (64 - 8 * s)) / 2 ^ (64 - 8 * s) = ((m % 256 ^ s : Nat) : Int) := by
  rcases eight h1 h8 with rfl | rfl | rfl | rfl | rfl | rfl | rfl | rfl
  all_goals
    simp only [IntKind.wrap_u64, Nat.reducePow, Nat.reduceSub, Nat.reduceMul, Int.reducePow]
    omega

set_option maxHeartbeats 1600000 in
theorem punsigned_ok (w : World) (n : Int) (s m : Nat) (hn : I64 n) (hm : n % 18446744073709551616 = (m : Int)) (h1 : 1 ≤ s) (h8 : s ≤ 8) (f : absM n < halfN s) :
    Calls Try.prog 26 #[.int .i64 n, .int .i64 s] w (TellPost w (.returned (.tuple #[.int .u64 (unV n s : Nat), .int .i64 0]))) := by
  have mb : m < 18446744073709551616 := by omega
  have MB := Lib.hid mb
  have e1 : IntKind.u64.wrap n = (m : Int) := by rw [IntKind.wrap_u64, hm]
  have X : Hid (extV m s = n) := (ext_iff n s m hn hm h1 h8).2 f
  have U : Hid ((m % 256 ^ s : Nat) = unV n s) := (un_num n s m hn hm h1 h8 f).symm
  have b1 : (n != n) = false := by simp
  have H1 := Lib.hid h1
  have H8 := Lib.hid h8
  have M := Lib.hid (un_shift s m h1 h8)
  clear hn hm f mb
  rcases eight h1 h8 with rfl | rfl | rfl | rfl | rfl | rfl | rfl | rfl
  all_goals
    clear h1 h8
    go_enter Try.func26, Try.ntmps26
    go_wp2_with fail
    refine (psize_ok _ (by unfold okS; omega) _).mono ?_; rintro e w' ⟨rfl, rfl⟩
    go_wp2_with fail
    refine (pextend_any _ m _ MB.out H1.out H8.out).mono ?_; rintro e w' ⟨rfl, rfl⟩
    rw [X.out]
    go_wp2
    go_ret2
    refine ⟨ret_pair ?_ rfl, Below.refl _ _⟩
    rw [← U.out, ← M.out]
    simp [IntKind.wrap_u64]

theorem punsigned_no (w : World) (n : Int) (s m : Nat) (hn : I64 n) (hm : n % 18446744073709551616 = (m : Int)) (h1 : 1 ≤ s) (h8 : s ≤ 8) (f : ¬ absM n < halfN s) :
    Calls Try.prog 26 #[.int .i64 n, .int .i64 s] w (TellPost w (.returned (.tuple #[.int .u64 0, .int .i64 20]))) := by
  have S := Lib.hid (decide_eq_true (show okS (s : Int) from ⟨by omega, by omega⟩))
  have mb : m < 18446744073709551616 := by omega
  have MB := Lib.hid mb
  have e1 : IntKind.u64.wrap n = (m : Int) := by rw [IntKind.wrap_u64, hm]
  have X : extV m s ≠ n := fun g => f ((ext_iff n s m hn hm h1 h8).1 g)
  obtain ⟨x, hx⟩ : ∃ x, x = extV m s := ⟨_, rfl⟩
  rw [← hx] at X
  have HX := Lib.hid hx
  have b1 : (x != n) = true := by simp; exact X
  have b2 : (x == n) = false := by simp; exact X
  have H1 := Lib.hid h1
  have H8 := Lib.hid h8
  clear hn hm f mb h1 h8 hx
  go_enter Try.func26, Try.ntmps26
  go_wp2_with fail
  refine (pissize_any _ _).mono ?_; rintro e w' ⟨rfl, rfl⟩
  rw [S.out]
  go_wp2_with fail
  refine (pextend_any _ m _ MB.out H1.out H8.out).mono ?_; rintro e w' ⟨rfl, rfl⟩
  rw [← HX.out]
  go_wp2
  go_ret2
  exact ⟨rfl, Below.refl _ _⟩

theorem punsigned_any (w : World) (n z : Int) (hn : I64 n) :
    Calls Try.prog 26 #[.int .i64 n, .int .i64 z] w (TellPost w (.returned (.tuple #[.int .u64 (unR n z : Nat), .int .i64 (unE n z)]))) := by
  obtain ⟨m, hm⟩ : ∃ m : Nat, n % 18446744073709551616 = (m : Int) := ⟨(n % 18446744073709551616).toNat, by omega⟩
  by_cases h : okS z
  · obtain ⟨s, rfl, h1, h8, es⟩ := okS_nat h
    by_cases f : absM n < halfN s
    · have e : unE n s = 0 := by unfold unE; rw [if_pos h, Int.toNat_natCast, if_pos f]
      have d : unR n s = unV n s := by unfold unR; rw [if_pos e, Int.toNat_natCast]
      rw [e, d]
      exact punsigned_ok w n s m hn hm h1 h8 f
    · have e : unE n s = 20 := by unfold unE; rw [if_pos h, Int.toNat_natCast, if_neg f]
      have d : unR n s = 0 := by unfold unR; rw [e]; rfl
      rw [e, d]
      exact punsigned_no w n s m hn hm h1 h8 f
  · have e : unE n z = 1 := by unfold unE; rw [if_neg h]
    have d : unR n z = 0 := by unfold unR; rw [e]; rfl
    rw [e, d]
    have S := Lib.hid (decide_eq_false h)
    clear hn h e d hm
    go_enter Try.func26, Try.ntmps26
    go_wp2_with fail
    refine (pissize_any z _).mono ?_; rintro e w' ⟨rfl, rfl⟩
    rw [S.out]
    go_wp2
    go_ret2
    exact ⟨rfl, Below.refl _ _⟩
end Go.Proofs.Ytpamnephndoefaa
