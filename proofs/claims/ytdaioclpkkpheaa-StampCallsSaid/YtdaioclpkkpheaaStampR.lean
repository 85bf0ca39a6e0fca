/- Contracts of the document's own answers for layer 2 (stamp). -/
import Derived.Test.YtdaioclpkkpheaaStampC
namespace Go.Proofs.Ytdaioclpkkpheaa
open Go.ChangeShapes Go.WideShapes Go.ChangeAt Go.RowKit StampM

theorem parts_any (ns s : Int) (r : Nat) (hs : secs ns = s) (hr : over ns = r) (h : I64 ns) (w : World) :
    Calls Try.prog 26 #[.int .i64 ns] w fun e w' => e = .returned (.tuple #[.int .i64 s, .int .u64 r]) ∧ w = w' := by
  obtain ⟨h1, h2⟩ := h
  by_cases c : 0 ≤ ns
  · have H : Hid (ns / 1000000000 = s ∧ ns % 1000000000 = (r : Int)) := by unfold Hid; exact ⟨hs, by rw [← hr]; exact (over_int ns).symm⟩
    clear hs hr
    go_enter Try.func26, Try.ntmps26
    go_wp2
    go_ret2
    exact ⟨ret_pair H.out.1 H.out.2, rfl⟩
  · obtain ⟨q, t, Q, R, b2, b3, b1, d | d⟩ := split_neg ns s r (by omega) h1 hs hr
    · have H := Lib.hid d.2
      obtain ⟨d, -⟩ := d
      have c' : ns < 0 := by omega
      clear hs hr c
      go_enter Try.func26, Try.ntmps26
      go_wp2
      go_ret2
      exact ⟨ret_pair H.out.1 H.out.2, rfl⟩
    · have H := Lib.hid d.2
      obtain ⟨d, -⟩ := d
      have c' : ns < 0 := by omega
      subst d
      clear hs hr c
      go_enter Try.func26, Try.ntmps26
      go_wp2
      go_ret2
      exact ⟨ret_pair H.out.1 H.out.2, rfl⟩

theorem era_any (s e : Int) (o : Nat) (he : s / 4294967296 = e) (ho : (s % 4294967296).toNat = o) (h1 : -9223372037 ≤ s) (h2 : s ≤ 9223372036) (w : World) :
    Calls Try.prog 27 #[.int .i64 s] w fun x w' => x = .returned (.tuple #[.int .i64 e, .int .u64 o]) ∧ w = w' := by
  by_cases c : 0 ≤ s
  · have H : Hid (s / 4294967296 = e ∧ s % 4294967296 = (o : Int)) := by unfold Hid; exact ⟨he, by omega⟩
    clear he ho
    go_enter Try.func27, Try.ntmps27
    go_wp2
    go_ret2
    exact ⟨ret_pair H.out.1 H.out.2, rfl⟩
  · obtain ⟨q, t, Q, R, b2, b3, b1, d | d⟩ := era_neg s e o (by omega) (by omega) he ho
    · have H := Lib.hid d.2
      obtain ⟨d, -⟩ := d
      have c' : s < 0 := by omega
      clear he ho c
      go_enter Try.func27, Try.ntmps27
      go_wp2
      go_ret2
      exact ⟨ret_pair H.out.1 H.out.2, rfl⟩
    · have H := Lib.hid d.2
      obtain ⟨d, -⟩ := d
      have c' : s < 0 := by omega
      subst d
      clear he ho c
      go_enter Try.func27, Try.ntmps27
      go_wp2
      go_ret2
      exact ⟨ret_pair H.out.1 H.out.2, rfl⟩

theorem ref_away (x p : Int) (d : Nat) (h1 : -8589934592000000000 ≤ x) (h2 : x ≤ 8589934592000000000) (g1 : 0 ≤ p) (g2 : p ≤ 4611686018427387904) (hd : far x p = d) (w : World) :
    Calls Try.prog 24 #[.int .i64 x, .int .i64 p] w fun e w' => e = .returned (.int .u64 d) ∧ w = w' := by
  by_cases c : x < p
  · have D : Hid (IntKind.u64.wrap (p - IntKind.u64.wrap x) = (d : Int)) := by
      unfold Hid; rw [← hd]; unfold far; rw [if_pos c]; simp only [IntKind.wrap_u64]; omega
    by_cases x0 : 0 ≤ x
    · have D' : Hid (p - x = (d : Int)) := by unfold Hid; rw [← hd]; unfold far; rw [if_pos c]
      clear hd D
      go_enter Try.func24, Try.ntmps24
      go_wp2
      go_ret
      exact ⟨ret_int D'.out, rfl⟩
    · clear hd
      go_enter Try.func24, Try.ntmps24
      go_wp2
      go_ret
      exact ⟨ret_int D.out, rfl⟩
  · have D : Hid (x - p = (d : Int)) := by unfold Hid; rw [← hd]; unfold far; rw [if_neg c]
    have c' : p ≤ x := by omega
    clear hd c
    go_enter Try.func24, Try.ntmps24
    go_wp2
    go_ret
    exact ⟨ret_int D.out, rfl⟩

set_option maxHeartbeats 800000 in
theorem ref_nsshort_any (ns : Int) (h : I64 ns) (w : World) :
    Calls Try.prog 13 #[.int .i64 ns] w fun e w' => e = .returned (.int .u32 (nsShortN ns : Nat)) ∧ w = w' := by
  obtain ⟨h1, h2⟩ := h
  by_cases c : ns < 1
  · rw [show nsShortN ns = 0 by unfold nsShortN; simp [c]]
    go_enter Try.func13, Try.ntmps13
    go_wp2
    go_ret
    exact ⟨rfl, rfl⟩
  · have c' : 1 ≤ ns := by omega
    clear c
    have vb := nsshort_hi ns
    obtain ⟨v, hv⟩ : ∃ v, v = nsShortN ns := ⟨_, rfl⟩
    rw [← hv] at vb ⊢
    replace hv := Lib.hid hv
    go_enter Try.func13, Try.ntmps13
    go_wp2_with fail
    go_loop [3, 4] (fun a b => ∃ l k : Nat, a = .int .i64 l ∧ b = .int .i64 k ∧ l ≤ v ∧ v ≤ k ∧ k ≤ 4294967295) (fun a b => (intOf b - intOf a).toNat)
    case atStart => exact ⟨0, 4294967295, rfl, rfl, by omega, by omega, by omega⟩
    case round =>
      obtain ⟨l, k, rfl, rfl, l1, l2, l3⟩ := hrel
      by_cases e : l < k
      · obtain ⟨m, hm⟩ : ∃ m, m = (l + k) / 2 := ⟨_, rfl⟩
        have M : ((l : Int) + (k : Int)) / 2 = (m : Int) := by omega
        have m1 : m < k := by omega
        have m2 : l ≤ m := by omega
        obtain ⟨z, hz⟩ : ∃ z, z = shortN m := ⟨_, rfl⟩
        have i := nsshort_iff ns m c' (by omega)
        rw [← hz, ← hv.out] at i
        have e' : (l : Int) < (k : Int) := by omega
        have W := ref_shortns_any m (by omega)
        rw [← hz] at W
        replace W := Lib.hid W
        clear hm hz e
        by_cases d : v ≤ m
        · have d' := i.2 d
          clear i
          go_wp2_with fail
          refine (W.out _).mono ?_; rintro x w' ⟨rfl, rfl⟩
          go_wp2
          go_round
          case rel => exact ⟨l, m, rfl, rfl, l1, d, by omega⟩
          case measure => simp [intOf]; omega
        · have d' : ¬ (ns ≤ (z : Int)) := fun x => d (i.1 x)
          have d2 : (z : Int) < ns := by omega
          clear i d'
          go_wp2_with fail
          refine (W.out _).mono ?_; rintro x w' ⟨rfl, rfl⟩
          go_wp2
          go_round
          case rel => exact ⟨m + 1, k, by simp, rfl, by omega, l2, l3⟩
          case measure => simp [intOf]; omega
      · have e' : (k : Int) ≤ (l : Int) := by omega
        have e2 : l = v := by omega
        clear e
        go_wp2
        go_ret
        exact ⟨rfl, rfl⟩
end Go.Proofs.Ytdaioclpkkpheaa
