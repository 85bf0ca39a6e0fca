/- The walk of StampBack: a time goes as a stamp and comes back; a date likewise; a stamp goes as a time and comes back. -/
import Derived.Test.YtdaioclpkkpheaaStampErasW
namespace Go.Proofs.Ytdaioclpkkpheaa
open Go.ChangeShapes Go.WideShapes Go.ChangeAt Go.RowKit StampM

set_option maxHeartbeats 3200000 in
set_option maxRecDepth 100000 in
theorem stampback_core (ns off n t q P X : Int) (u s b : Nat) (hu : Hid (u < 18446744073709551616))
    (m : bits .and .i64 ns 4611686018427387903 = n) (n0 : 0 ≤ n) (n1 : n < 4611686018427387904) (ht : off.tmod 2147483648000000000 = t) (t0 : -2147483648000000000 < t) (t1 : t < 2147483648000000000) (hq : n + t = q)
    (cq : (q < 0 ∧ P = n) ∨ (4611686018427387904 < q ∧ P = n) ∨ (0 ≤ q ∧ q ≤ 4611686018427387904 ∧ P = q))
    (p0 : 0 ≤ P) (p1 : P ≤ 4611686018427387904) (hs : Hid (stampN n = s)) (sb : Hid (s < 18446744073709551616)) (hb : Hid (stampNsN s P = n))
    (e1 e2 : Int) (o1 f1 o2 f2 : Nat) (d1 : Hid (eraN n = e1 ∧ offN n = o1 ∧ fracN n = f1)) (d2 : Hid (eraN (-n) = e2 ∧ offN (-n) = o2 ∧ fracN (-n) = f2))
    (b1 : Hid (o1 < 4294967296 ∧ f1 < 18446744073709551616 ∧ -2147483648 ≤ e1 ∧ e1 ≤ 2147483647)) (b2 : Hid (o2 < 4294967296 ∧ f2 < 18446744073709551616 ∧ -2147483648 ≤ e2 ∧ e2 ≤ 2147483647))
    (r1 : Hid (dateN e1 o1 f1 = n ∧ dateE e1 o1 f1 = 0)) (r2 : Hid (dateN e2 o2 f2 = -n ∧ dateE e2 o2 f2 = 0))
    (hX : Hid (stampNsN u n = X)) (x1 : X - n ≤ 2147483648000000000) (x2 : n - X ≤ 2147483648000000000) (hB : Hid (stampN X = b)) (u1 : (b : Int) ≤ (u : Int)) (u2 : (u : Int) - (b : Int) < 5) (w : World) :
    Calls Try.prog 4 #[.int .i64 ns, .int .i64 off, .int .u64 u] w fun e w' => e = .returned (.bool true) ∧ Grown w w' := by
  have n2 : (n != n) = false := by simp
  have n3 : (-n != -n) = false := by simp
  have n4 : decide ((u : Int) - (b : Int) < 5) = true := by simp; omega
  have n5 : decide (X - n ≤ 2147483648000000000) = true := by simp; omega
  have n6 : decide (n - X ≤ 2147483648000000000) = true := by simp; omega
  have I0 : Hid (I64 n) := i64_mk _ (by omega) (by omega)
  have I1 : Hid (I64 (-n)) := i64_mk _ (by omega) (by omega)
  have I2 : Hid (I64 P) := i64_mk _ (by omega) (by omega)
  have I3 : Hid (I64 X) := i64_mk _ (by omega) (by omega)
  have ub : (u : Int) < 18446744073709551616 := by have := hu.out; omega
  rcases cq with ⟨c1, rfl⟩ | ⟨c1, rfl⟩ | ⟨c1, c2, rfl⟩
  · have k1 : decide (q < 0) = true := by simp; omega
    go_enter Try.func4, Try.ntmps4
    go_wp2_with fail
    refine (stamp_at _ s I0.out hs.out _).mono ?_; rintro e w1 ⟨rfl, rfl⟩
    go_wp2_with fail
    refine (stampns_at s _ _ sb.out I2.out hb.out _).mono ?_; rintro e w1 ⟨rfl, a1⟩
    go_wp2_with fail
    refine (nsdate_at _ e1 o1 f1 I0.out d1.out _).mono ?_; rintro e w2 ⟨rfl, a2⟩
    go_wp2_with fail
    refine (datens_at e1 _ _ o1 f1 b1.out.2.2 b1.out.1 b1.out.2.1 r1.out _).mono ?_; rintro e w3 ⟨rfl, a3⟩
    go_wp2_with fail
    refine (nsdate_at _ e2 o2 f2 I1.out d2.out _).mono ?_; rintro e w4 ⟨rfl, a4⟩
    go_wp2_with fail
    refine (datens_at e2 _ _ o2 f2 b2.out.2.2 b2.out.1 b2.out.2.1 r2.out _).mono ?_; rintro e w5 ⟨rfl, a5⟩
    go_wp2_with fail
    refine (stampns_at u _ X hu.out I0.out hX.out _).mono ?_; rintro e w6 ⟨rfl, a6⟩
    go_wp2_with fail
    refine (stamp_at X b I3.out hB.out _).mono ?_; rintro e w7 ⟨rfl, rfl⟩
    go_wp2_with fail
    refine (wakes_any _).mono ?_; rintro e w8 ⟨rfl, a8⟩
    go_wp2
    go_ret
    exact ⟨rfl, ((((((a1.trans a2).alloc _ _).trans a3).trans a4).trans a5).trans (a6.trans a8)).g⟩
  · have k1 : decide (q < 0) = false := by simp; omega
    have k2 : decide (4611686018427387904 < q) = true := by simp; omega
    go_enter Try.func4, Try.ntmps4
    go_wp2_with fail
    refine (stamp_at _ s I0.out hs.out _).mono ?_; rintro e w1 ⟨rfl, rfl⟩
    go_wp2_with fail
    refine (stampns_at s _ _ sb.out I2.out hb.out _).mono ?_; rintro e w1 ⟨rfl, a1⟩
    go_wp2_with fail
    refine (nsdate_at _ e1 o1 f1 I0.out d1.out _).mono ?_; rintro e w2 ⟨rfl, a2⟩
    go_wp2_with fail
    refine (datens_at e1 _ _ o1 f1 b1.out.2.2 b1.out.1 b1.out.2.1 r1.out _).mono ?_; rintro e w3 ⟨rfl, a3⟩
    go_wp2_with fail
    refine (nsdate_at _ e2 o2 f2 I1.out d2.out _).mono ?_; rintro e w4 ⟨rfl, a4⟩
    go_wp2_with fail
    refine (datens_at e2 _ _ o2 f2 b2.out.2.2 b2.out.1 b2.out.2.1 r2.out _).mono ?_; rintro e w5 ⟨rfl, a5⟩
    go_wp2_with fail
    refine (stampns_at u _ X hu.out I0.out hX.out _).mono ?_; rintro e w6 ⟨rfl, a6⟩
    go_wp2_with fail
    refine (stamp_at X b I3.out hB.out _).mono ?_; rintro e w7 ⟨rfl, rfl⟩
    go_wp2_with fail
    refine (wakes_any _).mono ?_; rintro e w8 ⟨rfl, a8⟩
    go_wp2
    go_ret
    exact ⟨rfl, ((((((a1.trans a2).alloc _ _).trans a3).trans a4).trans a5).trans (a6.trans a8)).g⟩
  · have k1 : decide (P < 0) = false := by simp; omega
    have k2 : decide (4611686018427387904 < P) = false := by simp; omega
    go_enter Try.func4, Try.ntmps4
    go_wp2_with fail
    refine (stamp_at _ s I0.out hs.out _).mono ?_; rintro e w1 ⟨rfl, rfl⟩
    go_wp2_with fail
    refine (stampns_at s _ _ sb.out I2.out hb.out _).mono ?_; rintro e w1 ⟨rfl, a1⟩
    go_wp2_with fail
    refine (nsdate_at _ e1 o1 f1 I0.out d1.out _).mono ?_; rintro e w2 ⟨rfl, a2⟩
    go_wp2_with fail
    refine (datens_at e1 _ _ o1 f1 b1.out.2.2 b1.out.1 b1.out.2.1 r1.out _).mono ?_; rintro e w3 ⟨rfl, a3⟩
    go_wp2_with fail
    refine (nsdate_at _ e2 o2 f2 I1.out d2.out _).mono ?_; rintro e w4 ⟨rfl, a4⟩
    go_wp2_with fail
    refine (datens_at e2 _ _ o2 f2 b2.out.2.2 b2.out.1 b2.out.2.1 r2.out _).mono ?_; rintro e w5 ⟨rfl, a5⟩
    go_wp2_with fail
    refine (stampns_at u _ X hu.out I0.out hX.out _).mono ?_; rintro e w6 ⟨rfl, a6⟩
    go_wp2_with fail
    refine (stamp_at X b I3.out hB.out _).mono ?_; rintro e w7 ⟨rfl, rfl⟩
    go_wp2_with fail
    refine (wakes_any _).mono ?_; rintro e w8 ⟨rfl, a8⟩
    go_wp2
    go_ret
    exact ⟨rfl, ((((((a1.trans a2).alloc _ _).trans a3).trans a4).trans a5).trans (a6.trans a8)).g⟩

theorem back_walk (ns off : Int) (u : Nat) (hu : u < 18446744073709551616) (w : World) :
    Calls Try.prog 4 #[.int .i64 ns, .int .i64 off, .int .u64 u] w fun e w' => e = .returned (.bool true) ∧ Grown w w' := by
  obtain ⟨n, hn⟩ : ∃ n, n = ns % 4611686018427387904 := ⟨_, rfl⟩
  have n0 : 0 ≤ n := by omega
  have n1 : n < 4611686018427387904 := by omega
  obtain ⟨t, ht⟩ : ∃ t, off.tmod 2147483648000000000 = t := ⟨_, rfl⟩
  have tb : -2147483648000000000 < t ∧ t < 2147483648000000000 := by
    rw [← ht]
    exact ⟨Int.neg_lt_of_neg_lt (by have := Int.tmod_lt_of_pos (-off) (b := 2147483648000000000) (by decide); rw [Int.neg_tmod] at this; omega), Int.tmod_lt_of_pos _ (by decide)⟩
  obtain ⟨P, cq⟩ : ∃ P, (n + t < 0 ∧ P = n) ∨ (4611686018427387904 < n + t ∧ P = n) ∨ (0 ≤ n + t ∧ n + t ≤ 4611686018427387904 ∧ P = n + t) := by
    by_cases c : n + t < 0
    · exact ⟨n, .inl ⟨c, rfl⟩⟩
    · by_cases d : 4611686018427387904 < n + t
      · exact ⟨n, .inr (.inl ⟨d, rfl⟩)⟩
      · exact ⟨n + t, .inr (.inr ⟨by omega, by omega, rfl⟩)⟩
  have p0 : 0 ≤ P := by omega
  have p1 : P ≤ 4611686018427387904 := by omega
  have hb := stamp_back n P n0 n1 p0 p1 (by omega) (by omega)
  have hh := near_half u n hu n0 (by omega)
  have th := stamp_there u n hu n0 (by omega)
  have er : ∀ x : Int, -4611686018427387904 ≤ x → x ≤ 4611686018427387904 → -2147483648 ≤ eraN x ∧ eraN x ≤ 2147483647 := by
    intro x g1 g2
    unfold eraN secs
    omega
  exact stampback_core ns off n t _ P _ u _ _ hu (low_bits ns 62 (by omega) _ _ (by decide) (by rw [hn]; rfl)) n0 n1 ht tb.1 tb.2 rfl cq p0 p1 rfl (stamp_lt n) hb
    _ _ _ _ _ _ ⟨rfl, rfl, rfl⟩ ⟨rfl, rfl, rfl⟩ ⟨off_lt _, frac_lt _, er n (by omega) (by omega)⟩ ⟨off_lt _, frac_lt _, er (-n) (by omega) (by omega)⟩
    (date_fits n ⟨by omega, by omega⟩) (date_fits (-n) ⟨by omega, by omega⟩) rfl hh.1 hh.2 rfl (by omega) (by omega) w
end Go.Proofs.Ytdaioclpkkpheaa
