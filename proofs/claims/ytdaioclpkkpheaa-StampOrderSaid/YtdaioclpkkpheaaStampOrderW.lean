/- The walk of StampOrder: times and their dates and stamps stand in one order; shorts and their nanoseconds likewise. -/
import Derived.Test.YtdaioclpkkpheaaStampBackW
import Derived.Deep.DeepCutAuto
namespace Go.Proofs.Ytdaioclpkkpheaa
open Go.ChangeShapes Go.WideShapes Go.ChangeAt Go.RowKit StampM

set_option maxHeartbeats 6400000 in
set_option maxRecDepth 100000 in
theorem stamporder_core (a b A B e1 e2 : Int) (o1 o2 f1 f2 u v p q s1 s2 z : Nat) (x y : Bool) (sw : (b < a ∧ A = b ∧ B = a) ∨ (a ≤ b ∧ A = a ∧ B = b))
    (IA : Hid (I64 A)) (IB : Hid (I64 B)) (d1 : Hid (eraN A = e1 ∧ offN A = o1 ∧ fracN A = f1)) (d2 : Hid (eraN B = e2 ∧ offN B = o2 ∧ fracN B = f2))
    (cs : (A < B ∧ e1 < e2) ∨ (A < B ∧ e1 = e2 ∧ o1 < o2 ∧ s1 < s2) ∨ (A < B ∧ e1 = e2 ∧ o1 = o2 ∧ f1 < f2 ∧ s1 < s2) ∨ (A = B ∧ e1 = e2 ∧ o1 = o2 ∧ f1 = f2))
    (t1 : Hid (stampN A = s1)) (t2 : Hid (stampN B = s2)) (ub : Hid (u < 4294967296)) (vb : Hid (v < 4294967296)) (hp : Hid (shortN u = p)) (hq : Hid (shortN v = q)) (pb : (p : Int) ≤ 65535999984742) (qb : (q : Int) ≤ 65535999984742)
    (bu : Hid (nsShortN (p : Int) = u)) (bv : Hid (nsShortN (q : Int) = v)) (hz : Hid (nsShortN ((p : Int) + 1) = z)) (zu : u ≤ z)
    (x1' : decide (p < q) = x) (x2' : decide (u < v) = x) (y1 : ((p : Int) == 0) = y) (y2 : ((u : Int) == 0) = y) (w : World) :
    Calls Try.prog 5 #[.int .i64 a, .int .i64 b, .int .u32 u, .int .u32 v] w fun e w' => e = .returned (.bool true) ∧ Grown w w' := by
  have IP : Hid (I64 (p : Int)) := i64_mk _ (by omega) (by omega)
  have IQ : Hid (I64 (q : Int)) := i64_mk _ (by omega) (by omega)
  have IP1 : Hid (I64 ((p : Int) + 1)) := i64_mk _ (by omega) (by omega)
  have g1 : decide ((u : Int) ≤ (z : Int)) = true := by simp; omega
  have g1' : decide (u ≤ z) = true := by simp; omega
  have g2 : decide (0 ≤ (p : Int)) = true := by simp
  go_enter Try.func5, Try.ntmps5
  go_upto_if 16 with fail
  go_cut [0, 1] (fun q1 q2 wx => q1 = .int .i64 A ∧ q2 = .int .i64 B ∧ w = wx)
  case first =>
    rcases sw with ⟨c1, rfl, rfl⟩ | ⟨c1, rfl, rfl⟩
    · go_wp2
      go_meet
      exact ⟨rfl, rfl, rfl⟩
    · go_wp2
      go_meet
      exact ⟨rfl, rfl, rfl⟩
  case rest =>
  obtain ⟨rfl, rfl, rfl⟩ := hcut
  clear sw
  rcases cs with ⟨c0, c1⟩ | ⟨c0, rfl, c1, c2⟩ | ⟨c0, rfl, rfl, c1, c2⟩ | ⟨rfl, rfl, rfl, rfl⟩
  · have m1 : decide (A < B) = true := by simp; omega
    have m2 : (A == B) = false := by rw [beq_eq_false_iff_ne]; omega
    have k1 : decide (e1 < e2) = true := by simp; omega
    have k2 : (e1 == e2) = false := by rw [beq_eq_false_iff_ne]; omega
    go_wp2_with fail
    refine (nsdate_at A _ _ _ IA.out d1.out _).mono ?_; rintro e w1 ⟨rfl, a1⟩
    go_wp2_with fail
    refine (nsdate_at B _ _ _ IB.out d2.out _).mono ?_; rintro e w2 ⟨rfl, a2⟩
    go_wp2_with fail
    refine (short_at u p ub.out hp.out _).mono ?_; rintro e w' ⟨rfl, rfl⟩
    go_wp2_with fail
    refine (short_at v q vb.out hq.out _).mono ?_; rintro e w' ⟨rfl, rfl⟩
    go_wp2_with fail
    refine (nsshort_at _ u IP.out bu.out _).mono ?_; rintro e w' ⟨rfl, rfl⟩
    go_wp2_with fail
    refine (nsshort_at _ v IQ.out bv.out _).mono ?_; rintro e w' ⟨rfl, rfl⟩
    go_wp2_with fail
    refine (nsshort_at _ z IP1.out hz.out _).mono ?_; rintro e w' ⟨rfl, rfl⟩
    go_wp2_with fail
    refine (wakes_any _).mono ?_; rintro e w3 ⟨rfl, a3⟩
    go_wp2
    go_ret
    exact ⟨rfl, ((((a1.trans a2).alloc _ _).alloc _ _).trans a3).g⟩
  · have m1 : decide (A < B) = true := by simp; omega
    have m2 : (A == B) = false := by rw [beq_eq_false_iff_ne]; omega
    have m3 : decide ((s2 : Int) ≤ (s1 : Int)) = false := by simp; omega
    have m4 : decide (s2 ≤ s1) = false := by simp; omega
    have k1 : decide ((o1 : Int) < (o2 : Int)) = true := by simp; omega
    have k2 : decide (o1 < o2) = true := by simp; omega
    have k3 : ((o1 : Int) == (o2 : Int)) = false := by rw [beq_eq_false_iff_ne]; omega
    have k4 : (o1 == o2) = false := by rw [beq_eq_false_iff_ne]; omega
    go_wp2_with fail
    refine (nsdate_at A _ _ _ IA.out d1.out _).mono ?_; rintro e w1 ⟨rfl, a1⟩
    go_wp2_with fail
    refine (nsdate_at B _ _ _ IB.out d2.out _).mono ?_; rintro e w2 ⟨rfl, a2⟩
    go_wp2_with fail
    refine (stamp_at A s1 IA.out t1.out _).mono ?_; rintro e w' ⟨rfl, rfl⟩
    go_wp2_with fail
    refine (stamp_at B s2 IB.out t2.out _).mono ?_; rintro e w' ⟨rfl, rfl⟩
    go_wp2_with fail
    refine (short_at u p ub.out hp.out _).mono ?_; rintro e w' ⟨rfl, rfl⟩
    go_wp2_with fail
    refine (short_at v q vb.out hq.out _).mono ?_; rintro e w' ⟨rfl, rfl⟩
    go_wp2_with fail
    refine (nsshort_at _ u IP.out bu.out _).mono ?_; rintro e w' ⟨rfl, rfl⟩
    go_wp2_with fail
    refine (nsshort_at _ v IQ.out bv.out _).mono ?_; rintro e w' ⟨rfl, rfl⟩
    go_wp2_with fail
    refine (nsshort_at _ z IP1.out hz.out _).mono ?_; rintro e w' ⟨rfl, rfl⟩
    go_wp2_with fail
    refine (wakes_any _).mono ?_; rintro e w3 ⟨rfl, a3⟩
    go_wp2
    go_ret
    exact ⟨rfl, ((((a1.trans a2).alloc _ _).alloc _ _).trans a3).g⟩
  · have m1 : decide (A < B) = true := by simp; omega
    have m2 : (A == B) = false := by rw [beq_eq_false_iff_ne]; omega
    have m3 : decide ((s2 : Int) ≤ (s1 : Int)) = false := by simp; omega
    have m4 : decide (s2 ≤ s1) = false := by simp; omega
    have k1 : decide ((f1 : Int) < (f2 : Int)) = true := by simp; omega
    have k2 : decide (f1 < f2) = true := by simp; omega
    have k3 : ((f1 : Int) == (f2 : Int)) = false := by rw [beq_eq_false_iff_ne]; omega
    have k4 : (f1 == f2) = false := by rw [beq_eq_false_iff_ne]; omega
    go_wp2_with fail
    refine (nsdate_at A _ _ _ IA.out d1.out _).mono ?_; rintro e w1 ⟨rfl, a1⟩
    go_wp2_with fail
    refine (nsdate_at B _ _ _ IB.out d2.out _).mono ?_; rintro e w2 ⟨rfl, a2⟩
    go_wp2_with fail
    refine (stamp_at A s1 IA.out t1.out _).mono ?_; rintro e w' ⟨rfl, rfl⟩
    go_wp2_with fail
    refine (stamp_at B s2 IB.out t2.out _).mono ?_; rintro e w' ⟨rfl, rfl⟩
    go_wp2_with fail
    refine (short_at u p ub.out hp.out _).mono ?_; rintro e w' ⟨rfl, rfl⟩
    go_wp2_with fail
    refine (short_at v q vb.out hq.out _).mono ?_; rintro e w' ⟨rfl, rfl⟩
    go_wp2_with fail
    refine (nsshort_at _ u IP.out bu.out _).mono ?_; rintro e w' ⟨rfl, rfl⟩
    go_wp2_with fail
    refine (nsshort_at _ v IQ.out bv.out _).mono ?_; rintro e w' ⟨rfl, rfl⟩
    go_wp2_with fail
    refine (nsshort_at _ z IP1.out hz.out _).mono ?_; rintro e w' ⟨rfl, rfl⟩
    go_wp2_with fail
    refine (wakes_any _).mono ?_; rintro e w3 ⟨rfl, a3⟩
    go_wp2
    go_ret
    exact ⟨rfl, ((((a1.trans a2).alloc _ _).alloc _ _).trans a3).g⟩
  · go_wp2_with fail
    refine (nsdate_at A _ _ _ IA.out d1.out _).mono ?_; rintro e w1 ⟨rfl, a1⟩
    go_wp2_with fail
    refine (nsdate_at A _ _ _ IB.out d2.out _).mono ?_; rintro e w2 ⟨rfl, a2⟩
    go_wp2_with fail
    refine (short_at u p ub.out hp.out _).mono ?_; rintro e w' ⟨rfl, rfl⟩
    go_wp2_with fail
    refine (short_at v q vb.out hq.out _).mono ?_; rintro e w' ⟨rfl, rfl⟩
    go_wp2_with fail
    refine (nsshort_at _ u IP.out bu.out _).mono ?_; rintro e w' ⟨rfl, rfl⟩
    go_wp2_with fail
    refine (nsshort_at _ v IQ.out bv.out _).mono ?_; rintro e w' ⟨rfl, rfl⟩
    go_wp2_with fail
    refine (nsshort_at _ z IP1.out hz.out _).mono ?_; rintro e w' ⟨rfl, rfl⟩
    go_wp2_with fail
    refine (wakes_any _).mono ?_; rintro e w3 ⟨rfl, a3⟩
    go_wp2
    go_ret
    exact ⟨rfl, ((((a1.trans a2).alloc _ _).alloc _ _).trans a3).g⟩

theorem order_walk (a b : Int) (u v : Nat) (ha : I64 a) (hb : I64 b) (hu : u < 4294967296) (hv : v < 4294967296) (w : World) :
    Calls Try.prog 5 #[.int .i64 a, .int .i64 b, .int .u32 u, .int .u32 v] w fun e w' => e = .returned (.bool true) ∧ Grown w w' := by
  obtain ⟨A, B, sw, IA, IB, le⟩ : ∃ A B : Int, ((b < a ∧ A = b ∧ B = a) ∨ (a ≤ b ∧ A = a ∧ B = b)) ∧ I64 A ∧ I64 B ∧ A ≤ B := by
    by_cases c : b < a
    · exact ⟨b, a, .inl ⟨c, rfl, rfl⟩, hb, ha, by omega⟩
    · exact ⟨a, b, .inr ⟨by omega, rfl, rfl⟩, ha, hb, by omega⟩
  have pb := short_lt u hu
  have qb := short_lt v hv
  have cs : (A < B ∧ eraN A < eraN B) ∨ (A < B ∧ eraN A = eraN B ∧ offN A < offN B ∧ stampN A < stampN B) ∨ (A < B ∧ eraN A = eraN B ∧ offN A = offN B ∧ fracN A < fracN B ∧ stampN A < stampN B) ∨ (A = B ∧ eraN A = eraN B ∧ offN A = offN B ∧ fracN A = fracN B) := by
    by_cases c : A < B
    · rcases date_order A B c with h | ⟨h, k⟩ | ⟨h, k, l⟩
      · exact .inl ⟨c, h⟩
      · exact .inr (.inl ⟨c, h, k, stamp_order A B c h⟩)
      · exact .inr (.inr (.inl ⟨c, h, k, l, stamp_order A B c h⟩))
    · have e : A = B := by omega
      subst e
      exact .inr (.inr (.inr ⟨rfl, rfl, rfl, rfl⟩))
  have ez : ((shortN u : Int) == 0) = ((u : Int) == 0) := by
    rw [Bool.eq_iff_iff, beq_iff_eq, beq_iff_eq]
    have := short_zero u
    omega
  have ex : decide (shortN u < shortN v) = decide (u < v) := by
    have := short_mono u v
    simp [this]
  exact stamporder_core a b A B _ _ _ _ _ _ u v _ _ _ _ _ _ _ sw IA IB ⟨rfl, rfl, rfl⟩ ⟨rfl, rfl, rfl⟩ cs rfl rfl hu hv rfl rfl (by omega) (by omega) (short_back u hu) (short_back v hv) rfl (short_next u hu) ex rfl ez rfl w
end Go.Proofs.Ytdaioclpkkpheaa
