/- ScaleTicks: the walk. -/
import Derived.Test.YtccfimempjbnfaaScaleD
set_option maxRecDepth 100000
namespace Go.Proofs.Ytccfimempjbnfaa
open Go.ChangeShapes Go.WideShapes Go.ChangeAt Go.RowKit ScaleM

theorem stepG {c h a q r : Nat} (h0 : 0 < h) (c0 : 0 < c) (hq : c / h = q) (hr : c % h = r) :
    ((r = 0 ∧ (a + 1) * c / h = a * c / h + q) ∨ (r ≠ 0 ∧ ((a + 1) * c / h = a * c / h + q ∨ (a + 1) * c / h = a * c / h + (q + 1)))) ∧ (c + h - 1) / h = if r = 0 then q else q + 1 := by
  refine ⟨?_, by rw [tickG h0 c0, hq, hr]⟩
  have s := (split_more (n := a) (t := 1) (c := c) h0).1
  have l := Nat.mod_lt (a * c) h0
  have d := Nat.div_add_mod c h
  have rl := Nat.mod_lt c h0
  rw [hq, hr] at d
  rw [hr] at rl
  rw [Nat.one_mul] at s
  rw [s]
  by_cases z : r = 0
  · refine .inl ⟨z, ?_⟩
    have m : a * c % h = 0 := by
      rw [Nat.mul_mod, hr, z, Nat.mul_zero, Nat.zero_mod]
    rw [m, Nat.add_zero, hq]
  · refine .inr ⟨z, ?_⟩
    generalize a * c % h = e at *
    by_cases f : r + e < h
    · left
      rw [show c + e = (r + e) + h * q by omega, Nat.add_mul_div_left _ _ h0, Nat.div_eq_of_lt f, Nat.zero_add]
    · right
      rw [show c + e = (r + e - h) + h * (q + 1) by rw [Nat.mul_add]; omega, Nat.add_mul_div_left _ _ h0, Nat.div_eq_of_lt (show r + e - h < h by omega), Nat.zero_add]

theorem tot_small {h n : Nat} (hn : n ≤ 3000000000) : totT h n = n * 1000000000 / h := by
  unfold totT totG
  have : n * 1000000000 / h ≤ n * 1000000000 := Nat.div_le_self _ _
  exact Nat.min_eq_left (by omega)

set_option maxHeartbeats 4000000 in
theorem ticks10_core (w : World) (H A m h a t o q r b : Nat) (hH : H < 18446744073709551616) (hA : A < 18446744073709551616) (hm : H % 1000000000000 = m) (hh : 1 + m = h) (ha : A % 1073741824 = a) (hq : 1000000000 / h = q) (hr : 1000000000 % h = r)
    (ht : tickN h = t) (h0 : 0 < h) (h1 : h ≤ 1000000000000) (hb : totT h a = b) (ho : totT h (a + 1) = b + o) (tl : t ≤ 1000000000)
    (cs : (r = 0 ∧ t = q ∧ o = q) ∨ (0 < r ∧ t = q + 1 ∧ o = t) ∨ (0 < r ∧ t = q + 1 ∧ o = q)) :
    Calls Try.prog 6 #[.int .u64 (H : Nat), .int .u64 (A : Nat)] w fun e w' => e = .returned (.bool true) ∧ Below w.heap.size w w' := by
  have N := Lib.hid (pnew10_ok w h h0 h1)
  have ab : a < 1073741824 := by omega
  have T1 := Lib.hid (fun w' N c => pto10_any w' N h 0 a a b c h0 h1 (by omega) (Nat.zero_add _) (by rw [tot_zero, hb, Nat.zero_add]))
  have T2 : Hid (∀ w' N, Sc w' N h a → Calls Try.prog 14 #[.pointer (some ⟨N, 0, none⟩), .int .u64 1] w' (ToP10 w' N h (a + 1) o)) := fun w' N c => pto10_any w' N h a 1 (a + 1) o c h0 h1 (by decide) rfl (by rw [hb, ho])
  have TK := Lib.hid (fun w' N c => pstick10_any w' N h a c h0)
  have TF := Lib.hid (fun w' => ptick10_any w' h)
  rw [ht] at TK TF
  have AL := Lib.hid alive10_any
  have e1 : (H : Int) % 1000000000000 = (m : Int) := by omega
  have e2 : (H : Int).tmod 1000000000000 = (m : Int) := by rw [Int.tmod_eq_emod_of_nonneg (by omega)]; exact e1
  have e3 : 1 + (m : Int) = (h : Int) := by omega
  have e4 : IntKind.u64.wrap (h : Int) = (h : Int) := by rw [IntKind.wrap_u64]; omega
  have e5 : (A : Int) % 1073741824 = (a : Int) := by omega
  have e6 : (A : Int).tmod 1073741824 = (a : Int) := by rw [Int.tmod_eq_emod_of_nonneg (by omega)]; exact e5
  have e7 : IntKind.i64.wrap (h : Int) = (h : Int) := by rw [IntKind.wrap_i64]; omega
  have n1 : ((h : Int) == 0) = false := by rw [beq_eq_false_iff_ne]; omega
  have n2 : ¬ (h : Int) = 0 := by omega
  have n3 : ¬ h = 0 := by omega
  have n4 : ¬ (h : Int) = -1 := by omega
  have n5 : ((h : Int) == -1) = false := by rw [beq_eq_false_iff_ne]; omega
  have ql : q ≤ 1000000000 := by rw [← hq]; exact Nat.div_le_self _ _
  have d1 : (1000000000 : Int) / (h : Int) = (q : Int) := by rw [← hq]; simp
  have d2 : (1000000000 : Int).tdiv (h : Int) = (q : Int) := by rw [Int.tdiv_eq_ediv_of_nonneg (by omega)]; exact d1
  have d3 : (1000000000 : Int) % (h : Int) = (r : Int) := by rw [← hr]; simp
  have d4 : (1000000000 : Int).tmod (h : Int) = (r : Int) := by rw [Int.tmod_eq_emod_of_nonneg (by omega)]; exact d3
  have wq : IntKind.i64.wrap (q : Int) = (q : Int) := by rw [IntKind.wrap_i64]; omega
  have wr : IntKind.i64.wrap (r : Int) = (r : Int) := by
    have : r < h := by rw [← hr]; exact Nat.mod_lt _ h0
    rw [IntKind.wrap_i64]; omega
  have wt : IntKind.i64.wrap (t : Int) = (t : Int) := by rw [IntKind.wrap_i64]; omega
  clear hH hA hm hh ha ht h0 h1 hb ho tl ab hq hr ql
  rcases cs with ⟨rfl, rfl, rfl⟩ | ⟨rp, tq, rfl⟩ | ⟨rp, tq, rfl⟩
  · have tt : ((o : Int) == (o : Int)) = true := beq_self_eq_true _
    go_enter Try.func6, Try.ntmps6
    go_wp2_with fail
    refine N.out.mono ?_; rintro e w1 ⟨N1, rfl, c1, hN, l1⟩
    have C1 := Lib.hid c1
    have HN := Lib.hid hN
    have L1 := Lib.hid l1
    clear c1 hN l1
    go_wp2_with fail
    refine (T1.out w1 N1 C1.out).mono ?_; rintro e w2 ⟨rfl, c2, t2⟩
    have C2 := Lib.hid c2
    have L2 := Lib.hid (t2.below L1.out HN.out)
    clear c2 t2 C1 L1
    go_wp2_with fail
    refine (TK.out w2 N1 C2.out).mono ?_; rintro e w3 ⟨rfl, rfl⟩
    go_wp2_with fail
    refine (T2.out w3 N1 C2.out).mono ?_; rintro e w4 ⟨rfl, c4, t4⟩
    have L4 := Lib.hid (t4.below L2.out HN.out)
    clear c4 t4 C2 L2
    go_wp2_with fail
    refine (TF.out w4).mono ?_; rintro e w5 ⟨rfl, rfl⟩
    go_wp2_with fail
    refine (AL.out w5).mono ?_; rintro e w6 ⟨rfl, l6⟩
    have L6 := Lib.hid (L4.out.trans (l6.mono L4.out.size))
    go_wp2
    go_ret
    exact ⟨rfl, L6.out⟩
  · have tt : ((o : Int) == (o : Int)) = true := beq_self_eq_true _
    have u1 : ((o : Int) == (q : Int)) = false := by rw [beq_eq_false_iff_ne]; omega
    have u2 : (q : Int) + 1 = (o : Int) := by omega
    have u3 : ((r : Int) == 0) = false := by rw [beq_eq_false_iff_ne]; omega
    clear rp tq
    go_enter Try.func6, Try.ntmps6
    go_wp2_with fail
    refine N.out.mono ?_; rintro e w1 ⟨N1, rfl, c1, hN, l1⟩
    have C1 := Lib.hid c1
    have HN := Lib.hid hN
    have L1 := Lib.hid l1
    clear c1 hN l1
    go_wp2_with fail
    refine (T1.out w1 N1 C1.out).mono ?_; rintro e w2 ⟨rfl, c2, t2⟩
    have C2 := Lib.hid c2
    have L2 := Lib.hid (t2.below L1.out HN.out)
    clear c2 t2 C1 L1
    go_wp2_with fail
    refine (TK.out w2 N1 C2.out).mono ?_; rintro e w3 ⟨rfl, rfl⟩
    go_wp2_with fail
    refine (T2.out w3 N1 C2.out).mono ?_; rintro e w4 ⟨rfl, c4, t4⟩
    have L4 := Lib.hid (t4.below L2.out HN.out)
    clear c4 t4 C2 L2
    go_wp2_with fail
    refine (TF.out w4).mono ?_; rintro e w5 ⟨rfl, rfl⟩
    go_wp2_with fail
    refine (AL.out w5).mono ?_; rintro e w6 ⟨rfl, l6⟩
    have L6 := Lib.hid (L4.out.trans (l6.mono L4.out.size))
    go_wp2
    go_ret
    exact ⟨rfl, L6.out⟩
  · have tt : ((t : Int) == (t : Int)) = true := beq_self_eq_true _
    have u1 : ((t : Int) == (o : Int)) = false := by rw [beq_eq_false_iff_ne]; omega
    have u4 : ((o : Int) == (t : Int)) = false := by rw [beq_eq_false_iff_ne]; omega
    have u2 : (o : Int) + 1 = (t : Int) := by omega
    have u5 : (t : Int) - 1 = (o : Int) := by omega
    have u3 : ((r : Int) == 0) = false := by rw [beq_eq_false_iff_ne]; omega
    clear rp tq
    go_enter Try.func6, Try.ntmps6
    go_wp2_with fail
    refine N.out.mono ?_; rintro e w1 ⟨N1, rfl, c1, hN, l1⟩
    have C1 := Lib.hid c1
    have HN := Lib.hid hN
    have L1 := Lib.hid l1
    clear c1 hN l1
    go_wp2_with fail
    refine (T1.out w1 N1 C1.out).mono ?_; rintro e w2 ⟨rfl, c2, t2⟩
    have C2 := Lib.hid c2
    have L2 := Lib.hid (t2.below L1.out HN.out)
    clear c2 t2 C1 L1
    go_wp2_with fail
    refine (TK.out w2 N1 C2.out).mono ?_; rintro e w3 ⟨rfl, rfl⟩
    go_wp2_with fail
    refine (T2.out w3 N1 C2.out).mono ?_; rintro e w4 ⟨rfl, c4, t4⟩
    have L4 := Lib.hid (t4.below L2.out HN.out)
    clear c4 t4 C2 L2
    go_wp2_with fail
    refine (TF.out w4).mono ?_; rintro e w5 ⟨rfl, rfl⟩
    go_wp2_with fail
    refine (AL.out w5).mono ?_; rintro e w6 ⟨rfl, l6⟩
    have L6 := Lib.hid (L4.out.trans (l6.mono L4.out.size))
    go_wp2
    go_ret
    exact ⟨rfl, L6.out⟩

theorem ticks10_walk (w : World) (H A : Nat) (hH : H < 18446744073709551616) (hA : A < 18446744073709551616) :
    Calls Try.prog 6 #[.int .u64 (H : Nat), .int .u64 (A : Nat)] w fun e w' => e = .returned (.bool true) ∧ Below w.heap.size w w' := by
  obtain ⟨h, hh⟩ : ∃ h, 1 + H % 1000000000000 = h := ⟨_, rfl⟩
  obtain ⟨a, ha⟩ : ∃ a, A % 1073741824 = a := ⟨_, rfl⟩
  obtain ⟨q, hq⟩ : ∃ q, 1000000000 / h = q := ⟨_, rfl⟩
  obtain ⟨r, hr⟩ : ∃ r, 1000000000 % h = r := ⟨_, rfl⟩
  have h0 : 0 < h := by omega
  have h1 : h ≤ 1000000000000 := by omega
  have st := stepG (a := a) h0 (show 0 < 1000000000 by decide) hq hr
  have e1 := tot_small (h := h) (n := a) (by omega)
  have e2 := tot_small (h := h) (n := a + 1) (by omega)
  have tn : tickN h = tickT h := if_pos ⟨h0, h1⟩
  have te : tickT h = if r = 0 then q else q + 1 := st.2
  have tl := tick_le h0
  rw [← tn] at te tl
  rw [← e1, ← e2] at st
  have mo := tot_mono (h := h) (show a ≤ a + 1 by omega)
  refine ticks10_core w H A _ h a (tickN h) (totT h (a + 1) - totT h a) q r _ hH hA rfl hh ha hq hr rfl h0 h1 rfl (by omega) tl ?_
  rcases st.1 with ⟨z, s⟩ | ⟨z, s | s⟩
  · rw [if_pos z] at te
    exact .inl ⟨z, te, by omega⟩
  · rw [if_neg z] at te
    exact .inr (.inr ⟨by omega, te, by omega⟩)
  · rw [if_neg z] at te
    exact .inr (.inl ⟨by omega, te, by omega⟩)
end Go.Proofs.Ytccfimempjbnfaa
