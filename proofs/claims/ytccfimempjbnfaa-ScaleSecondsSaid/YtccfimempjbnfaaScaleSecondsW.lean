/- ScaleSeconds: the walk. -/
import Derived.Test.YtccfimempjbnfaaScaleD
set_option maxRecDepth 100000
namespace Go.Proofs.Ytccfimempjbnfaa
open Go.ChangeShapes Go.WideShapes Go.ChangeAt Go.RowKit ScaleM

theorem whole_more {h k n : Nat} (h0 : 0 < h) (hk : k ≤ 3000000000) (hn : n ≤ 1000000) : totT h (k + h * n) = totT h k + n * 1000000000 := by
  have e : (k + h * n) * 1000000000 / h = k * 1000000000 / h + n * 1000000000 := by
    have : (k + h * n) * 1000000000 = k * 1000000000 + h * (n * 1000000000) := by rw [Nat.add_mul, Nat.mul_assoc]
    rw [this, Nat.add_mul_div_left _ _ h0]
  have l : k * 1000000000 / h ≤ k * 1000000000 := Nat.div_le_self _ _
  unfold totT totG
  rw [e, Nat.min_eq_left (by omega), Nat.min_eq_left (by omega)]

set_option maxHeartbeats 4000000 in
theorem seconds10_core (w : World) (H S A B m h n a b p s v g z y : Nat) (hH : H < 18446744073709551616) (hS : S < 4294967296) (hA : A < 18446744073709551616) (hB : B < 18446744073709551616) (hm : H % 1000000000000 = m) (hh : 1 + m = h) (hn : S % 1000000 = n)
    (ha : A % 1073741824 = a) (hb : B % 1073741824 = b) (hg : h * n = g) (hz : n * 1000000000 = z) (hp : totT h a = p) (hs : totT h (a + b) = s) (hv : p + v = s) (hy : s + z = y) :
    Calls Try.prog 5 #[.int .u64 (H : Nat), .int .u32 (S : Nat), .int .u64 (A : Nat), .int .u64 (B : Nat)] w fun e w' => e = .returned (.bool true) ∧ Below w.heap.size w w' := by
  have h0 : 0 < h := by omega
  have h1 : h ≤ 1000000000000 := by omega
  have ab : a < 1073741824 := by omega
  have bb : b < 1073741824 := by omega
  have nb : n < 1000000 := by omega
  have gb : g ≤ 1000000000000 * 1000000 := by rw [← hg]; exact Nat.mul_le_mul h1 (by omega)
  have k1 := whole_more (h := h) (k := a) (n := n) h0 (by omega) (by omega)
  have k2 := whole_more (h := h) (k := a + b) (n := n) h0 (by omega) (by omega)
  rw [hg, hp, hz] at k1
  rw [hg, hs, hz, show a + b + g = a + g + b by omega] at k2
  have N := Lib.hid (fun w => pnew10_ok w h h0 h1)
  have T1 : Hid (∀ w' N, Sc w' N h 0 → Calls Try.prog 14 #[.pointer (some ⟨N, 0, none⟩), .int .u64 (a : Nat)] w' (ToP10 w' N h a p)) := fun w' N c => pto10_any w' N h 0 a a p c h0 h1 (by omega) (Nat.zero_add _) (by rw [tot_zero, hp, Nat.zero_add])
  have T2 : Hid (∀ w' N, Sc w' N h a → Calls Try.prog 14 #[.pointer (some ⟨N, 0, none⟩), .int .u64 (g : Nat)] w' (ToP10 w' N h (a + g) z)) := fun w' N c => pto10_any w' N h a g (a + g) z c h0 h1 (by omega) rfl (by rw [hp, k1])
  have T3 : Hid (∀ w' N, Sc w' N h (a + g) → Calls Try.prog 14 #[.pointer (some ⟨N, 0, none⟩), .int .u64 (b : Nat)] w' (ToP10 w' N h (a + g + b) v)) := fun w' N c => pto10_any w' N h (a + g) b (a + g + b) v c h0 h1 (by omega) rfl (by rw [k1, k2]; omega)
  have T4 : Hid (∀ w' N, Sc w' N h a → Calls Try.prog 14 #[.pointer (some ⟨N, 0, none⟩), .int .u64 (b : Nat)] w' (ToP10 w' N h (a + b) v)) := fun w' N c => pto10_any w' N h a b (a + b) v c h0 h1 (by omega) rfl (by rw [hp, hs, hv])
  have Q1 : Hid (∀ w' N, Sc w' N h (a + g + b) → Calls Try.prog 16 #[.pointer (some ⟨N, 0, none⟩)] w' fun r w'' => r = .returned (.int .i64 (y : Nat)) ∧ w'' = w') := fun w' N c => by
    have t := ptotal10_any w' N h (a + g + b) c h0
    rwa [k2, hy] at t
  have Q2 : Hid (∀ w' N, Sc w' N h (a + b) → Calls Try.prog 16 #[.pointer (some ⟨N, 0, none⟩)] w' fun r w'' => r = .returned (.int .i64 (s : Nat)) ∧ w'' = w') := fun w' N c => by
    have t := ptotal10_any w' N h (a + b) c h0
    rwa [hs] at t
  have sb : s ≤ 4611686018427387904 := by rw [← hs]; exact tot_le _ _
  have AL := Lib.hid alive10_any
  have e1 : (H : Int) % 1000000000000 = (m : Int) := by omega
  have e2 : (H : Int).tmod 1000000000000 = (m : Int) := by rw [Int.tmod_eq_emod_of_nonneg (by omega)]; exact e1
  have e3 : 1 + (m : Int) = (h : Int) := by omega
  have e4 : IntKind.u64.wrap (h : Int) = (h : Int) := by rw [IntKind.wrap_u64]; omega
  have e5 : (A : Int) % 1073741824 = (a : Int) := by omega
  have e6 : (A : Int).tmod 1073741824 = (a : Int) := by rw [Int.tmod_eq_emod_of_nonneg (by omega)]; exact e5
  have e7 : (B : Int) % 1073741824 = (b : Int) := by omega
  have e8 : (B : Int).tmod 1073741824 = (b : Int) := by rw [Int.tmod_eq_emod_of_nonneg (by omega)]; exact e7
  have e9 : (S : Int) % 1000000 = (n : Int) := by omega
  have ea : (S : Int).tmod 1000000 = (n : Int) := by rw [Int.tmod_eq_emod_of_nonneg (by omega)]; exact e9
  have eb : IntKind.i64.wrap (n : Int) = (n : Int) := by rw [IntKind.wrap_i64]; omega
  have ec : IntKind.u64.wrap (n : Int) = (n : Int) := by rw [IntKind.wrap_u64]; omega
  have ed : (h : Int) * (n : Int) = (g : Int) := by rw [← hg]; simp
  have ee : IntKind.u64.wrap (g : Int) = (g : Int) := by rw [IntKind.wrap_u64]; omega
  have ef : (n : Int) * 1000000000 = (z : Int) := by omega
  have eg : IntKind.i64.wrap (z : Int) = (z : Int) := by rw [IntKind.wrap_i64]; omega
  have eh : (s : Int) + (z : Int) = (y : Int) := by omega
  have ei : IntKind.i64.wrap (y : Int) = (y : Int) := by rw [IntKind.wrap_i64]; omega
  have i1 : ((z : Int) == (z : Int)) = true := beq_self_eq_true _
  have i2 : ((p : Int) == (p : Int)) = true := beq_self_eq_true _
  have i3 : ((v : Int) == (v : Int)) = true := beq_self_eq_true _
  have i4 : ((y : Int) == (y : Int)) = true := beq_self_eq_true _
  clear hH hS hA hB hm hh hn ha hb hg hz hp hs hv hy h0 h1 ab bb nb gb k1 k2 sb
  go_enter Try.func5, Try.ntmps5
  go_wp2_with fail
  refine (N.out w).mono ?_; rintro e w1 ⟨N1, rfl, c1, h1, l1⟩
  have C1 := Lib.hid c1
  have H1 := Lib.hid h1
  have L1 := Lib.hid l1
  clear c1 h1 l1
  go_wp2_with fail
  refine (N.out w1).mono ?_; rintro e w2 ⟨N2, rfl, c2, h2, l2⟩
  have C2 := Lib.hid (C1.out.below l2)
  have D2 := Lib.hid c2
  have H2 : Hid (w.heap.size ≤ N2) := Nat.le_trans L1.out.size h2
  have NE : Hid (N1 ≠ N2) := by unfold Hid; have := C1.out.lt; omega
  have L2 := Lib.hid (L1.out.trans (l2.mono L1.out.size))
  clear c2 h2 l2 C1 L1
  go_wp2_with fail
  refine (T1.out w2 N1 C2.out).mono ?_; rintro e w3 ⟨rfl, c3, t3⟩
  have C3 := Lib.hid c3
  have D3 := Lib.hid (t3.sc D2.out (fun h => NE.out h.symm))
  have L3 := Lib.hid (t3.below L2.out H1.out)
  clear c3 t3 C2 D2 L2
  go_wp2_with fail
  refine (T2.out w3 N1 C3.out).mono ?_; rintro e w4 ⟨rfl, c4, t4⟩
  have C4 := Lib.hid c4
  have D4 := Lib.hid (t4.sc D3.out (fun h => NE.out h.symm))
  have L4 := Lib.hid (t4.below L3.out H1.out)
  clear c4 t4 C3 D3 L3
  go_wp2_with fail
  refine (T3.out w4 N1 C4.out).mono ?_; rintro e w5 ⟨rfl, c5, t5⟩
  have C5 := Lib.hid c5
  have D5 := Lib.hid (t5.sc D4.out (fun h => NE.out h.symm))
  have L5 := Lib.hid (t5.below L4.out H1.out)
  clear c5 t5 C4 D4 L4
  go_wp2_with fail
  refine (T1.out w5 N2 D5.out).mono ?_; rintro e w6 ⟨rfl, c6, t6⟩
  have D6 := Lib.hid c6
  have C6 := Lib.hid (t6.sc C5.out NE.out)
  have L6 := Lib.hid (t6.below L5.out H2.out)
  clear c6 t6 C5 D5 L5
  go_wp2_with fail
  refine (T4.out w6 N2 D6.out).mono ?_; rintro e w7 ⟨rfl, c7, t7⟩
  have D7 := Lib.hid c7
  have C7 := Lib.hid (t7.sc C6.out NE.out)
  have L7 := Lib.hid (t7.below L6.out H2.out)
  clear c7 t7 C6 D6 L6
  go_wp2_with fail
  refine (Q1.out w7 N1 C7.out).mono ?_; rintro e w8 ⟨rfl, rfl⟩
  go_wp2_with fail
  refine (Q2.out w8 N2 D7.out).mono ?_; rintro e w9 ⟨rfl, rfl⟩
  go_wp2_with fail
  refine (AL.out w9).mono ?_; rintro e w10 ⟨rfl, l10⟩
  have L10 := Lib.hid (L7.out.trans (l10.mono L7.out.size))
  go_wp2
  go_ret
  exact ⟨rfl, L10.out⟩

theorem seconds10_walk (w : World) (H S A B : Nat) (hH : H < 18446744073709551616) (hS : S < 4294967296) (hA : A < 18446744073709551616) (hB : B < 18446744073709551616) :
    Calls Try.prog 5 #[.int .u64 (H : Nat), .int .u32 (S : Nat), .int .u64 (A : Nat), .int .u64 (B : Nat)] w fun e w' => e = .returned (.bool true) ∧ Below w.heap.size w w' := by
  have mo := tot_mono (h := 1 + H % 1000000000000) (show A % 1073741824 ≤ A % 1073741824 + B % 1073741824 by omega)
  exact seconds10_core w H S A B _ _ _ _ _ _ _ (totT (1 + H % 1000000000000) (A % 1073741824 + B % 1073741824) - totT (1 + H % 1000000000000) (A % 1073741824)) _ _ _ hH hS hA hB rfl rfl rfl rfl rfl rfl rfl rfl rfl (by omega) rfl
end Go.Proofs.Ytccfimempjbnfaa
