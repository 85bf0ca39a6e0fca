/- Contracts of the document's own answers for layer 2 (stamp): a stamp's time, a date's. -/
import Derived.Test.YtdaioclpkkpheaaStampR
import Derived.Deep.DeepCutAuto
namespace Go.Proofs.Ytdaioclpkkpheaa
open Go.ChangeShapes Go.WideShapes Go.ChangeAt Go.RowKit StampM

theorem ref_away_at (x p : Int) (d : Nat) (h1 : -8589934592000000000 ≤ x) (h2 : x ≤ 8589934592000000000) (g1 : 0 ≤ p) (g2 : p ≤ 4611686018427387904) (hd : Hid (far x p = d)) (w : World) :
    Calls Try.prog 24 #[.int .i64 x, .int .i64 p] w fun e w' => e = .returned (.int .u64 d) ∧ w = w' := ref_away x p d h1 h2 g1 g2 hd.out w

theorem far_nat (x p : Int) : ∃ d : Nat, far x p = d := by
  refine ⟨(far x p).toNat, ?_⟩
  unfold far
  split <;> omega

set_option maxHeartbeats 1600000 in
theorem ref_stampns_in (u : Nat) (hu : u < 18446744073709551616) (P W : Int) (hi lo md : Nat) (z d0 d1 d2 e1 : Nat) (B1 B2 Y0 Y1 Y3 : Int) (X0 : W - 8589934592000000000 = Y0) (X1 : Y0 + 4294967296000000000 = Y1) (X2 : Y1 + 4294967296000000000 = W) (X3 : W + 4294967296000000000 = Y3) (V : Int) (P0 M : Int) (cm : (P0 < 0 ∧ M = 0) ∨ (0 ≤ P0 ∧ M = P0)) (cp : (4611686018427387904 < M ∧ P = 4611686018427387904) ∨ (M ≤ 4611686018427387904 ∧ P = M))
    (E1 : (u : Int) / 4294967296 = (hi : Int)) (E2 : (u : Int) % 4294967296 = (lo : Int)) (E3 : (lo : Int) * 1000000000 / 4294967296 = md) (E4 : (hi : Int) * 1000000000 + md = W) (b1 : hi < 4294967296) (b3 : md < 1000000000) (W1 : W < 4294967296000000000) (W0 : 0 ≤ W)
    (g1 : 0 ≤ P) (g2 : P ≤ 4611686018427387904) (Z : Hid (far (Y0) P = z)) (D0 : Hid (far (Y1) P = d0)) (D1 : Hid (far W P = d1)) (D2 : Hid (far Y3 P = d2)) (D3 : Hid (far B1 P = e1))
    (cz : Hid (d0 < z)) (cs1 : Hid ((d1 < d0 ∧ B1 = W) ∨ (d0 ≤ d1 ∧ B1 = Y1))) (cs2 : Hid ((d2 < e1 ∧ B2 = Y3) ∨ (e1 ≤ d2 ∧ B2 = B1)))
    (B1a : -4294967296000000000 ≤ B1) (B1b : B1 ≤ 4294967296000000000) (fin : Hid (B2 = V)) (w : World) :
    Calls Try.prog 15 #[.int .u64 u, .int .i64 P0] w fun e w' => e = .returned (.int .i64 V) ∧ w = w' := by
  go_enter Try.func15, Try.ntmps15
  go_upto_if 9 with fail
  go_cut [1] (fun q wx => q = .int .i64 M ∧ w = wx)
  case first =>
    rcases cm with ⟨c1, rfl⟩ | ⟨c1, rfl⟩
    · go_wp2
      go_meet
      exact ⟨rfl, rfl⟩
    · go_wp2
      go_meet
      exact ⟨rfl, rfl⟩
  case rest =>
  obtain ⟨rfl, rfl⟩ := hcut
  go_upto_if 11 with fail
  go_cut [1] (fun q wx => q = .int .i64 P ∧ w = wx)
  case first =>
    rcases cp with ⟨c1, rfl⟩ | ⟨c1, rfl⟩
    · go_wp2
      go_meet
      exact ⟨rfl, rfl⟩
    · go_wp2
      go_meet
      exact ⟨rfl, rfl⟩
  case rest =>
  obtain ⟨rfl, rfl⟩ := hcut
  go_wp2_with fail
  simp only [E2, E3]
  go_loop [5, 6, 7] (fun n b k => (k = .int .i64 0 ∧ n = .int .i64 (Y0) ∧ b = .int .i64 (Y0)) ∨ (k = .int .i64 1 ∧ n = .int .i64 (Y1) ∧ b = .int .i64 (Y1)) ∨ (k = .int .i64 2 ∧ n = .int .i64 W ∧ b = .int .i64 B1) ∨ (k = .int .i64 3 ∧ n = .int .i64 Y3 ∧ b = .int .i64 B2)) (fun _ _ k => (3 - intOf k).toNat)
  case atStart => exact .inl ⟨rfl, rfl, rfl⟩
  case round =>
    rcases hrel with ⟨rfl, rfl, rfl⟩ | ⟨rfl, rfl, rfl⟩ | ⟨rfl, rfl, rfl⟩ | ⟨rfl, rfl, rfl⟩
    · have cz1 := cz.out
      have cz2 : decide ((d0 : Int) < (z : Int)) = true := by simp; omega
      have cz3 : decide (d0 < z) = true := by simp; omega
      have cz4 : d0 < z := cz1
      clear cz1
      go_wp2_with fail
      refine (ref_away_at _ P d0 (by omega) (by omega) g1 g2 D0 _).mono ?_
      rintro x w' ⟨rfl, rfl⟩
      go_wp2_with fail
      refine (ref_away_at _ P z (by omega) (by omega) g1 g2 Z _).mono ?_
      rintro x w' ⟨rfl, rfl⟩
      go_wp2
      go_round
      case rel => exact .inr (.inl ⟨rfl, rfl, rfl⟩)
      case measure => simp [intOf]
    · rcases cs1.out with ⟨c, rfl⟩ | ⟨c, rfl⟩
      · have c2 : decide ((d1 : Int) < (d0 : Int)) = true := by simp; omega
        have c3 : decide (d1 < d0) = true := by simp; omega
        have c4 : d1 < d0 := by omega
        clear c
        go_wp2_with fail
        refine (ref_away_at _ P d1 (by omega) (by omega) g1 g2 D1 _).mono ?_
        rintro x w' ⟨rfl, rfl⟩
        go_wp2_with fail
        refine (ref_away_at _ P d0 (by omega) (by omega) g1 g2 D0 _).mono ?_
        rintro x w' ⟨rfl, rfl⟩
        go_wp2
        go_round
        case rel => exact .inr (.inr (.inl ⟨rfl, rfl, rfl⟩))
        case measure => simp [intOf]
      · have c2 : decide ((d1 : Int) < (d0 : Int)) = false := by simp; omega
        have c3 : decide (d1 < d0) = false := by simp; omega
        have c4 : d0 ≤ d1 := by omega
        clear c
        go_wp2_with fail
        refine (ref_away_at _ P d1 (by omega) (by omega) g1 g2 D1 _).mono ?_
        rintro x w' ⟨rfl, rfl⟩
        go_wp2_with fail
        refine (ref_away_at _ P d0 (by omega) (by omega) g1 g2 D0 _).mono ?_
        rintro x w' ⟨rfl, rfl⟩
        go_wp2
        go_round
        case rel => exact .inr (.inr (.inl ⟨rfl, rfl, rfl⟩))
        case measure => simp [intOf]
    · rcases cs2.out with ⟨c, rfl⟩ | ⟨c, rfl⟩
      · have c2 : decide ((d2 : Int) < (e1 : Int)) = true := by simp; omega
        have c3 : decide (d2 < e1) = true := by simp; omega
        have c4 : d2 < e1 := by omega
        clear c
        go_wp2_with fail
        refine (ref_away_at _ P d2 (by omega) (by omega) g1 g2 D2 _).mono ?_
        rintro x w' ⟨rfl, rfl⟩
        go_wp2_with fail
        refine (ref_away_at _ P e1 (by omega) (by omega) g1 g2 D3 _).mono ?_
        rintro x w' ⟨rfl, rfl⟩
        go_wp2
        go_round
        case rel => exact .inr (.inr (.inr ⟨rfl, rfl, rfl⟩))
        case measure => simp [intOf]
      · have c2 : decide ((d2 : Int) < (e1 : Int)) = false := by simp; omega
        have c3 : decide (d2 < e1) = false := by simp; omega
        have c4 : e1 ≤ d2 := by omega
        clear c
        go_wp2_with fail
        refine (ref_away_at _ P d2 (by omega) (by omega) g1 g2 D2 _).mono ?_
        rintro x w' ⟨rfl, rfl⟩
        go_wp2_with fail
        refine (ref_away_at _ P e1 (by omega) (by omega) g1 g2 D3 _).mono ?_
        rintro x w' ⟨rfl, rfl⟩
        go_wp2
        go_round
        case rel => exact .inr (.inr (.inr ⟨rfl, rfl, rfl⟩))
        case measure => simp [intOf]
    · go_wp2
      go_ret
      exact ⟨ret_int fin.out, rfl⟩

theorem ref_stampns_any (u : Nat) (hu : u < 18446744073709551616) (p : Int) (w : World) :
    Calls Try.prog 15 #[.int .u64 u, .int .i64 p] w fun e w' => e = .returned (.int .i64 (stampNsN u p)) ∧ w = w' := by
  obtain ⟨P, hP⟩ : ∃ P, P = inP p := ⟨_, rfl⟩
  obtain ⟨hi, lo, md, W, -, -, E1, E2, E3, E4, hW, b1, b2, b3, b4⟩ := within_parts u hu
  have g1 : 0 ≤ P := by rw [hP]; exact (inP_in p).1
  have g2 : P ≤ 4611686018427387904 := by rw [hP]; exact (inP_in p).2
  obtain ⟨d0, d1, d2, B1, e1, B2, D0, D1, D2, D3, cs1, cs2, hB⟩ := three W P
  have B1b : -4294967296000000000 ≤ B1 ∧ B1 ≤ 4294967296000000000 := by omega
  obtain ⟨z, Z⟩ := far_nat ((W : Int) + -8589934592000000000) P
  obtain ⟨n0, N0⟩ := far_nat ((W : Int) + -4294967296000000000) P
  obtain ⟨n1, N1⟩ := far_nat W P
  obtain ⟨n2, N2⟩ := far_nat ((W : Int) + 4294967296000000000) P
  obtain ⟨n3, N3⟩ := far_nat B1 P
  have cz := far_back W P (by omega) g1
  rw [N0, Z] at cz
  rw [D0] at N0
  rw [D1] at N1
  rw [D2] at N2
  rw [D3] at N3
  subst N0 N1 N2 N3
  have hV : B2 = stampNsN u p := by unfold stampNsN; rw [hB, ← hP, ← hW]
  obtain ⟨M, hM⟩ : ∃ M : Int, M = if p < 0 then 0 else p := ⟨_, rfl⟩
  have cm : (p < 0 ∧ M = 0) ∨ (0 ≤ p ∧ M = p) := by
    rw [hM]; split <;> omega
  have cp : (4611686018427387904 < M ∧ P = 4611686018427387904) ∨ (M ≤ 4611686018427387904 ∧ P = M) := by
    rw [hP]
    unfold inP
    rcases cm with ⟨c, d⟩ | ⟨c, d⟩
    · rw [if_pos c]; omega
    · rw [if_neg (by omega)]; split <;> omega
  exact ref_stampns_in u hu P W hi lo md z n0 n1 n2 n3 B1 B2 ((W : Int) + -8589934592000000000) ((W : Int) + -4294967296000000000) ((W : Int) + 4294967296000000000) (by omega) (by omega) (by omega) rfl _ p M cm cp E1 E2 E3 E4 b1 b3 (by omega) (by omega) g1 g2
    Z D0 D1 D2 D3 (by unfold Hid; omega) (by unfold Hid; omega) (by unfold Hid; omega) B1b.1 B1b.2 hV w

theorem ref_dates_eqs (era : Int) (off frac : Nat) (he : -2147483648 ≤ era ∧ era ≤ 2147483647) (h1 : off < 4294967296) (h2 : frac < 18446744073709551616) :
    ∃ (s : Int) (l lw md h n : Nat), era * 4294967296 + off = s ∧ (frac : Int) % 4294967296 = (l : Int) ∧ (l : Int) * 1000000000 / 4294967296 = (lw : Int) ∧ (frac : Int) / 4294967296 = (h : Int) ∧ (h : Int) * 1000000000 + lw = (md : Int) ∧ (md : Int) / 4294967296 = (n : Int) ∧ l < 4294967296 ∧ lw < 1000000000 ∧ h < 4294967296 ∧ md < 18446744073709551616 ∧ n < 1000000000 ∧ dateI era off frac = s * 1000000000 + n ∧ -9223372036854775808 ≤ s ∧ s < 9223372036854775808 := by
  have wh := whole_halves frac
  have wl := whole_lt frac h2
  refine ⟨_, frac % 4294967296, frac % 4294967296 * 1000000000 / 4294967296, frac / 4294967296 * 1000000000 + frac % 4294967296 * 1000000000 / 4294967296, frac / 4294967296, wholeN frac, rfl, by omega, by omega, by omega, by omega, by omega, by omega, by omega, by omega, by omega, wl, rfl, by omega, by omega⟩

set_option maxHeartbeats 800000 in
theorem ref_datens_any (era : Int) (off frac : Nat) (he : -2147483648 ≤ era ∧ era ≤ 2147483647) (h1 : off < 4294967296) (h2 : frac < 18446744073709551616) (w : World) :
    Calls Try.prog 9 #[.agg #[.int .i32 era, .int .u32 off, .int .u64 frac]] w fun e w' => e = .returned (.tuple #[.int .i64 (dateN era off frac), .int .i64 (dateE era off frac)]) ∧ Out w w' := by
  obtain ⟨s, l, lw, md, h, n, S, L, LW, H, MD, N, b1, b2, b3, b4, b5, D, s1, s2⟩ := ref_dates_eqs era off frac he h1 h2
  obtain ⟨x, hx⟩ : ∃ x, x = dateI era off frac := ⟨_, rfl⟩
  unfold dateN dateE
  rw [← hx]
  rw [← hx] at D
  replace hx := Lib.hid hx
  obtain ⟨e1, e2⟩ := he
  by_cases c : fits x
  · rw [if_pos c, if_pos c]
    obtain ⟨f1, f2⟩ := c
    have c1 : -4611686019 ≤ s := by omega
    have c2 : s ≤ 4611686018 := by omega
    have f1' : -4611686018427387904 ≤ s * 1000000000 + n := by omega
    have f2' : s * 1000000000 + n ≤ 4611686018427387904 := by omega
    replace D := Lib.hid D
    clear f1 f2 s1 s2
    go_enter Try.func9, Try.ntmps9
    go_wp2
    go_ret2
    exact ⟨ret_pair D.out.symm rfl, (Out.refl w).alloc _ _⟩
  · rw [if_neg c, if_neg c]
    have hf : x < -4611686018427387904 ∨ 4611686018427387904 < x := by unfold fits at c; omega
    clear c
    by_cases c1 : 4611686018 < s
    · replace D := Lib.hid D
      clear hf
      go_enter Try.func9, Try.ntmps9
      go_wp2
      go_ret2
      exact ⟨rfl, (Out.refl w).alloc _ _⟩
    · have c1' : s ≤ 4611686018 := by omega
      clear c1
      by_cases c2 : s < -4611686019
      · replace D := Lib.hid D
        clear hf
        go_enter Try.func9, Try.ntmps9
        go_wp2
        go_ret2
        exact ⟨rfl, (Out.refl w).alloc _ _⟩
      · have c2' : -4611686019 ≤ s := by omega
        clear c2
        rcases hf with f | f
        · have f' : s * 1000000000 + n < -4611686018427387904 := by omega
          have f2 : s * 1000000000 + n ≤ 4611686018427387904 := by omega
          replace D := Lib.hid D
          clear f s1 s2
          go_enter Try.func9, Try.ntmps9
          go_wp2
          go_ret2
          exact ⟨rfl, (Out.refl w).alloc _ _⟩
        · have f' : 4611686018427387904 < s * 1000000000 + n := by omega
          replace D := Lib.hid D
          clear f s1 s2
          go_enter Try.func9, Try.ntmps9
          go_wp2
          go_ret2
          exact ⟨rfl, (Out.refl w).alloc _ _⟩
end Go.Proofs.Ytdaioclpkkpheaa
