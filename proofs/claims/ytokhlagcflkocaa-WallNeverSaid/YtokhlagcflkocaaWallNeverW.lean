/- WallNever: the walk. -/
import Derived.Test.YtokhlagcflkocaaWallG
import Derived.Test.YtokhlagcflkocaaWallH
import Derived.Test.YtokhlagcflkocaaWallSlewsW
import Derived.Deep.CutRange
set_option maxRecDepth 100000
namespace Go.Proofs.Ytokhlagcflkocaa
open Go.ChangeShapes Go.WideShapes Go.ChangeAt Go.RowKit WallM BigM

/-- A wall of one's own, in a world. -/
structure NevS (w wr : World) (N : Nat) (x : Wl) : Prop where
  c : Wal wr N x
  n : w.heap.size ≤ N
  low : Below w.heap.size w wr
theorem NevS.below {w wr w' : World} {N : Nat} {x : Wl} (h : NevS w wr N x) (b : Below wr.heap.size wr w') : NevS w w' N x := ⟨h.c.below b, h.n, h.low.trans (b.mono h.low.size)⟩
theorem NevS.turn {w wr w' : World} {N : Nat} {x y : Wl} (h : NevS w wr N x) (t : Turn N wr w') (c : Wal w' N y) : NevS w w' N y := ⟨c, h.n, t.below h.low h.n⟩

set_option maxHeartbeats 16000000 in
theorem never12_walk (w : World) (s0 d a0 b0 t : Int) (hd : I64 d) (ht : I64 t) :
    Calls Try.prog 5 #[.int .i64 s0, .int .i64 d, .int .i64 a0, .int .i64 b0, .int .i64 t] w fun e w' => e = .returned (.bool true) ∧ Below w.heap.size w w' := by
  obtain ⟨s, hs⟩ : ∃ s, bits .and .i64 s0 4611686018427387903 = s := ⟨_, rfl⟩
  obtain ⟨a, ha⟩ : ∃ a, bits .and .i64 a0 4611686018427387903 = a := ⟨_, rfl⟩
  obtain ⟨c, hc⟩ : ∃ c, bits .and .i64 b0 4611686018427387903 = c := ⟨_, rfl⟩
  have sb : 0 ≤ s ∧ s ≤ 4611686018427387903 := by rw [← hs]; exact mask_in s0 4611686018427387903 (by decide)
  have ab : 0 ≤ a ∧ a ≤ 4611686018427387903 := by rw [← ha]; exact mask_in a0 4611686018427387903 (by decide)
  have cb : 0 ≤ c ∧ c ≤ 4611686018427387903 := by rw [← hc]; exact mask_in b0 4611686018427387903 (by decide)
  obtain ⟨x, y, sw, xy⟩ : ∃ x y : Int, ((decide (c < a) = true ∧ c < a ∧ c = x ∧ a = y) ∨ (decide (c < a) = false ∧ a ≤ c ∧ a = x ∧ c = y)) ∧ (0 ≤ x ∧ x ≤ y ∧ y ≤ 4611686018427387903) := by
    by_cases h : c < a
    · exact ⟨c, a, .inl ⟨decide_eq_true h, h, rfl, rfl⟩, by omega⟩
    · exact ⟨a, c, .inr ⟨decide_eq_false h, by omega, rfl, rfl⟩, by omega⟩
  have SB := Lib.hid sb
  have XY := Lib.hid xy
  have HD := Lib.hid hd
  have HT := Lib.hid ht
  have NW := Lib.hid (fun w => pnew12_ok w s sb.1 (by omega))
  have AL := Lib.hid alive12_any
  clear sb ab cb xy hd ht
  go_enter Try.func5, Try.ntmps5
  go_upto_if 28 with fail
  go_cut [2, 3] (fun p q wx => p = .int .i64 x ∧ q = .int .i64 y ∧ w = wx)
  case first =>
    rcases sw with ⟨c1, c2, rfl, rfl⟩ | ⟨c1, c2, rfl, rfl⟩
    · go_wp2
      go_meet
      exact ⟨rfl, rfl, rfl⟩
    · go_wp2
      go_meet
      exact ⟨rfl, rfl, rfl⟩
  case rest =>
  obtain ⟨rfl, rfl, rfl⟩ := hcut
  clear sw ha hc
  go_wp2_with fail
  refine (NW.out w).mono ?_; rintro e w1 ⟨N, rfl, cc, hN, l⟩
  have I0 : Hid (NevS w w1 N ⟨s, 0⟩) := ⟨cc, hN, l⟩
  clear cc hN l
  go_wp2_with fail
  go_loopw [11, 13] (fun p i wr => ∃ (N : Nat) (b k : Int), p = .pointer (some ⟨N, 0, none⟩) ∧ i = .int .i64 k ∧ Hid (0 ≤ k ∧ k ≤ 3 ∧ inW b ∧ (k = 0 → b = s)) ∧ Hid (NevS w wr N ⟨b, k⟩)) (fun _ i _ => (10 - intOf i).toNat)
  case atStart => exact ⟨N, s, 0, rfl, rfl, ⟨by decide, by decide, by have := SB.out; unfold inW; omega, fun _ => rfl⟩, I0.out⟩
  case round =>
    clear I0
    obtain ⟨N, b, k, rfl, rfl, K, I⟩ := hrel
    have k0 := K.out.1
    have k1 := K.out.2.1
    by_cases stop : k = 3
    · have d3 : decide (k < 3) = false := decide_eq_false (by omega)
      clear stop K k0 k1
      go_wp2_with fail
      refine (AL.out wr).mono ?_; rintro e w9 ⟨rfl, l⟩
      have L := Lib.hid (I.out.low.trans (l.mono I.out.low.size))
      clear l I
      go_wp2
      go_ret
      exact ⟨rfl, L.out⟩
    have k2 : k < 3 := by omega
    have ok : (Wl.mk b k).Ok := ⟨K.out.2.2.1.1, K.out.2.2.1.2⟩
    have OK := Lib.hid ok
    have A1 := Lib.hid (fun w' (i : NevS w w' N ⟨b, k⟩) => pAt12_any w' N ⟨b, k⟩ x i.c ok)
    have A2 := Lib.hid (fun w' (i : NevS w w' N ⟨b, k⟩) => pAt12_any w' N ⟨b, k⟩ y i.c ok)
    have WH := Lib.hid (fun w' (i : NevS w w' N ⟨b, k⟩) => pWhen12_any w' N ⟨b, k⟩ t i.c ok HT.out)
    have AT := Lib.hid (fun w' m (i : NevS w w' N ⟨b, k⟩) => pAt12_any w' N ⟨b, k⟩ m i.c ok)
    have BA := Lib.hid (fun w' (i : NevS w w' N ⟨b, k⟩) => pbase12_any w' N ⟨b, k⟩ i.c)
    have mo := atW_mono (b := b) XY.out.2.1
    have ix := atW_in b x
    have iy := atW_in b y
    have wa := when_alt b t
    dsimp only at A1 A2 WH AT BA
    obtain ⟨X, hX⟩ : ∃ X, atW b x = X := ⟨_, rfl⟩
    obtain ⟨Y, hY⟩ : ∃ Y, atW b y = Y := ⟨_, rfl⟩
    obtain ⟨m, hm⟩ : ∃ m, whenN b t = m := ⟨_, rfl⟩
    obtain ⟨is, his⟩ : ∃ m, whenB b t = m := ⟨_, rfl⟩
    rw [hX] at A1 mo ix
    rw [hY] at A2 mo iy
    rw [hm] at WH wa
    rw [his] at WH wa
    obtain ⟨g1, hg1⟩ : ∃ g, Y - X = g := ⟨_, rfl⟩
    obtain ⟨g2, hg2⟩ : ∃ g, y - x = g := ⟨_, rfl⟩
    obtain ⟨m1, hm1⟩ : ∃ g, m - 1 = g := ⟨_, rfl⟩
    rw [hm1] at wa
    have xy := XY.out
    have t1 : decide (Y < X) = false := decide_eq_false (by omega)
    have t2 : decide (g2 < g1) = false := decide_eq_false (by omega)
    have t3 : decide (X < 0) = false := decide_eq_false (by omega)
    have t4 : decide (4611686018427387904 < Y) = false := decide_eq_false (by omega)
    have w1 : IntKind.i64.wrap g1 = g1 := by rw [IntKind.wrap_i64]; omega
    have w2 : IntKind.i64.wrap g2 = g2 := by rw [IntKind.wrap_i64]; omega
    have v1 : wrap64 g1 = g1 := by unfold wrap64; omega
    have v2 : wrap64 g2 = g2 := by unfold wrap64; omega
    have WA := Lib.hid wa
    have SX : Hid (atW b x = X ∧ atW b y = Y) := ⟨hX, hY⟩
    clear hX hY hm his wa mo ix iy ok xy stop
    go_wp2_with fail
    refine (A1.out wr I.out).mono ?_; rintro e w2 ⟨rfl, l⟩
    have I2 := Lib.hid (I.out.below l)
    clear l I
    go_wp2_with fail
    refine (A2.out w2 I2.out).mono ?_; rintro e w3 ⟨rfl, l⟩
    have I3 := Lib.hid (I2.out.below l)
    clear l I2
    go_wp2_with fail
    refine (WH.out w3 I3.out).mono ?_; rintro e w4 ⟨rfl, l⟩
    have I4 := Lib.hid (I3.out.below l)
    clear l I3 A1 A2 WH t1 t2 t3 t4 w1 w2 v1 v2 hg1 hg2
    go_upto_region 15 with (fail)
    go_cut [122] (fun o wx => o = .bool false ∧ Hid (NevS w wx N ⟨b, k⟩))
    case first =>
      rcases WA.out with ⟨rfl, rfl, z1⟩ | ⟨rfl, z0, z1, z2, z3⟩ | ⟨rfl, rfl, z1⟩
      · have A0 := Lib.hid (fun w' i => AT.out w' 0 i)
        generalize atW b 0 = q at *
        have d1 : decide (q < t) = false := decide_eq_false (by omega)
        clear AT
        go_wp2_with fail
        refine (A0.out w4 I4.out).mono ?_; rintro e w5 ⟨rfl, l⟩
        have I5 := Lib.hid (I4.out.below l)
        clear l I4
        go_wp2_with fail
        go_meet
        exact ⟨rfl, I5.out⟩
      · have A0 := Lib.hid (fun w' i => AT.out w' m i)
        have A1 := Lib.hid (fun w' i => AT.out w' m1 i)
        rw [z2] at A0
        generalize atW b m1 = q at *
        have z0' : 0 ≤ m := by omega
        have d1 : decide (t < t) = false := decide_eq_false (by omega)
        have d2 : decide (t ≤ q) = false := decide_eq_false (by omega)
        have d3 : (t != t) = false := by simp
        have d4 : decide (m < 0) = false := decide_eq_false (by omega)
        have d5 : decide (4611686018427387904 < m) = false := decide_eq_false (by omega)
        have w1 : IntKind.i64.wrap m1 = m1 := by rw [IntKind.wrap_i64]; omega
        have v1 : wrap64 m1 = m1 := by unfold wrap64; omega
        clear AT z2
        go_wp2_with fail
        refine (A0.out w4 I4.out).mono ?_; rintro e w5 ⟨rfl, l⟩
        have I5 := Lib.hid (I4.out.below l)
        clear l I4
        go_wp2_with fail
        refine (A0.out w5 I5.out).mono ?_; rintro e w6 ⟨rfl, l⟩
        have I6 := Lib.hid (I5.out.below l)
        clear l I5
        go_wp2_with fail
        refine (A1.out w6 I6.out).mono ?_; rintro e w7 ⟨rfl, l⟩
        have I7 := Lib.hid (I6.out.below l)
        clear l I6
        go_wp2_with fail
        go_meet
        exact ⟨rfl, I7.out⟩
      · have A0 := Lib.hid (fun w' i => AT.out w' 4611686018427387904 i)
        generalize atW b 4611686018427387904 = q at *
        have d1 : decide (t ≤ q) = false := decide_eq_false (by omega)
        clear AT
        go_wp2_with fail
        refine (A0.out w4 I4.out).mono ?_; rintro e w5 ⟨rfl, l⟩
        have I5 := Lib.hid (I4.out.below l)
        clear l I4
        go_wp2_with fail
        go_meet
        exact ⟨rfl, I5.out⟩
    case rest =>
    obtain ⟨rfl, J⟩ := hcut
    clear I4 AT WA hm1
    have SD := Lib.hid (fun w' (i : NevS w w' N ⟨b, k⟩) => pstep12_any w' N ⟨b, k⟩ d i.c OK.out HD.out k0 (show k ≤ 1000000 by omega))
    have bb : (b == b) = true := by simp
    have kk : (k == k) = true := by simp
    by_cases inw : inW (b + d)
    · have e1 := (step_yes (x := ⟨b, k⟩) (d := d) inw).1
      have e2 := (step_yes (x := ⟨b, k⟩) (d := d) inw).2
      rw [e1, e2] at SD
      dsimp only at SD
      clear e1 e2 kk bb
      obtain ⟨c, hc⟩ : ∃ c, b + d = c := ⟨_, rfl⟩
      obtain ⟨j, hj⟩ : ∃ j, k + 1 = j := ⟨_, rfl⟩
      rw [hc, hj] at SD
      rw [hc] at inw
      have cc : (c == c) = true := by simp
      have nc : (c != c) = false := by simp
      have jj : (j == j) = true := by simp
      have nj : (j != j) = false := by simp
      have w1 : IntKind.i64.wrap c = c := by rw [IntKind.wrap_i64]; unfold inW at inw; omega
      have w2 : IntKind.i64.wrap j = j := by rw [IntKind.wrap_i64]; omega
      have v1 : wrap64 c = c := by unfold wrap64; unfold inW at inw; omega
      have v2 : wrap64 j = j := by unfold wrap64; omega
      have BC := Lib.hid (fun w' (i : NevS w w' N ⟨c, j⟩) => pbase12_any w' N ⟨c, j⟩ i.c)
      have SC := Lib.hid (fun w' (i : NevS w w' N ⟨c, j⟩) => psteps12_any w' N ⟨c, j⟩ i.c)
      dsimp only at BC SC
      have NB : Hid (0 ≤ j ∧ j ≤ 3 ∧ inW c ∧ (j = 0 → c = s)) := ⟨by omega, by omega, inw, by omega⟩
      by_cases kz : k = 0
      · have e := K.out.2.2.2 kz
        have dn : -9223372036854775808 < d := by have := SB.out; have := inw.1; omega
        have back : c + -d = b := by omega
        have inb : inW (c + -d) := by rw [back]; exact ⟨by have := SB.out; omega, by have := SB.out; omega⟩
        have okc : (Wl.mk c j).Ok := ⟨inw.1, inw.2⟩
        obtain ⟨f, hf⟩ : ∃ f, -d = f := ⟨_, rfl⟩
        rw [hf] at back inb
        have w3 : IntKind.i64.wrap f = f := by rw [IntKind.wrap_i64]; have := HD.out.2; omega
        have v3 : wrap64 f = f := by unfold wrap64; have := HD.out.2; omega
        have SK := Lib.hid (fun w' (i : NevS w w' N ⟨c, j⟩) => pstep12_any w' N ⟨c, j⟩ f i.c okc ⟨by have := HD.out.2; omega, by have := HD.out.2; omega⟩ (show 0 ≤ j by omega) (show j ≤ 1000000 by omega))
        have e1 := (step_yes (x := ⟨c, j⟩) (d := f) inb).1
        have e2 := (step_yes (x := ⟨c, j⟩) (d := f) inb).2
        rw [e1, e2] at SK
        dsimp only at SK
        have j1 : j + 1 = 2 := by omega
        rw [back, j1] at SK
        clear e1 e2
        have ok2 : (Wl.mk b 2).Ok := ⟨OK.out.b0, OK.out.b1⟩
        have A1 := Lib.hid (fun w' (i : NevS w w' N ⟨b, 2⟩) => pAt12_any w' N ⟨b, 2⟩ x i.c ok2)
        have A2 := Lib.hid (fun w' (i : NevS w w' N ⟨b, 2⟩) => pAt12_any w' N ⟨b, 2⟩ y i.c ok2)
        have B2 := Lib.hid (fun w' (i : NevS w w' N ⟨b, 2⟩) => pbase12_any w' N ⟨b, 2⟩ i.c)
        have S2 := Lib.hid (fun w' (i : NevS w w' N ⟨b, 2⟩) => psteps12_any w' N ⟨b, 2⟩ i.c)
        dsimp only at A1 A2 B2 S2
        rw [SX.out.1] at A1
        rw [SX.out.2] at A2
        have nx : (X != X) = false := by simp
        have ny : (Y != Y) = false := by simp
        have nb : (b != b) = false := by simp
        have ST := Lib.hid (fun w' N' (i : NevS w w' N' ⟨s, 0⟩) => pstep12_any w' N' ⟨s, 0⟩ d i.c (by have := OK.out; rw [e] at this; exact ⟨this.b0, this.b1⟩) HD.out (show (0 : Int) ≤ 0 by decide) (show (0 : Int) ≤ 1000000 by decide))
        have is : inW (s + d) := by rw [← e, hc]; exact inw
        have e1 := (step_yes (x := ⟨s, 0⟩) (d := d) is).1
        have e2 := (step_yes (x := ⟨s, 0⟩) (d := d) is).2
        rw [e1, e2] at ST
        dsimp only at ST
        have e3 : s + d = c := by rw [← e]; exact hc
        have e4 : (0 : Int) + 1 = j := by omega
        rw [e3, e4] at ST
        clear e1 e2 e3 e4 is back inb okc ok2 dn e j1 K inw k1 k2 k0
        subst kz
        go_wp2_with fail
        refine (BA.out _ J.out).mono ?_; rintro e w5 ⟨rfl, l⟩
        have J1 := Lib.hid (J.out.below l)
        clear l J BA
        go_wp2_with fail
        refine (SD.out w5 J1.out).mono ?_; rintro e w6 ⟨rfl, q, tt⟩
        have J2 := Lib.hid (J1.out.turn tt q)
        clear q tt J1 SD
        go_wp2_with fail
        refine (BC.out w6 J2.out).mono ?_; rintro e w7 ⟨rfl, l⟩
        have J3 := Lib.hid (J2.out.below l)
        clear l J2 BC
        go_wp2_with fail
        refine (SC.out w7 J3.out).mono ?_; rintro e w8 ⟨rfl, l⟩
        have J4 := Lib.hid (J3.out.below l)
        clear l J3 SC
        go_wp2_with fail
        refine (SK.out w8 J4.out).mono ?_; rintro e w9 ⟨rfl, q, tt⟩
        have J5 := Lib.hid (J4.out.turn tt q)
        clear q tt J4 SK
        go_wp2_with fail
        refine (A1.out w9 J5.out).mono ?_; rintro e w10 ⟨rfl, l⟩
        have J6 := Lib.hid (J5.out.below l)
        clear l J5 A1
        go_wp2_with fail
        refine (A2.out w10 J6.out).mono ?_; rintro e w11 ⟨rfl, l⟩
        have J7 := Lib.hid (J6.out.below l)
        clear l J6 A2
        go_wp2_with fail
        refine (B2.out w11 J7.out).mono ?_; rintro e w12 ⟨rfl, l⟩
        have J8 := Lib.hid (J7.out.below l)
        clear l J7
        go_wp2_with fail
        refine (B2.out w12 J8.out).mono ?_; rintro e w13 ⟨rfl, l⟩
        have J9 := Lib.hid (J8.out.below l)
        clear l J8 B2
        go_wp2_with fail
        refine (S2.out w13 J9.out).mono ?_; rintro e w14 ⟨rfl, l⟩
        have L := Lib.hid (J9.out.below l).low
        clear l J9 S2
        go_wp2_with fail
        refine (NW.out w14).mono ?_; rintro e w15 ⟨N', rfl, cq, hN, l⟩
        have H1 : Hid (NevS w w15 N' ⟨s, 0⟩) := ⟨cq, Nat.le_trans L.out.size hN, L.out.trans (l.mono L.out.size)⟩
        clear cq hN l L
        go_wp2_with fail
        refine (ST.out w15 N' H1.out).mono ?_; rintro e w16 ⟨rfl, q, tt⟩
        have H2 := Lib.hid (H1.out.turn tt q)
        clear q tt H1 ST
        go_wp2
        go_roundw
        case rel => exact ⟨N', c, j, rfl, by go_num, NB.out, H2.out⟩
        case measure => simp [intOf]; omega
      · have kz' : (k == 0) = false := by rw [beq_eq_false_iff_ne]; exact kz
        clear K inw kz
        go_wp2_with fail
        refine (BA.out _ J.out).mono ?_; rintro e w5 ⟨rfl, l⟩
        have J1 := Lib.hid (J.out.below l)
        clear l J BA
        go_wp2_with fail
        refine (SD.out w5 J1.out).mono ?_; rintro e w6 ⟨rfl, q, tt⟩
        have J2 := Lib.hid (J1.out.turn tt q)
        clear q tt J1 SD
        go_wp2_with fail
        refine (BC.out w6 J2.out).mono ?_; rintro e w7 ⟨rfl, l⟩
        have J3 := Lib.hid (J2.out.below l)
        clear l J2 BC
        go_wp2_with fail
        refine (SC.out w7 J3.out).mono ?_; rintro e w8 ⟨rfl, l⟩
        have J4 := Lib.hid (J3.out.below l)
        clear l J3 SC
        go_wp2
        go_roundw
        case rel => exact ⟨N, c, j, rfl, by go_num, NB.out, J4.out⟩
        case measure => simp [intOf]; omega
    · have e1 := (step_no (x := ⟨b, k⟩) (d := d) inw).1
      have e2 := (step_no (x := ⟨b, k⟩) (d := d) inw).2
      rw [e1, e2] at SD
      have SE := Lib.hid (fun w' (i : NevS w w' N ⟨b, k⟩) => psteps12_any w' N ⟨b, k⟩ i.c)
      dsimp only at SE
      clear e1 e2 inw K
      go_wp2_with fail
      refine (BA.out _ J.out).mono ?_; rintro e w5 ⟨rfl, l⟩
      have J1 := Lib.hid (J.out.below l)
      clear l J
      go_wp2_with fail
      refine (SD.out w5 J1.out).mono ?_; rintro e w6 ⟨rfl, q, tt⟩
      have J2 := Lib.hid (J1.out.turn tt q)
      clear q tt J1 SD
      go_wp2_with fail
      refine (BA.out w6 J2.out).mono ?_; rintro e w7 ⟨rfl, l⟩
      have J3 := Lib.hid (J2.out.below l)
      clear l J2
      go_wp2_with fail
      refine (SE.out w7 J3.out).mono ?_; rintro e w8 ⟨rfl, l⟩
      have J4 := Lib.hid (J3.out.below l)
      clear l J3 SE
      go_wp2_with fail
      refine (AL.out w8).mono ?_; rintro e w9 ⟨rfl, l⟩
      have L := Lib.hid (J4.out.below l).low
      clear l J4
      go_wp2
      go_ret
      exact ⟨rfl, L.out⟩
end Go.Proofs.Ytokhlagcflkocaa
