/- SmearForward, the walk: never back. -/
import Derived.Test.YtmafjhggjpjgmaaSmJ
import Derived.Test.YtmafjhggjpjgmaaSmO
import Derived.Test.YtmafjhggjpjgmaaMask
set_option maxRecDepth 100000
namespace Go.Proofs.Ytmafjhggjpjgmaa
open Go.ChangeShapes Go.WideShapes Go.ChangeAt Go.RowKit SmM

theorem wr15 {x : Int} (h : I64 x) : wrap64 x = x ∧ IntKind.i64.wrap x = x := by
  unfold I64 at h
  rw [IntKind.wrap_i64]
  unfold wrap64
  omega
set_option maxHeartbeats 4000000 in
theorem forward15_walk (C : SCode) (w : World) (p : Option Addr) (n c : Nat) (gs : List Gp) (h : HoldsG w p n c gs) (hh : ∀ g ∈ gs, g.h < 65536) (t d : Int) :
    Calls Try.prog 5 #[.slice p n c, .int .i64 t, .int .i64 d] w fun e w' => e = .returned (.bool true) ∧ Below w.heap.size w w' := by
  have MA := Lib.hid (made15 C w p n c gs h hh)
  have AW := Lib.hid (awake15 C)
  have l32 := List.length_take_le 32 gs
  have OK := Lib.hid (mk_ok l32)
  have FA := Lib.hid (mk_far l32)
  have LL : Hid ((mkL dayI (gs.take 32)).length ≤ 32) := by unfold Hid; rw [mk_len]; exact l32
  generalize mkL dayI (gs.take 32) = l at *
  obtain ⟨u, hu⟩ : ∃ u, bits .and .i64 t 2305843009213693951 = u := ⟨_, rfl⟩
  have ub := mask_low t 2305843009213693951 (by decide)
  rw [show ((2305843009213693951 : Nat) : Int) = 2305843009213693951 from rfl, hu] at ub
  obtain ⟨v, hv⟩ : ∃ v, bits .and .i64 d 2305843009213693951 = v := ⟨_, rfl⟩
  have vb := mask_low d 2305843009213693951 (by decide)
  rw [show ((2305843009213693951 : Nat) : Int) = 2305843009213693951 from rfl, hv] at vb
  obtain ⟨u0, u1⟩ := ub
  obtain ⟨v0, v1⟩ := vb
  obtain ⟨z, hz⟩ : ∃ z, u + v = z := ⟨_, rfl⟩
  obtain ⟨a, ha⟩ : ∃ a, toI l z = a := ⟨_, rfl⟩
  obtain ⟨b, hb⟩ : ∃ b, toI l u = b := ⟨_, rfl⟩
  have ab := to_bound LL.out (t := z) (by omega) (show z ≤ topI by unfold topI; omega)
  have bb := to_bound LL.out u0 (show u ≤ topI by unfold topI; omega)
  have st := to_step OK.out.2 u0 (show u ≤ z by omega) (show z ≤ topI by unfold topI; omega)
  have mo := to_mono OK.out.2 u0 (show u ≤ z by omega) (show z ≤ topI by unfold topI; omega)
  have TOUCH : Hid (touchL l u z = false → a - b = v) := fun o => by rw [← ha, ← hb, to_out u0 (by omega) (by unfold topI; omega) o]; omega
  rw [ha, hb] at st mo
  rw [ha] at ab
  rw [hb] at bb
  rw [show z - u = v by omega] at st
  obtain ⟨q, hq⟩ : ∃ q, v.tdiv 86400 = q := ⟨_, rfl⟩
  have hq' : v / 86400 = q := by rw [← hq, Int.tdiv_eq_ediv_of_nonneg v0]
  rw [hq'] at st
  have q0 : 0 ≤ q ∧ q ≤ 26700000000000 := by omega
  obtain ⟨g, hg⟩ : ∃ g, a - b = g := ⟨_, rfl⟩
  obtain ⟨x1, hx1⟩ : ∃ x1, v - q = x1 := ⟨_, rfl⟩
  obtain ⟨x2, hx2⟩ : ∃ x2, x1 - 1 = x2 := ⟨_, rfl⟩
  obtain ⟨x3, hx3⟩ : ∃ x3, v + q = x3 := ⟨_, rfl⟩
  obtain ⟨x4, hx4⟩ : ∃ x4, x3 + 1 = x4 := ⟨_, rfl⟩
  have IZ : Hid (I64 z) := by unfold Hid I64; omega
  have IX : Hid (I64 g ∧ I64 q ∧ I64 x1 ∧ I64 x2 ∧ I64 x3 ∧ I64 x4) := by unfold Hid I64; omega
  have DD : Hid (decide (g < 0) = false ∧ decide (g < x2) = false ∧ decide (x4 < g) = false) := ⟨decide_eq_false (by omega), decide_eq_false (by omega), decide_eq_false (by omega)⟩
  have SI : Hid (I64 u ∧ I64 z) := by unfold Hid I64; omega
  have HA := Lib.hid (And.intro ha hb)
  have TO2 : Hid (touchL l u z = false → g = v) := fun o => by rw [← hg]; exact TOUCH.out o
  have EN := Lib.hid (to_ends FA.out)
  have SB := Lib.hid (sum_bound l)
  clear h hh l32 u0 u1 v0 v1 ha hb ab bb st mo hq' q0 TOUCH
  go_enter Try.func5, Try.ntmps5
  go_wp2_with fail
  refine MA.out.mono ?_; rintro e w1 ⟨N, F, p', m, c', rfl, t1, h1, b1⟩
  have T1 := Lib.hid t1
  have H1 := Lib.hid h1
  have L1 := Lib.hid b1
  have mb : (m : Int) ≤ 32 := by have := h1.len; have := LL.out; omega
  clear t1 b1 h1 MA
  go_wp2_with fail
  refine (AW.out w1).mono ?_; rintro e w2 ⟨rfl, k2⟩
  obtain ⟨ez, fz⟩ := wr15 IZ.out
  go_wp2_with fail
  have TO : Hid (∀ w' z v, Below w1.heap.size w1 w' → I64 z → toI l z = v → Calls Try.prog 17 #[.pointer (some ⟨N, 0, none⟩), .int .i64 z] w' fun e w'' => e = .returned (.int .i64 v) ∧ Below w1.heap.size w1 w'') := fun w' t v k i h =>
    (C.to_ t (C.below T1.out k) i).mono fun e w'' ⟨a, b⟩ => ⟨by rw [a, h], k.trans (b.mono k.size)⟩
  refine (TO.out _ z a k2 SI.out.2 HA.out.1).mono ?_; rintro e w3 ⟨rfl, k3⟩
  clear k2
  go_wp2_with fail
  refine (TO.out _ u b k3 SI.out.1 HA.out.2).mono ?_; rintro e w4 ⟨rfl, k4⟩
  have K4 := Lib.hid k4
  clear k3 k4 ez fz hu hv
  obtain ⟨eg, fg⟩ := wr15 IX.out.1
  obtain ⟨eq, fq⟩ := wr15 IX.out.2.1
  obtain ⟨ex1, fx1⟩ := wr15 IX.out.2.2.1
  obtain ⟨ex2, fx2⟩ := wr15 IX.out.2.2.2.1
  obtain ⟨ex3, fx3⟩ := wr15 IX.out.2.2.2.2.1
  obtain ⟨ex4, fx4⟩ := wr15 IX.out.2.2.2.2.2
  obtain ⟨d1, d2, d3⟩ := DD.out
  go_wp2_with fail
  clear eg fg eq fq ex1 fx1 ex2 fx2 ex3 fx3 ex4 fx4 d1 d2 d3 hq hg hx1 hx2 hx3 hx4 IX DD
  go_loopw [10, 11, 60] (fun tt ss ii wr => ∃ (i : Nat) (tb : Bool) (sm : Int), tt = .bool tb ∧ ss = .int .i64 sm ∧ ii = .int .i64 (i : Nat) ∧ Hid (tb = touchL (l.take i) u z ∧ sm = sumI (l.take i) ∧ i ≤ m) ∧ Hid (Below w1.heap.size w1 wr)) (fun _ _ ii _ => 1000 - (intOf ii).toNat)
  case atStart => exact ⟨0, false, 0, rfl, rfl, rfl, ⟨by rw [List.take_zero]; rfl, by rw [List.take_zero]; rfl, Nat.zero_le _⟩, K4⟩
  case round =>
    clear K4 AW
    obtain ⟨i, tb, sm, rfl, rfl, rfl, I, L⟩ := hrel
    have i0 : (0 : Int) ≤ (i : Int) := by omega
    by_cases y : i < m
    · have y1 : (i : Int) < (m : Int) := by omega
      obtain ⟨ap, rfl, c0, c1⟩ := (H1.out.below L.out).cell i y
      have il : i < l.length := by rw [H1.out.len]; exact y
      obtain ⟨x, hx⟩ : ∃ x, gl l i = x := ⟨_, rfl⟩
      have XI := FA.out x (by rw [← hx]; exact gl_mem il)
      rw [hx] at c0 c1
      have TT := touch_take il u z
      rw [hx, ← I.out.1] at TT
      have SS := sum_take il
      rw [hx, sg_k XI.2.2, ← I.out.2.1] at SS
      have sb := sum_bound (l.take i)
      rw [← I.out.2.1, List.length_take] at sb
      obtain ⟨xt, xk⟩ := x
      unfold dayI at XI
      dsimp only at c0 c1 XI SS
      unfold hitL halfI at TT
      dsimp only at TT
      obtain ⟨r1, hr1⟩ : ∃ r1, xt + 43200000000000 = r1 := ⟨_, rfl⟩
      obtain ⟨r2, hr2⟩ : ∃ r2, xt - 43200000000000 = r2 := ⟨_, rfl⟩
      obtain ⟨k1, hk1⟩ : ∃ k1, xk * 1000000000 = k1 := ⟨_, rfl⟩
      obtain ⟨sn, hsn⟩ : ∃ sn, sm + k1 = sn := ⟨_, rfl⟩
      rw [hr1, hr2] at TT
      rw [hk1, hsn] at SS
      have kb : -1000000000 ≤ k1 ∧ k1 ≤ 1000000000 := by rcases XI.2.2 with e | e <;> rw [e] at hk1 <;> omega
      have q1 : I64 r1 := by unfold I64; omega
      have q2 : I64 r2 := by unfold I64; omega
      have q3 : I64 k1 := by unfold I64; omega
      have q4 : I64 sn := by unfold I64; have := LL.out; omega
      have NX : Hid (∀ b, (tb || (decide (u < r1) && decide (r2 < z))) = b → (b = touchL (l.take (i + 1)) u z ∧ sn = sumI (l.take (i + 1)) ∧ i + 1 ≤ m)) := fun b e => ⟨by rw [TT, e], SS.symm, y⟩
      have W1 := Lib.hid (wr15 q1)
      have W2 := Lib.hid (wr15 q2)
      have W3 := Lib.hid (wr15 q3)
      have W4 := Lib.hid (wr15 q4)
      have WZ := Lib.hid (wr15 IZ.out)
      have L2 := Lib.hid (L.out.alloc L.out.size (.cells #[.int .i64 xt, .int .i64 xk] 26))
      clear y il XI hx TT SS sb kb q1 q2 q3 q4 I L
      obtain ⟨w31, w32⟩ := W3.out
      obtain ⟨w41, w42⟩ := W4.out
      cases tb
      · obtain ⟨w11, w12⟩ := W1.out
        by_cases g1 : u < r1
        · have g2 : decide (u < r1) = true := decide_eq_true g1
          obtain ⟨w21, w22⟩ := W2.out
          obtain ⟨wz1, wz2⟩ := WZ.out
          by_cases g3 : r2 < z
          · have g4 : decide (r2 < z) = true := decide_eq_true g3
            have NY := Lib.hid (NX.out true (by rw [g2, g4]; rfl))
            clear NX W1 W2 W3 W4 WZ
            go_wp2_with fail
            go_roundw
            case rel => exact ⟨i + 1, _, _, rfl, rfl, by go_num, NY, L2⟩
            case measure => simp [intOf]; omega
          · have g4 : decide (r2 < z) = false := decide_eq_false g3
            have NY := Lib.hid (NX.out false (by rw [g2, g4]; rfl))
            clear NX W1 W2 W3 W4 WZ
            go_wp2_with fail
            go_roundw
            case rel => exact ⟨i + 1, _, _, rfl, rfl, by go_num, NY, L2⟩
            case measure => simp [intOf]; omega
        · have g2 : decide (u < r1) = false := decide_eq_false g1
          have NY := Lib.hid (NX.out false (by rw [g2]; rfl))
          clear NX W1 W2 W3 W4 WZ hr2
          go_wp2_with fail
          go_roundw
          case rel => exact ⟨i + 1, _, _, rfl, rfl, by go_num, NY, L2⟩
          case measure => simp [intOf]; omega
      · have NY := Lib.hid (NX.out true rfl)
        clear NX W1 W2 W3 W4 WZ hr1 hr2
        go_wp2_with fail
        go_roundw
        case rel => exact ⟨i + 1, _, _, rfl, rfl, by go_num, NY, L2⟩
        case measure => simp [intOf]; omega
    · have y1 : (m : Int) ≤ (i : Int) := by omega
      have y2 : decide ((i : Int) < (m : Int)) = false := decide_eq_false (by omega)
      have e : l.take i = l := List.take_of_length_le (by rw [H1.out.len]; omega)
      have I2 := I.out
      rw [e] at I2
      obtain ⟨I3, I4, -⟩ := I2
      have sb := sum_bound l
      rw [← I4] at sb
      obtain ⟨f, hf⟩ : ∃ f, 4611686018427387904 - sm = f := ⟨_, rfl⟩
      have fi : I64 f := by unfold I64; have := LL.out; omega
      obtain ⟨f1, f2⟩ := wr15 fi
      have T3 : toI l 4611686018427387904 = f := by have := EN.out.1; unfold topI at this; rw [this, ← I4, hf]
      have TM : Hid (∀ w', Below w1.heap.size w1 w' → Calls Try.prog 17 #[.pointer (some ⟨N, 0, none⟩), .int .i64 4611686018427387904] w' fun e w'' => e = .returned (.int .i64 f) ∧ Below w1.heap.size w1 w'') := fun w' k => TO.out w' _ f k (by unfold I64; decide) T3
      have TZ : Hid (∀ w', Below w1.heap.size w1 w' → Calls Try.prog 17 #[.pointer (some ⟨N, 0, none⟩), .int .i64 0] w' fun e w'' => e = .returned (.int .i64 0) ∧ Below w1.heap.size w1 w'') := fun w' k => TO.out w' _ 0 k (by unfold I64; decide) EN.out.2
      clear y I fi sb T3 TO EN e I4
      cases tb
      · have gv := TO2.out I3.symm
        have g1 : (g != v) = false := by rw [gv]; simp
        clear TO2 I3
        go_wp2_with fail
        refine (TM.out _ L.out).mono ?_; rintro e w5 ⟨rfl, k5⟩
        go_wp2_with fail
        refine (TZ.out _ k5).mono ?_; rintro e w6 ⟨rfl, k6⟩
        have L6 := Lib.hid (L1.out.trans (k6.mono L1.out.size))
        clear k5 k6 TM TZ
        go_wp2
        go_ret
        exact ⟨rfl, L6.out⟩
      · clear TO2 I3
        go_wp2_with fail
        refine (TM.out _ L.out).mono ?_; rintro e w5 ⟨rfl, k5⟩
        go_wp2_with fail
        refine (TZ.out _ k5).mono ?_; rintro e w6 ⟨rfl, k6⟩
        have L6 := Lib.hid (L1.out.trans (k6.mono L1.out.size))
        clear k5 k6 TM TZ
        go_wp2
        go_ret
        exact ⟨rfl, L6.out⟩
end Go.Proofs.Ytmafjhggjpjgmaa
