/- MonoAhead: the walk. -/
import Derived.Test.YtogkjgglpokkaaaMonoD
import Derived.Test.YtogkjgglpokkaaaMonoE
import Derived.Test.YtogkjgglpokkaaaMonoG
import Derived.Test.YtogkjgglpokkaaaMonoJ
set_option maxRecDepth 100000
namespace Go.Proofs.Ytogkjgglpokkaaa
open Go.ChangeShapes Go.WideShapes Go.ChangeAt Go.RowKit MonoM

set_option maxHeartbeats 16000000 in
theorem ahead11_walk (w : World) (p : Option Addr) (n c : Nat) (zs : List (Int × Int)) (t : Int) (hp : HoldsA .i64 .i64 w p n c zs) :
    Calls Try.prog 4 #[.slice p n c, .int .i64 t] w fun e w' => e = .returned (.bool true) ∧ Below w.heap.size w w' := by
  have AL := Lib.hid awake11_any
  have NW := Lib.hid pnew11_any
  have HP := Lib.hid hp
  have cp := hp.cap
  have mx := hp.max
  unfold maxLen at mx
  have nb : (n : Int) ≤ 9223372036854775807 := by omega
  clear hp cp mx
  go_enter Try.func4, Try.ntmps4
  go_wp2_with fail
  refine (NW.out w).mono ?_; rintro e w1 ⟨N, rfl, c1, hN, l⟩
  have I0 : Hid (Both w (w1.alloc (.cells #[.int .i64 0, .int .i64 0, .int .i64 0, .int .i64 0, .bool false] 27)) N w1.heap.size zeroM 0) := both_new hN c1 l
  clear l c1 hN NW
  go_wp2_with fail
  generalize w1.alloc (.cells #[.int .i64 0, .int .i64 0, .int .i64 0, .int .i64 0, .bool false] 27) = w2 at *
  generalize w1.heap.size = M at *
  go_loopw [16] (fun i wr => ∃ (q : Nat) (x : Mo), i = .int .i64 (q : Nat) ∧ Hid (q ≤ n ∧ q ≤ 30) ∧ Hid (Both w wr N M x q)) (fun i _ => 1000 - (intOf i).toNat)
  case atStart => exact ⟨0, zeroM, rfl, ⟨Nat.zero_le _, by decide⟩, I0.out⟩
  case round =>
    clear I0
    obtain ⟨q, x, rfl, hb, I⟩ := hrel
    have q0 : (0 : Int) ≤ (q : Int) := by omega
    have qb : (q : Int) ≤ 30 := by have := hb.out.2; omega
    have QB : Hid (q ≤ 100) := by have := hb.out.2; unfold Hid; omega
    by_cases stop : n ≤ q
    · have z1 : (n : Int) ≤ (q : Int) := by omega
      have z2 : decide ((q : Int) < (n : Int)) = false := decide_eq_false (by omega)
      have E := Lib.hid (ahead_end I.out QB.out t)
      clear hb stop HP
      as_aux_lemma =>
      have UN := Lib.hid (puntil11_any wr N x t I.out.fw.ok I.out.fw.c I.out.fw.f)
      have RR := Lib.hid (fun w' d (b : Below wr.heap.size wr w') h0 h1 => rreached11_any w' M x t d (I.out.r.below b) I.out.fw.ok h0 h1)
      have KF : Hid (∀ w', Below wr.heap.size wr w' → w'.cell? ⟨M, 4, none⟩ = some (.bool false)) := fun w' b => by
        have h := I.out.r.below b
        unfold RClk at h
        rw [I.out.fw.f] at h
        exact blk_cell h
      have LW := Lib.hid I.out.fw.low
      clear I
      go_wp2_with fail
      refine UN.out.mono ?_; rintro e w7 ⟨l, H⟩
      have B7 := Lib.hid l
      have LZ := Lib.hid (LW.out.trans (l.mono LW.out.size))
      have kf := KF.out w7 l
      clear l UN KF LW
      rcases H with ⟨d, rfl, u0, u1, u2, u3⟩ | ⟨rfl, u⟩
      · have A1 : Hid (decide (t ≤ x.to d) = true) := (E.out d u0 u1).1 u2
        have D0 : decide (0 ≤ d) = true := decide_eq_true u0
        have D1 : decide (d ≤ 1125899906842624) = true := decide_eq_true u1
        have R1 := Lib.hid (fun w' b => RR.out w' d b u0 u1)
        simp only [A1.out] at R1
        by_cases d0 : d = 0
        · have d1 : (d == 0) = true := by rw [beq_iff_eq]; exact d0
          clear u0 u1 u2 u3 d0 RR A1 E
          go_wp2_with fail
          refine (AL.out w7).mono ?_; rintro e w8 ⟨rfl, l⟩
          have B8 := Lib.hid (B7.out.trans (l.mono B7.out.size))
          have L8 := Lib.hid (LZ.out.trans (l.mono LZ.out.size))
          clear l
          go_wp2_with fail
          refine (R1.out w8 B8.out).mono ?_; rintro e w9 ⟨rfl, l⟩
          have L9 := Lib.hid (L8.out.trans (l.mono L8.out.size))
          clear l
          go_wp2
          go_ret
          exact ⟨rfl, L9.out⟩
        · have d1 : (d == 0) = false := by rw [beq_eq_false_iff_ne]; exact d0
          obtain ⟨d', hd'⟩ : ∃ d', d - 1 = d' := ⟨_, rfl⟩
          have v0 : 0 ≤ d' := by omega
          have v1 : d' ≤ 1125899906842624 := by omega
          have y1 : wrap64 d' = d' := by unfold wrap64; omega
          have y2 : IntKind.i64.wrap d' = d' := by rw [IntKind.wrap_i64]; omega
          have A2 : Hid (decide (t ≤ x.to d') = false) := (E.out d' v0 v1).2 (by rw [← hd']; rcases u3 with q | q; exact absurd q d0; exact q)
          have R2 := Lib.hid (fun w' b => RR.out w' d' b v0 v1)
          simp only [A2.out] at R2
          clear u0 u1 u2 u3 d0 RR A1 A2 E v0 v1
          go_wp2_with fail
          refine (AL.out w7).mono ?_; rintro e w8 ⟨rfl, l⟩
          have B8 := Lib.hid (B7.out.trans (l.mono B7.out.size))
          have L8 := Lib.hid (LZ.out.trans (l.mono LZ.out.size))
          clear l
          go_wp2_with fail
          refine (R1.out w8 B8.out).mono ?_; rintro e w9 ⟨rfl, l⟩
          have B9 := Lib.hid (B8.out.trans (l.mono B8.out.size))
          have L9 := Lib.hid (L8.out.trans (l.mono L8.out.size))
          clear l
          go_wp2_with fail
          refine (R2.out w9 B9.out).mono ?_; rintro e w10 ⟨rfl, l⟩
          have L10 := Lib.hid (L9.out.trans (l.mono L9.out.size))
          clear l
          go_wp2
          go_ret
          exact ⟨rfl, L10.out⟩
      · have A1 : Hid (decide (t ≤ x.to 1125899906842624) = false) := (E.out 1125899906842624 (by decide) (by decide)).2 u
        have R1 := Lib.hid (fun w' b => RR.out w' 1125899906842624 b (by decide) (by decide))
        simp only [A1.out] at R1
        clear u RR A1 E
        go_wp2_with fail
        refine (AL.out w7).mono ?_; rintro e w8 ⟨rfl, l⟩
        have B8 := Lib.hid (B7.out.trans (l.mono B7.out.size))
        have L8 := Lib.hid (LZ.out.trans (l.mono LZ.out.size))
        clear l
        go_wp2_with fail
        refine (R1.out w8 B8.out).mono ?_; rintro e w9 ⟨rfl, l⟩
        have L9 := Lib.hid (L8.out.trans (l.mono L8.out.size))
        clear l
        go_wp2
        go_ret
        exact ⟨rfl, L9.out⟩
    have h' : (q : Int) < (n : Int) := by omega
    have qn : q < n := by omega
    obtain ⟨ad, rfl, c0, c1⟩ := (HP.out.below I.out.fw.low).at qn
    obtain ⟨k, hk⟩ : ∃ k, (zs.getD q (0, 0)).1 = k := ⟨_, rfl⟩
    obtain ⟨v, hv⟩ : ∃ v, (zs.getD q (0, 0)).2 = v := ⟨_, rfl⟩
    rw [hk] at c0
    rw [hv] at c1
    clear hk hv
    have AB : Below wr.heap.size wr (wr.alloc (.cells #[.int .i64 k, .int .i64 v] 29)) := (Below.refl _ _).alloc (Nat.le_refl _) _
    have AK : Hid ((wr.alloc (.cells #[.int .i64 k, .int .i64 v] 29)).heap[wr.heap.size]? = some (.cells #[.int .i64 k, .int .i64 v] 29 (0, 0))) := heap_alloc_new _ _
    have IA := Lib.hid (I.out.below AB)
    by_cases q30 : q = 30
    · have z3 : ((q : Int) == 30) = true := by rw [q30]; rfl
      have z4 : (q == 30) = true := by rw [q30]; rfl
      have z5 : decide (q = 30) = true := by rw [q30]; rfl
      have E := Lib.hid (ahead_end IA.out QB.out t)
      clear hb stop I HP qn q30 AB AK
      go_upto_region 6 with (fail)
      generalize wr.alloc (.cells #[.int .i64 k, .int .i64 v] 29) = wr at *
      replace I := IA
      clear c0 c1
      as_aux_lemma =>
      have UN := Lib.hid (puntil11_any wr N x t I.out.fw.ok I.out.fw.c I.out.fw.f)
      have RR := Lib.hid (fun w' d (b : Below wr.heap.size wr w') h0 h1 => rreached11_any w' M x t d (I.out.r.below b) I.out.fw.ok h0 h1)
      have KF : Hid (∀ w', Below wr.heap.size wr w' → w'.cell? ⟨M, 4, none⟩ = some (.bool false)) := fun w' b => by
        have h := I.out.r.below b
        unfold RClk at h
        rw [I.out.fw.f] at h
        exact blk_cell h
      have LW := Lib.hid I.out.fw.low
      clear I
      go_wp2_with fail
      refine UN.out.mono ?_; rintro e w7 ⟨l, H⟩
      have B7 := Lib.hid l
      have LZ := Lib.hid (LW.out.trans (l.mono LW.out.size))
      have kf := KF.out w7 l
      clear l UN KF LW
      rcases H with ⟨d, rfl, u0, u1, u2, u3⟩ | ⟨rfl, u⟩
      · have A1 : Hid (decide (t ≤ x.to d) = true) := (E.out d u0 u1).1 u2
        have D0 : decide (0 ≤ d) = true := decide_eq_true u0
        have D1 : decide (d ≤ 1125899906842624) = true := decide_eq_true u1
        have R1 := Lib.hid (fun w' b => RR.out w' d b u0 u1)
        simp only [A1.out] at R1
        by_cases d0 : d = 0
        · have d1 : (d == 0) = true := by rw [beq_iff_eq]; exact d0
          clear u0 u1 u2 u3 d0 RR A1 E
          go_wp2_with fail
          refine (AL.out w7).mono ?_; rintro e w8 ⟨rfl, l⟩
          have B8 := Lib.hid (B7.out.trans (l.mono B7.out.size))
          have L8 := Lib.hid (LZ.out.trans (l.mono LZ.out.size))
          clear l
          go_wp2_with fail
          refine (R1.out w8 B8.out).mono ?_; rintro e w9 ⟨rfl, l⟩
          have L9 := Lib.hid (L8.out.trans (l.mono L8.out.size))
          clear l
          go_wp2
          go_ret
          exact ⟨rfl, L9.out⟩
        · have d1 : (d == 0) = false := by rw [beq_eq_false_iff_ne]; exact d0
          obtain ⟨d', hd'⟩ : ∃ d', d - 1 = d' := ⟨_, rfl⟩
          have v0 : 0 ≤ d' := by omega
          have v1 : d' ≤ 1125899906842624 := by omega
          have y1 : wrap64 d' = d' := by unfold wrap64; omega
          have y2 : IntKind.i64.wrap d' = d' := by rw [IntKind.wrap_i64]; omega
          have A2 : Hid (decide (t ≤ x.to d') = false) := (E.out d' v0 v1).2 (by rw [← hd']; rcases u3 with q | q; exact absurd q d0; exact q)
          have R2 := Lib.hid (fun w' b => RR.out w' d' b v0 v1)
          simp only [A2.out] at R2
          clear u0 u1 u2 u3 d0 RR A1 A2 E v0 v1
          go_wp2_with fail
          refine (AL.out w7).mono ?_; rintro e w8 ⟨rfl, l⟩
          have B8 := Lib.hid (B7.out.trans (l.mono B7.out.size))
          have L8 := Lib.hid (LZ.out.trans (l.mono LZ.out.size))
          clear l
          go_wp2_with fail
          refine (R1.out w8 B8.out).mono ?_; rintro e w9 ⟨rfl, l⟩
          have B9 := Lib.hid (B8.out.trans (l.mono B8.out.size))
          have L9 := Lib.hid (L8.out.trans (l.mono L8.out.size))
          clear l
          go_wp2_with fail
          refine (R2.out w9 B9.out).mono ?_; rintro e w10 ⟨rfl, l⟩
          have L10 := Lib.hid (L9.out.trans (l.mono L9.out.size))
          clear l
          go_wp2
          go_ret
          exact ⟨rfl, L10.out⟩
      · have A1 : Hid (decide (t ≤ x.to 1125899906842624) = false) := (E.out 1125899906842624 (by decide) (by decide)).2 u
        have R1 := Lib.hid (fun w' b => RR.out w' 1125899906842624 b (by decide) (by decide))
        simp only [A1.out] at R1
        clear u RR A1 E
        go_wp2_with fail
        refine (AL.out w7).mono ?_; rintro e w8 ⟨rfl, l⟩
        have B8 := Lib.hid (B7.out.trans (l.mono B7.out.size))
        have L8 := Lib.hid (LZ.out.trans (l.mono LZ.out.size))
        clear l
        go_wp2_with fail
        refine (R1.out w8 B8.out).mono ?_; rintro e w9 ⟨rfl, l⟩
        have L9 := Lib.hid (L8.out.trans (l.mono L8.out.size))
        clear l
        go_wp2
        go_ret
        exact ⟨rfl, L9.out⟩
    have z3 : ((q : Int) == 30) = false := by rw [beq_eq_false_iff_ne]; omega
    have z4 : (q == 30) = false := by rw [beq_eq_false_iff_ne]; omega
    have z5 : decide (q = 30) = false := decide_eq_false q30
    have z6 : (q : Int) < 30 := by have := hb.out.2; omega
    have NB : Hid (q + 1 ≤ n ∧ q + 1 ≤ 30) := by have := hb.out.2; unfold Hid; omega
    clear hb stop I HP qn q30 AB AL
    go_upto_region 6 with (fail)
    generalize wr.alloc (.cells #[.int .i64 k, .int .i64 v] 29) = v0 at *
    generalize wr.heap.size = Na at *
    clear c0 c1
    have NA : Hid (Na ≠ N ∧ Na ≠ M) := act_ne AK.out IA.out
    have b0 := blk_cell (o := 0) AK.out
    have b1 := blk_cell (o := 1) AK.out
    simp only [List.getElem?_toArray, List.getElem?_cons_zero, List.getElem?_cons_succ] at b0 b1
    by_cases k1 : k = 1
    · have k2 : (k == 1) = true := by rw [k1]; rfl
      clear k1
      as_aux_lemma =>
      have S0 := Lib.hid (psetrate11_any v0 N x v IA.out.fw.c)
      have S1 := Lib.hid (fun w' c => rsetrate11_any w' M x v c)
      obtain ⟨e, he⟩ : ∃ e, rateE v = e := ⟨_, rfl⟩
      simp only [he] at S0 S1
      clear he
      go_wp2_with fail
      refine S0.out.mono ?_; rintro r w6 ⟨rfl, cc, tt⟩
      replace AK : Hid (w6.heap[Na]? = some (.cells #[.int .i64 k, .int .i64 v] 29 (0, 0))) := (tt.keep Na NA.out.1 (Array.getElem?_eq_some_iff.1 AK.out).1).trans AK.out
      have F2 := Lib.hid (fwd_rate IA.out.fw IA.out.hN cc tt)
      have R2 := Lib.hid (tt.rclk IA.out.r IA.out.ne.symm)
      have b2 := blk_cell (o := 1) AK.out
      simp only [List.getElem?_toArray, List.getElem?_cons_zero, List.getElem?_cons_succ] at b2
      clear cc tt S0 b0 b1 AK
      go_wp2_with fail
      refine (S1.out w6 R2.out).mono ?_; rintro r w7 ⟨rfl, cc, tt⟩
      have I2 : Hid (Both w w7 N M (rateX x v) (q + 1)) := ⟨F2.out.turn tt IA.out.ne IA.out.hM, cc, IA.out.ne, IA.out.hN, IA.out.hM⟩
      clear cc tt S1 F2 R2 IA b2
      go_wp2
      go_roundw
      case rel => exact ⟨q + 1, rateX x v, by go_num, NB.out, I2.out⟩
      case measure => simp [intOf]; omega
    · have k2 : (k == 1) = false := by rw [beq_eq_false_iff_ne]; exact k1
      clear k1
      as_aux_lemma =>
      have G := Lib.hid (both_go IA.out QB.out v)
      clear QB
      obtain ⟨y, e1, e2, g1, g2, G1, G2, G3, -, -⟩ := G.out
      clear G
      have G1 := Lib.hid G1
      have G2 := Lib.hid G2
      have G3 := Lib.hid G3
      go_wp2_with fail
      refine G1.out.mono ?_; rintro r w6 ⟨rfl, cc, tt⟩
      replace AK : Hid (w6.heap[Na]? = some (.cells #[.int .i64 k, .int .i64 v] 29 (0, 0))) := (tt.keep Na NA.out.1 (Array.getElem?_eq_some_iff.1 AK.out).1).trans AK.out
      have F2 := Lib.hid (G3.out w6 cc tt)
      have R2 := Lib.hid (tt.rclk IA.out.r IA.out.ne.symm)
      have b2 := blk_cell (o := 1) AK.out
      simp only [List.getElem?_toArray, List.getElem?_cons_zero, List.getElem?_cons_succ] at b2
      clear cc tt G1 G3 b0 b1 AK
      go_wp2_with fail
      refine (G2.out w6 R2.out).mono ?_; rintro r w7 ⟨rfl, cc, tt⟩
      have I2 : Hid (Both w w7 N M y (q + 1)) := ⟨F2.out.turn tt IA.out.ne IA.out.hM, cc, IA.out.ne, IA.out.hN, IA.out.hM⟩
      clear cc tt G2 F2 R2 IA b2
      go_wp2
      go_roundw
      case rel => exact ⟨q + 1, y, by go_num, NB.out, I2.out⟩
      case measure => simp [intOf]; omega
end Go.Proofs.Ytogkjgglpokkaaa
