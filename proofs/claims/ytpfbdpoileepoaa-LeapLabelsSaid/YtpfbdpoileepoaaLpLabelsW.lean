/- LeapLabels, the walk, work ahead: one label. -/
import Derived.Test.YtpfbdpoileepoaaLpF
import Derived.Test.YtpfbdpoileepoaaMask
import Derived.Deep.DeepCutAuto
import Derived.Deep.CutBlock
import Derived.Deep.CutRange
set_option maxRecDepth 100000
namespace Go.Proofs.Ytpfbdpoileepoaa
open Go.ChangeShapes Go.WideShapes Go.ChangeAt Go.RowKit SmM

theorem i16_rem (b : Int) : ∃ q, b.tmod 1001 = q ∧ -1000 ≤ q ∧ q ≤ 1000 := by
  refine ⟨b.tmod 1001, rfl, ?_⟩
  rw [Int.tmod_eq_emod]
  split <;> omega
set_option maxHeartbeats 8000000 in
theorem labels16_walk (C : LCode) (w : World) (p : Option Addr) (n c : Nat) (ds : List Nat) (h : Holds w p n c (valsN .u8 ds)) (hd : ∀ d ∈ ds, d < 256) (b x y : Int) (near : Bool) :
    Calls Try.prog 5 #[.slice p n c, .int .i16 b, .int .i64 x, .int .i64 y, .bool near] w fun r w' => r = .returned (.bool true) ∧ Below w.heap.size w w' := by
  obtain ⟨q, hq, q0, q1⟩ := i16_rem b
  have MA := Lib.hid (made16 C w p n c ds h hd q ⟨q0, q1⟩)
  have AW := Lib.hid (alive16 C)
  have l20 := List.length_take_le 20 ds
  have OK := Lib.hid (mkD_ok l20)
  have FA := Lib.hid (mkD_far l20)
  have LL : Hid ((mkD dayI (ds.take 20)).length ≤ 20) := by unfold Hid; rw [mkD_len]; exact l20
  generalize mkD dayI (ds.take 20) = l at *
  have Q1 : IntKind.i16.wrap q = q := by unfold IntKind.wrap; simp [IntKind.bits, IntKind.signed]; omega
  have Q2 := wr16 (x := q) (by unfold I64; omega)
  obtain ⟨Q3, Q4⟩ := Q2
  obtain ⟨u, hu⟩ : ∃ u, bits .and .i64 x 4611686018427387903 = u := ⟨_, rfl⟩
  have ub := mask_low x 4611686018427387903 (by decide)
  rw [show ((4611686018427387903 : Nat) : Int) = 4611686018427387903 from rfl, hu] at ub
  obtain ⟨v, hv⟩ : ∃ v, bits .and .i64 y 4611686018427387903 = v := ⟨_, rfl⟩
  have vb := mask_low y 4611686018427387903 (by decide)
  rw [show ((4611686018427387903 : Nat) : Int) = 4611686018427387903 from rfl, hv] at vb
  have UB := Lib.hid ub
  have VB := Lib.hid vb
  clear h hd l20 ub vb q0 q1
  go_enter Try.func5, Try.ntmps5
  go_wp2_with fail
  refine MA.out.mono ?_; rintro r1 w1 ⟨N, F, p', m, c', rfl, t1, h1, -, b1⟩
  have T1 := Lib.hid t1
  have H1 := Lib.hid h1
  have L1 := Lib.hid b1
  have mb : (m : Int) ≤ 20 := by have := h1.len; have := LL.out; omega
  have m0 : (0 : Int) ≤ (m : Int) := by omega
  clear t1 h1 b1 MA hq Q1 Q3 Q4
  go_upto_region 5 with fail
  clear hu hv
  go_cut [40] from 35 to 40 (fun k wx => ∃ z : Bool, k = .bool z ∧ Hid (z = true → 0 < m) ∧ wx = w1)
  case first =>
    cases near
    · go_wp2_with fail
      go_meet
      exact ⟨false, rfl, (fun e => by cases e), rfl⟩
    · by_cases g : 0 < m
      · have g1 : (0 : Int) < (m : Int) := by omega
        have g2 : decide ((0 : Int) < (m : Int)) = true := decide_eq_true g1
        have G : Hid (0 < m) := g
        clear g
        go_wp2_with fail
        go_meet
        exact ⟨true, congrArg Value.bool (decide_eq_true G.out), fun _ => G.out, rfl⟩
      · have g2 : decide ((0 : Int) < (m : Int)) = false := decide_eq_false (by omega)
        have g3 : ¬ (0 : Int) < (m : Int) := by omega
        have G : Hid (¬ 0 < m) := g
        clear g
        go_wp2_with fail
        go_meet
        exact ⟨false, congrArg Value.bool (decide_eq_false G.out), (fun e => by cases e), rfl⟩
  obtain ⟨z, rfl, ZM, rfl⟩ := hcut
  go_upto_if 40 with fail
  go_cut [2, 3] from 41 to 60 (fun aa bb wx => ∃ f g : Int, aa = .int .i64 f ∧ bb = .int .i64 g ∧ Hid ((0 ≤ f ∧ f ≤ topI) ∧ 0 ≤ g ∧ g ≤ topI) ∧ wx = wc)
  case first =>
    cases z
    · have F : Hid ((0 ≤ u ∧ u ≤ topI) ∧ 0 ≤ v ∧ v ≤ topI) := by have := UB.out; have := VB.out; unfold Hid topI; omega
      go_wp2_with fail
      go_meet
      exact ⟨u, v, rfl, rfl, F, rfl⟩
    · have mp := ZM.out rfl
      obtain ⟨un, hun⟩ : ∃ un : Nat, u = (un : Int) := ⟨u.toNat, by have := UB.out; omega⟩
      obtain ⟨j, hj⟩ : ∃ j, un % m = j := ⟨_, rfl⟩
      have jm : j < m := by rw [← hj]; exact Nat.mod_lt _ mp
      obtain ⟨ap, rfl, c0, -⟩ := H1.out.cell j jm
      have XI := FA.out _ (gl_mem (l := l) (i := j) (by rw [H1.out.len]; exact jm))
      obtain ⟨xt, hxt⟩ : ∃ xt, (gl l j).t = xt := ⟨_, rfl⟩
      rw [hxt] at c0 XI
      unfold dayI at XI
      have u64 : IntKind.u64.wrap u = u := by rw [IntKind.wrap_u64]; have := UB.out; omega
      have m64 : IntKind.u64.wrap ((m : Nat) : Int) = ((m : Nat) : Int) := by rw [IntKind.wrap_u64]; omega
      have j64 : IntKind.u64.wrap ((j : Nat) : Int) = ((j : Nat) : Int) := by rw [IntKind.wrap_u64]; omega
      have hr : u.tmod ((m : Nat) : Int) = ((j : Nat) : Int) := by rw [hun, Int.tmod_eq_emod_of_nonneg (by omega), ← hj]; rfl
      have mn : ((m : Int) == 0) = false := by rw [beq_eq_false_iff_ne]; omega
      have mz : ¬ (m : Int) = 0 := by omega
      have mq : ¬ m = 0 := by omega
      have mi : (0 : Int) < (m : Int) := by omega
      have j0 : (0 : Int) ≤ (j : Int) := by omega
      have j1 : (j : Int) < (m : Int) := by omega
      obtain ⟨r3, hr3⟩ : ∃ r3, u.tmod 3000000000 = r3 := ⟨_, rfl⟩
      obtain ⟨r5, hr5⟩ : ∃ r5, v.tmod 5000000000 = r5 := ⟨_, rfl⟩
      have r3b : 0 ≤ r3 ∧ r3 < 3000000000 := by rw [← hr3, Int.tmod_eq_emod_of_nonneg UB.out.1]; omega
      have r5b : 0 ≤ r5 ∧ r5 < 5000000000 := by rw [← hr5, Int.tmod_eq_emod_of_nonneg VB.out.1]; omega
      obtain ⟨s1, hs1⟩ : ∃ s1, xt + r3 = s1 := ⟨_, rfl⟩
      obtain ⟨s2, hs2⟩ : ∃ s2, s1 - 1000000000 = s2 := ⟨_, rfl⟩
      obtain ⟨s3, hs3⟩ : ∃ s3, s2 + r5 = s3 := ⟨_, rfl⟩
      obtain ⟨s4, hs4⟩ : ∃ s4, s3 - 2000000000 = s4 := ⟨_, rfl⟩
      have F : Hid ((0 ≤ s2 ∧ s2 ≤ topI) ∧ 0 ≤ s4 ∧ s4 ≤ topI) := by unfold Hid topI; omega
      have I1 : Hid (I64 r3 ∧ I64 r5 ∧ I64 s1 ∧ I64 s2 ∧ I64 s3 ∧ I64 s4 ∧ I64 ((j : Nat) : Int)) := by unfold Hid I64; omega
      obtain ⟨e1, e2⟩ := wr16 I1.out.1
      obtain ⟨e3, e4⟩ := wr16 I1.out.2.1
      obtain ⟨e5, e6⟩ := wr16 I1.out.2.2.1
      obtain ⟨e7, e8⟩ := wr16 I1.out.2.2.2.1
      obtain ⟨e9, e10⟩ := wr16 I1.out.2.2.2.2.1
      obtain ⟨e11, e12⟩ := wr16 I1.out.2.2.2.2.2.1
      obtain ⟨e13, e14⟩ := wr16 I1.out.2.2.2.2.2.2
      clear hun hj jm XI hxt r3b r5b mp ZM
      go_wp2_with fail
      go_meet
      exact ⟨s2, s4, rfl, rfl, F, rfl⟩
  obtain ⟨f, g, rfl, rfl, FB, rfl⟩ := hcut
  have LB := Lib.hid (fun z => off_bound OK.out (show l.length ≤ 32 by have := LL.out; omega) (C.ok T1.out).2.2.2 z)
  obtain ⟨p1, hp1⟩ : ∃ p1, labI l q f = p1 := ⟨_, rfl⟩
  obtain ⟨p2, hp2⟩ : ∃ p2, labI l q g = p2 := ⟨_, rfl⟩
  obtain ⟨i1, hi1⟩ : ∃ i1, insB l f = i1 := ⟨_, rfl⟩
  obtain ⟨i2, hi2⟩ : ∃ i2, insB l g = i2 := ⟨_, rfl⟩
  have P1 := Lib.hid hp1
  have P2 := Lib.hid hp2
  have I1 := Lib.hid hi1
  have I2 := Lib.hid hi2
  have T1 := Lib.hid T1.out
  have LA := Lib.hid (fun w' (k : Below wc.heap.size wc w') z (tz : TmI z) => C.label z (C.below T1.out k) tz)
  have EV : Hid (∀ w' z pz iz, Below wc.heap.size wc w' → (0 ≤ z ∧ z ≤ topI) → labI l q z = pz → insB l z = iz → Calls Try.prog 22 #[.pointer (some ⟨N, 0, none⟩), .int .i64 pz, .bool iz] w' fun r w'' => r = .returned (.tuple #[.int .i64 z, .bool true]) ∧ Below w'.heap.size w' w'') := fun w' z pz iz k zb e1 e2 =>
    (C.even pz iz (C.below T1.out k) (by
      have ob := LB.out z
      unfold topI at zb
      unfold labI at e1
      omega)).mono fun r w'' ⟨⟨t, b', e, h⟩, b⟩ => by
      rw [← e1, ← e2] at h
      obtain ⟨rfl, rfl⟩ := even_lab OK.out zb.1 zb.2 h
      exact ⟨e, b⟩
  have TF : Hid (TmI f ∧ TmI g) := by have := FB.out; unfold topI at this; unfold Hid TmI; omega
  have K0 : Below wc.heap.size wc wc := Below.refl _ _
  clear hp1 hp2 hi1 hi2 FA H1 ZM UB VB LB
  go_wp2_with fail
  refine (LA.out _ K0 f TF.out.1).mono ?_; rintro r2 w2 ⟨rfl, b2⟩
  have k2 := K0.trans (b2.mono K0.size)
  rw [P1.out, I1.out]
  clear b2 K0
  go_wp2_with fail
  refine (LA.out _ k2 g TF.out.2).mono ?_; rintro r3 w3 ⟨rfl, b3⟩
  have k3 := k2.trans (b3.mono k2.size)
  rw [P2.out, I2.out]
  clear b3 k2 LA
  go_wp2_with fail
  refine (EV.out _ f p1 i1 k3 FB.out.1 P1.out I1.out).mono ?_; rintro r4 w4 ⟨rfl, b4⟩
  have k4 := k3.trans (b4.mono k3.size)
  clear b4 k3
  go_wp2_with fail
  refine (EV.out _ g p2 i2 k4 FB.out.2 P2.out I2.out).mono ?_; rintro r5 w5 ⟨rfl, b5⟩
  have k5 := k4.trans (b5.mono k4.size)
  clear b5 k4 EV
  /- the end: begin -/
  by_cases fg : f = g
  · subst fg
    have e1 : p2 = p1 := P2.out.symm.trans P1.out
    have e2 : i2 = i1 := I2.out.symm.trans I1.out
    subst e1 e2
    have f1 : (f != f) = false := by simp
    have f2 : decide (f < f) = false := decide_eq_false (by omega)
    have f3 : decide (p2 < p2) = false := decide_eq_false (by omega)
    cases i2
    · go_wp2_with fail
      refine (AW.out _).mono ?_; rintro e w9 ⟨rfl, b9⟩
      have L9 := Lib.hid (L1.out.trans ((k5.trans (b9.mono k5.size)).mono L1.out.size))
      clear b9 k5
      go_wp2
      go_ret
      exact ⟨rfl, L9.out⟩
    · go_wp2_with fail
      refine (AW.out _).mono ?_; rintro e w9 ⟨rfl, b9⟩
      have L9 := Lib.hid (L1.out.trans ((k5.trans (b9.mono k5.size)).mono L1.out.size))
      clear b9 k5
      go_wp2
      go_ret
      exact ⟨rfl, L9.out⟩
  · have f1 : (f != g) = true := by rw [bne_iff_ne]; exact fg
    by_cases pq : p1 = p2
    · have q1 : (p1 == p2) = true := by rw [beq_iff_eq]; exact pq
      have ne : i1 ≠ i2 := fun e => fg (lab_inj OK.out q (I1.out.trans (e.trans I2.out.symm)) (P1.out.trans (pq.trans P2.out.symm)))
      cases i1
      · cases i2
        · exact absurd rfl ne
        · clear ne fg pq
          go_wp2_with fail
          refine (AW.out _).mono ?_; rintro e w9 ⟨rfl, b9⟩
          have L9 := Lib.hid (L1.out.trans ((k5.trans (b9.mono k5.size)).mono L1.out.size))
          clear b9 k5
          go_wp2
          go_ret
          exact ⟨rfl, L9.out⟩
      · cases i2
        · clear ne fg pq
          go_wp2_with fail
          refine (AW.out _).mono ?_; rintro e w9 ⟨rfl, b9⟩
          have L9 := Lib.hid (L1.out.trans ((k5.trans (b9.mono k5.size)).mono L1.out.size))
          clear b9 k5
          go_wp2
          go_ret
          exact ⟨rfl, L9.out⟩
        · exact absurd rfl ne
    · have q1 : (p1 == p2) = false := by rw [beq_eq_false_iff_ne]; exact pq
      cases i1
      · cases i2
        · have ie : insB l f = insB l g := I1.out.trans I2.out.symm
          rcases Int.lt_or_le f g with c | c
          · have lt := lab_lt OK.out q c ie
            rw [P1.out, P2.out] at lt
            have f2 : decide (f < g) = true := decide_eq_true c
            have f3 : decide (p1 < p2) = true := decide_eq_true lt
            clear fg pq lt c ie
            go_wp2_with fail
            refine (AW.out _).mono ?_; rintro e w9 ⟨rfl, b9⟩
            have L9 := Lib.hid (L1.out.trans ((k5.trans (b9.mono k5.size)).mono L1.out.size))
            clear b9 k5
            go_wp2
            go_ret
            exact ⟨rfl, L9.out⟩
          · have lt := lab_lt OK.out q (show g < f by omega) ie.symm
            rw [P1.out, P2.out] at lt
            have f2 : decide (f < g) = false := decide_eq_false (by omega)
            have f3 : decide (p1 < p2) = false := decide_eq_false (by omega)
            clear fg pq lt c ie
            go_wp2_with fail
            refine (AW.out _).mono ?_; rintro e w9 ⟨rfl, b9⟩
            have L9 := Lib.hid (L1.out.trans ((k5.trans (b9.mono k5.size)).mono L1.out.size))
            clear b9 k5
            go_wp2
            go_ret
            exact ⟨rfl, L9.out⟩
        · clear fg pq
          go_wp2_with fail
          refine (AW.out _).mono ?_; rintro e w9 ⟨rfl, b9⟩
          have L9 := Lib.hid (L1.out.trans ((k5.trans (b9.mono k5.size)).mono L1.out.size))
          clear b9 k5
          go_wp2
          go_ret
          exact ⟨rfl, L9.out⟩
      · clear fg pq
        go_wp2_with fail
        refine (AW.out _).mono ?_; rintro e w9 ⟨rfl, b9⟩
        have L9 := Lib.hid (L1.out.trans ((k5.trans (b9.mono k5.size)).mono L1.out.size))
        clear b9 k5
        go_wp2
        go_ret
        exact ⟨rfl, L9.out⟩
end Go.Proofs.Ytpfbdpoileepoaa
