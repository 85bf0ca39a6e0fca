/- LeapSmeared, the walk, work ahead: the offset and the smeared time (package smear's contracts are the real ones: XSmE, XSmG, XSmH). -/
import Derived.Test.YtpfbdpoileepoaaLpF
import Derived.Test.YtpfbdpoileepoaaLpQ
import Derived.Test.YtpfbdpoileepoaaSmH
import Derived.Test.YtpfbdpoileepoaaMask
import Derived.Deep.DeepCutAuto
import Derived.Deep.CutBlock
import Derived.Deep.CutRange
set_option maxRecDepth 100000
namespace Go.Proofs.Ytpfbdpoileepoaa
open Go.ChangeShapes Go.WideShapes Go.ChangeAt Go.RowKit SmM

theorem i16_rem (b : Int) : ∃ q, b.tmod 1001 = q ∧ -1000 ≤ q ∧ q ≤ 1000 := by
  refine ⟨b.tmod 1001, rfl, ?_⟩
  rw [Int.tmod_eq_emod]
  split <;> omega
theorem i16_same {q : Int} (h : -1000 ≤ q ∧ q ≤ 1000) : IntKind.i16.wrap q = q := by unfold IntKind.wrap; simp [IntKind.bits, IntKind.signed]; omega
theorem new_smear {w : World} {p : Option Addr} {n c : Nat} {l : List Lp} (h : HoldsL w p n c l) (ok : OkL l) (few : l.length ≤ 32) :
    Calls Try.prog 25 #[.slice p n c] w fun e w9 => ∃ N q d, e = .returned (.tuple #[.pointer (some ⟨N, 0, none⟩), .int .i64 0]) ∧ PSm w9 N q d l ∧ Below w.heap.size w w9 := by
  refine (pnew15 w p n c l h (fun y hy => by
    have q := ok.1 y hy
    unfold dayI topI at q
    unfold I64
    omega)).mono fun e w9 h9 => ?_
  obtain ⟨b9, ⟨-, -, N, q, d, e9, t9, -⟩ | ⟨r, ne, r0, -⟩⟩ := h9
  · exact ⟨N, q, d, e9, t9, b9⟩
  · exfalso
    rcases ne with ⟨-, z⟩ | ⟨-, ⟨z, -⟩ | ⟨-, z⟩⟩
    · omega
    · exact r0 z
    · exact z ok
set_option maxHeartbeats 8000000 in
theorem smeared16_walk (C : LCode) (w : World) (p : Option Addr) (n c : Nat) (ds : List Nat) (h : Holds w p n c (valsN .u8 ds)) (hd : ∀ d ∈ ds, d < 256) (b x : Int) (near : Bool) :
    Calls Try.prog 8 #[.slice p n c, .int .i16 b, .int .i64 x, .bool near] w fun r w' => r = .returned (.bool true) ∧ Below w.heap.size w w' := by
  obtain ⟨q, hq, q0, q1⟩ := i16_rem b
  have MA := Lib.hid (made16 C w p n c ds h hd q ⟨q0, q1⟩)
  have AW := Lib.hid (alive16 C)
  have l20 := List.length_take_le 20 ds
  have OK := Lib.hid (mkD_ok l20)
  have FA := Lib.hid (mkD_far l20)
  have LL : Hid ((mkD dayI (ds.take 20)).length ≤ 20) := by unfold Hid; rw [mkD_len]; exact l20
  generalize mkD dayI (ds.take 20) = l at *
  have QB : Hid (-1000 ≤ q ∧ q ≤ 1000) := ⟨q0, q1⟩
  have HQ := Lib.hid hq
  have Q1 := i16_same QB.out
  obtain ⟨Q3, Q4⟩ := wr16 (x := q) (by unfold I64; omega)
  obtain ⟨u, hu⟩ : ∃ u, bits .and .i64 x 4611686018427387903 = u := ⟨_, rfl⟩
  have ub := mask_low x 4611686018427387903 (by decide)
  rw [show ((4611686018427387903 : Nat) : Int) = 4611686018427387903 from rfl, hu] at ub
  have UB := Lib.hid ub
  clear h hd l20 ub q0 q1
  go_enter Try.func8, Try.ntmps8
  go_wp2_with fail
  refine MA.out.mono ?_; rintro r1 w1 ⟨N, F, p', m, c', rfl, t1, h1, -, b1⟩
  have T1 := Lib.hid t1
  have H1 := Lib.hid h1
  have L1 := Lib.hid b1
  have mb : (m : Int) ≤ 20 := by have := h1.len; have := LL.out; omega
  have m0 : (0 : Int) ≤ (m : Int) := by omega
  have SN := Lib.hid (new_smear h1 OK.out (by have := LL.out; omega))
  clear t1 h1 b1 MA hq Q1 Q3 Q4
  go_wp2_with fail
  refine SN.out.mono ?_; rintro r2 w2 ⟨N2, q2, d2, rfl, t2, b2⟩
  have T2 := Lib.hid t2
  have H2 := Lib.hid (H1.out.below b2)
  have T12 := Lib.hid (C.below T1.out b2)
  have L2 := Lib.hid (L1.out.trans (b2.mono L1.out.size))
  clear t2 b2 SN T1 H1 L1
  go_upto_region 6 with fail
  clear hu
  go_cut [44] from 39 to 44 (fun k wx => ∃ z : Bool, k = .bool z ∧ Hid (z = true → 0 < m) ∧ wx = w2)
  case first =>
    cases near
    · go_wp2_with fail
      go_meet
      exact ⟨false, rfl, (fun e => by cases e), rfl⟩
    · by_cases g : 0 < m
      · have g1 : (0 : Int) < (m : Int) := by omega
        have g2 : decide ((0 : Int) < (m : Int)) = true := decide_eq_true g1
        have G : Hid (0 < m) := g
        clear g
        go_wp2_with fail
        go_meet
        exact ⟨true, congrArg Value.bool (decide_eq_true G.out), fun _ => G.out, rfl⟩
      · have g2 : decide ((0 : Int) < (m : Int)) = false := decide_eq_false (by omega)
        have g3 : ¬ (0 : Int) < (m : Int) := by omega
        have G : Hid (¬ 0 < m) := g
        clear g
        go_wp2_with fail
        go_meet
        exact ⟨false, congrArg Value.bool (decide_eq_false G.out), (fun e => by cases e), rfl⟩
  obtain ⟨z, rfl, ZM, rfl⟩ := hcut
  go_upto_if 44 with fail
  go_cut [2, 13] from 45 to 66 (fun aa _ wx => ∃ f : Int, aa = .int .i64 f ∧ Hid (0 ≤ f ∧ f ≤ topI) ∧ wx = wc)
  case first =>
    cases z
    · have F : Hid (0 ≤ u ∧ u ≤ topI) := by have := UB.out; unfold Hid topI; omega
      go_wp2_with fail
      go_meet
      exact ⟨u, rfl, F, rfl⟩
    · have mp := ZM.out rfl
      obtain ⟨un, hun⟩ : ∃ un : Nat, u = (un : Int) := ⟨u.toNat, by have := UB.out; omega⟩
      obtain ⟨j, hj⟩ : ∃ j, un % m = j := ⟨_, rfl⟩
      have jm : j < m := by rw [← hj]; exact Nat.mod_lt _ mp
      obtain ⟨ap, rfl, c0, -⟩ := H2.out.cell j jm
      have XI := FA.out _ (gl_mem (l := l) (i := j) (by rw [H2.out.len]; exact jm))
      obtain ⟨xt, hxt⟩ : ∃ xt, (gl l j).t = xt := ⟨_, rfl⟩
      rw [hxt] at c0 XI
      unfold dayI at XI
      have u64 : IntKind.u64.wrap u = u := by rw [IntKind.wrap_u64]; have := UB.out; omega
      have m64 : IntKind.u64.wrap ((m : Nat) : Int) = ((m : Nat) : Int) := by rw [IntKind.wrap_u64]; omega
      have j64 : IntKind.u64.wrap ((j : Nat) : Int) = ((j : Nat) : Int) := by rw [IntKind.wrap_u64]; omega
      have hr : u.tmod ((m : Nat) : Int) = ((j : Nat) : Int) := by rw [hun, Int.tmod_eq_emod_of_nonneg (by omega), ← hj]; rfl
      have mn : ((m : Int) == 0) = false := by rw [beq_eq_false_iff_ne]; omega
      have mz : ¬ (m : Int) = 0 := by omega
      have mq : ¬ m = 0 := by omega
      have mi : (0 : Int) < (m : Int) := by omega
      have j0 : (0 : Int) ≤ (j : Int) := by omega
      have j1 : (j : Int) < (m : Int) := by omega
      obtain ⟨r3, hr3⟩ : ∃ r3, u.tmod 3 = r3 := ⟨_, rfl⟩
      obtain ⟨r4, hr4⟩ : ∃ r4, u.tmod 4000000000 = r4 := ⟨_, rfl⟩
      have r3b : 0 ≤ r3 ∧ r3 < 3 := by rw [← hr3, Int.tmod_eq_emod_of_nonneg UB.out.1]; omega
      have r4b : 0 ≤ r4 ∧ r4 < 4000000000 := by rw [← hr4, Int.tmod_eq_emod_of_nonneg UB.out.1]; omega
      obtain ⟨s1, hs1⟩ : ∃ s1, r3 - 1 = s1 := ⟨_, rfl⟩
      obtain ⟨s2, hs2⟩ : ∃ s2, s1 * 86400000000000 = s2 := ⟨_, rfl⟩
      obtain ⟨s3, hs3⟩ : ∃ s3, s1 * 43200000000000 = s3 := ⟨_, rfl⟩
      have hs32 : s2.tdiv 2 = s3 := by rw [show s2 = s3 * 2 by omega, Int.mul_tdiv_cancel _ (by decide)]
      obtain ⟨s4, hs4⟩ : ∃ s4, xt + s3 = s4 := ⟨_, rfl⟩
      obtain ⟨s5, hs5⟩ : ∃ s5, s4 + r4 = s5 := ⟨_, rfl⟩
      obtain ⟨s6, hs6⟩ : ∃ s6, s5 - 2000000000 = s6 := ⟨_, rfl⟩
      have F : Hid (0 ≤ s6 ∧ s6 ≤ topI) := by unfold Hid topI; omega
      have I1 : Hid (I64 r3 ∧ I64 r4 ∧ I64 s1 ∧ I64 s2 ∧ I64 s3 ∧ I64 s4 ∧ I64 s5 ∧ I64 s6 ∧ I64 ((j : Nat) : Int)) := by unfold Hid I64; omega
      obtain ⟨e1, e2⟩ := wr16 I1.out.1
      obtain ⟨e3, e4⟩ := wr16 I1.out.2.1
      obtain ⟨e5, e6⟩ := wr16 I1.out.2.2.1
      obtain ⟨e7, e8⟩ := wr16 I1.out.2.2.2.1
      obtain ⟨e9, e10⟩ := wr16 I1.out.2.2.2.2.1
      obtain ⟨e11, e12⟩ := wr16 I1.out.2.2.2.2.2.1
      obtain ⟨e13, e14⟩ := wr16 I1.out.2.2.2.2.2.2.1
      obtain ⟨e15, e16⟩ := wr16 I1.out.2.2.2.2.2.2.2.1
      obtain ⟨e17, e18⟩ := wr16 I1.out.2.2.2.2.2.2.2.2
      clear hun hj jm XI hxt r3b r4b mp ZM hs3
      go_wp2_with fail
      go_meet
      exact ⟨s6, rfl, F, rfl⟩
  obtain ⟨f, rfl, FB, rfl⟩ := hcut
  have ob := off_bound OK.out (show l.length ≤ 32 by have := LL.out; omega) QB.out f
  have tb := to_bound (show l.length ≤ 32 by have := LL.out; omega) FB.out.1 FB.out.2
  have kk : ∀ y ∈ l, y.k = 1 ∨ y.k = -1 := fun y hy => (FA.out y hy).2.2
  have ci := cuts_in OK.out.2 kk f
  have co := fun hw => cuts_out kk (within_no (l := l) (t := f) hw)
  unfold cutsI at ci co
  have te : toI l f = f - takenI l f := by unfold toI; rw [near_of FB.out.1 FB.out.2]
  have nf : nearI f = f := near_of FB.out.1 FB.out.2
  obtain ⟨o, ho⟩ : ∃ o, offI l q f = o := ⟨_, rfl⟩
  have oe : o = q + kindsI l f := ho.symm
  obtain ⟨s1, hs1⟩ : ∃ s1, o - q = s1 := ⟨_, rfl⟩
  obtain ⟨s2, hs2⟩ : ∃ s2, s1 * 1000000000 = s2 := ⟨_, rfl⟩
  obtain ⟨s3, hs3⟩ : ∃ s3, f - s2 = s3 := ⟨_, rfl⟩
  obtain ⟨T, hT⟩ : ∃ T, toI l f = T := ⟨_, rfl⟩
  obtain ⟨s4, hs4⟩ : ∃ s4, T - s3 = s4 := ⟨_, rfl⟩
  rw [ho] at ob
  rw [hT] at te tb
  have s4e : s4 = kindsI l f * 1000000000 - takenI l f := by omega
  rw [← s4e] at ci co
  have fb := FB.out
  unfold topI at fb
  have qb := QB.out
  have I1 : Hid (I64 s1 ∧ I64 s2 ∧ I64 s3 ∧ I64 s4 ∧ I64 q) := by unfold Hid I64; omega
  have HO := Lib.hid ho
  have HT := Lib.hid hT
  have CO := Lib.hid co
  have CI := Lib.hid ci
  have NF := Lib.hid nf
  have TF : Hid (TmI f) := by unfold Hid TmI; omega
  have Q1 := i16_same QB.out
  have hq := HQ.out
  obtain ⟨e1, e2⟩ := wr16 I1.out.1
  obtain ⟨e3, e4⟩ := wr16 I1.out.2.1
  obtain ⟨e5, e6⟩ := wr16 I1.out.2.2.1
  obtain ⟨e7, e8⟩ := wr16 I1.out.2.2.2.1
  obtain ⟨e9, e10⟩ := wr16 I1.out.2.2.2.2
  clear ob tb kk ci co te nf ho oe hT s4e fb qb UB ZM H2
  go_wp2_with fail
  refine (C.offset f T12.out TF.out).mono ?_; rintro r3 w3 ⟨rfl, b3⟩
  rw [HO.out]
  have P3 := Lib.hid (T2.out.below b3)
  have L3 := Lib.hid (L2.out.trans (b3.mono L2.out.size))
  clear b3 T12 T2 L2
  go_wp2_with fail
  refine (pto_any P3.out.has f).mono ?_; rintro r4 w4 ⟨rfl, b4⟩
  rw [HT.out]
  have P4 := Lib.hid (P3.out.below b4)
  have L4 := Lib.hid (L3.out.trans (b4.mono L3.out.size))
  clear b4 P3 L3
  go_wp2_with fail
  refine (pwithin_any P4.out.has f).mono ?_; rintro r5 w5 ⟨rfl, b5⟩
  rw [NF.out]
  have L5 := Lib.hid (L4.out.trans (b5.mono L4.out.size))
  clear b5 P4 L4 e1 e2 e3 e4 e5 e6 e7 e8 e9 e10 hq Q1 hs1 hs2 hs3 hs4
  rcases within_either l f with hw | ⟨j, hw⟩
  · rw [with_none hw]
    have z4 := CO.out hw
    subst z4
    clear CO CI hw
    go_wp2_with fail
    refine (AW.out _).mono ?_; rintro r6 w6 ⟨rfl, b6⟩
    have L6 := Lib.hid (L5.out.trans (b6.mono L5.out.size))
    clear b6
    go_wp2
    go_ret
    exact ⟨rfl, L6.out⟩
  · rw [with_some hw]
    have c1 : decide (s4 ≤ 500000000) = true := decide_eq_true CI.out.2
    have c2 : decide (-500000000 ≤ s4) = true := decide_eq_true CI.out.1
    clear CO CI hw
    go_wp2_with fail
    refine (AW.out _).mono ?_; rintro r6 w6 ⟨rfl, b6⟩
    have L6 := Lib.hid (L5.out.trans (b6.mono L5.out.size))
    clear b6
    go_wp2
    go_ret
    exact ⟨rfl, L6.out⟩
end Go.Proofs.Ytpfbdpoileepoaa
