import Derived.Test.YtpfbdpoileepoaaBase
import Derived.Test.YtpfbdpoileepoaaDivM
import Derived.LoopTactic
import Derived.Laws.Bits64b
import Derived.Deep.DeepCutAuto
import Derived.Deep.CutBlock
namespace Go.Proofs.Ytpfbdpoileepoaa
open Go.ChangeShapes Go.WideShapes Go.ChangeAt Go.RowKit DivM

theorem lt_cast {a b : Nat} (h : a < b) : (a : Int) < b := by omega
set_option maxRecDepth 100000 in
set_option maxHeartbeats 800000 in
theorem div64_core (hi lo y s V v1 v0 A Bv U L d1 d0 qa ra : Nat) (h1 : hi < y) (h0 : 0 < hi) (hs : s < 64) (w : World)
  (hz : ∀ w, Calls Try.prog 64 #[.int .u64 y] w fun e w' => e = .returned (.int .i64 s) ∧ w = w')
  (n : Norm V v1 v0) (hU : U < V) (hd1 : d1 < 4294967296) (hd0 : d0 < 4294967296) (hV : V < 18446744073709551616)
  (E1 : IntKind.u64.wrap ((y : Int) * 2 ^ s) = (V : Int)) (E2 : (V : Int) / 4294967296 = (v1 : Int)) (E3 : bits .and .u64 (V : Int) 4294967295 = (v0 : Int))
  (E4 : IntKind.u64.wrap ((hi : Int) * 2 ^ s) = (A : Int)) (E5 : (lo : Int) / 2 ^ (64 - s) = (Bv : Int)) (E6 : bits .or .u64 (A : Int) (Bv : Int) = (U : Int))
  (E7 : IntKind.u64.wrap ((lo : Int) * 2 ^ s) = (L : Int)) (E8 : (L : Int) / 4294967296 = (d1 : Int)) (E9 : bits .and .u64 (L : Int) 4294967295 = (d0 : Int))
  (E10 : (U : Int) / (v1 : Int) = (qa : Int)) (EL0 : Hid (d1 * 4294967296 + d0 = L)) (E10b : IntKind.u64.wrap (qa : Int) = (qa : Int)) (E11 : IntKind.u64.wrap ((U : Int) - IntKind.u64.wrap ((qa : Int) * v1)) = (ra : Int))
  (st : Inv U V v1 d1 qa ra) (st2 : ra < 4294967296) :
    Calls Try.prog 61 #[.int .u64 hi, .int .u64 lo, .int .u64 y] w fun e w' => e = .returned (.tuple #[.int .u64 ((U * 18446744073709551616 + L) / V : Nat), .int .u64 ((U * 18446744073709551616 + L) % V / 2 ^ s : Nat)]) ∧ w = w' := by
  have H := Lib.hid hz
  clear hz
  have n0 : ((hi : Int) == 0) = false := by rw [beq_eq_false_iff_ne]; omega
  have n1 : ((y : Int) == 0) = false := by rw [beq_eq_false_iff_ne]; omega
  have n2 : ¬ ((y : Int) ≤ hi) := by omega
  have g1 := n.g1
  have n3 : ¬ ((v1 : Int) = 0) := by omega
  have N := Lib.hid n
  have HU := Lib.hid hU
  have HD1 := Lib.hid hd1
  have HD0 := Lib.hid hd0
  have HV := Lib.hid hV
  clear n hU hd1 hd0 hV
  obtain ⟨qt, hqt⟩ : ∃ k, k = (U * 4294967296 + d1) / V := ⟨_, rfl⟩
  have QT := Lib.hid hqt
  clear hqt
  go_enter Try.func61, Try.ntmps61
  go_upto_block 0 with (go_at_call 64; refine (H.out _).mono ?_; rintro e w' ⟨rfl, rfl⟩)
  go_cut [15] (fun q wx => q = .int .u64 qt ∧ w = wx)
  case first =>
    go_wp2_with fail
    go_loop [15, 16] (fun q r => ∃ a b : Nat, q = .int .u64 a ∧ r = .int .u64 b ∧ Inv U V v1 d1 a b ∧ b < 4294967296) (fun q _ => (intOf q).toNat)
    case atStart => exact ⟨qa, ra, rfl, rfl, st, st2⟩
    case round =>
      obtain ⟨a, b, rfl, rfl, hI, hb⟩ := hrel
      have HI := Lib.hid hI
      have HB := Lib.hid hb
      clear hI hb
      by_cases c : 4294967296 ≤ a ∨ 4294967296 * b + d1 < a * v0
      · obtain ⟨p1, p2, p3⟩ := DivM.step N.out HU.out HD1.out HI.out c
        have F1 : IntKind.u64.wrap ((a : Int) - 1) = ((a - 1 : Nat) : Int) := by rw [IntKind.wrap_u64]; have := HI.out.hi; omega
        have F2 : IntKind.u64.wrap ((b : Int) + (v1 : Int)) = ((b + v1 : Nat) : Int) := by rw [IntKind.wrap_u64]; have := N.out.l1; have := HB.out; omega
        have P2 := Lib.hid p2
        have P3 := Lib.hid p3
        have LT : Hid (a - 1 < a) := by unfold Hid; omega
        clear p2 p3
        generalize a - 1 = a' at *
        generalize b + v1 = b' at *
        by_cases c1 : 4294967296 ≤ a
        · have c' : (4294967296 : Int) ≤ (a : Int) := by omega
          clear c c1 p1
          by_cases cb : (4294967296 : Int) ≤ (b' : Int)
          · have X : Hid (a' = qt) := by unfold Hid; rw [QT.out]; exact done_big N.out P2.out P3.out (by omega)
            go_wp2
            go_meet
            exact ⟨by rw [X.out], rfl⟩
          · go_wp2
            go_round
            case rel => exact ⟨a', b', rfl, rfl, P2.out, by omega⟩
            case measure => have := LT.out; simp [intOf]; omega
        · have c2 : 4294967296 * b + d1 < a * v0 := by omega
          have c' : ¬ ((4294967296 : Int) ≤ (a : Int)) := by omega
          obtain ⟨K1, K2, K3⟩ := test_words N.out HB.out HD1.out (by omega : a < 4294967296)
          obtain ⟨m, hm⟩ : ∃ m, m = a * v0 := ⟨_, rfl⟩
          obtain ⟨k, hk⟩ : ∃ k, k = 4294967296 * b := ⟨_, rfl⟩
          obtain ⟨t, ht⟩ : ∃ t, t = k + d1 := ⟨_, rfl⟩
          rw [← hm] at K1 c2
          rw [← hk] at K2 K3 c2
          rw [← ht] at K3 c2
          have T := lt_cast c2
          clear c c1 c2 p1 hm hk ht
          by_cases cb : (4294967296 : Int) ≤ (b' : Int)
          · have X : Hid (a' = qt) := by unfold Hid; rw [QT.out]; exact done_big N.out P2.out P3.out (by omega)
            go_wp2
            go_meet
            exact ⟨by rw [X.out], rfl⟩
          · go_wp2
            go_round
            case rel => exact ⟨a', b', rfl, rfl, P2.out, by omega⟩
            case measure => have := LT.out; simp [intOf]; omega
      · have c' : ¬ ((4294967296 : Int) ≤ (a : Int)) := by omega
        have c2 : a * v0 ≤ 4294967296 * b + d1 := by omega
        have X : Hid (a = qt) := by unfold Hid; rw [QT.out]; exact done N.out HI.out c2
        obtain ⟨K1, K2, K3⟩ := test_words N.out HB.out HD1.out (by omega : a < 4294967296)
        obtain ⟨m, hm⟩ : ∃ m, m = a * v0 := ⟨_, rfl⟩
        obtain ⟨k, hk⟩ : ∃ k, k = 4294967296 * b := ⟨_, rfl⟩
        obtain ⟨t, ht⟩ : ∃ t, t = k + d1 := ⟨_, rfl⟩
        rw [← hm] at K1 c2
        rw [← hk] at K2 K3 c2
        rw [← ht] at K3 c2
        have T : ¬ ((t : Int) < (m : Int)) := by omega
        clear c c2 hm hk ht
        go_wp2
        go_meet
        exact ⟨by rw [X.out], rfl⟩
  case rest =>
    obtain ⟨rfl, rfl⟩ := hcut
    obtain ⟨r2, hr2⟩ : ∃ k, k = (U * 4294967296 + d1) % V := ⟨_, rfl⟩
    have hr2V : r2 < V := by rw [hr2]; exact Nat.mod_lt _ (by have := HU.out; omega)
    obtain ⟨q0, hq0⟩ : ∃ k, k = (r2 * 4294967296 + d0) / V := ⟨_, rfl⟩
    have Q0 := Lib.hid hq0
    obtain ⟨st3, st4⟩ := DivM.start N.out hr2V HD0.out
    obtain ⟨qb, hqb⟩ : ∃ k, k = r2 / v1 := ⟨_, rfl⟩
    obtain ⟨rb, hrb⟩ : ∃ k, k = r2 % v1 := ⟨_, rfl⟩
    rw [← hqb, ← hrb] at st3
    rw [← hrb] at st4
    have G1 : IntKind.u64.wrap (IntKind.u64.wrap (IntKind.u64.wrap ((U : Int) * 4294967296) + (d1 : Int)) - IntKind.u64.wrap ((qt : Int) * (V : Int))) = (r2 : Int) := by
      rw [hr2, QT.out]
      simp only [IntKind.wrap_u64]
      exact rest (by have := HU.out; omega) HV.out
    have G2 : (r2 : Int) / (v1 : Int) = (qb : Int) := by rw [hqb]; simp
    have G3 : IntKind.u64.wrap (qb : Int) = (qb : Int) := by rw [IntKind.wrap_u64]; have := st3.hi; omega
    have G4 : IntKind.u64.wrap ((r2 : Int) - IntKind.u64.wrap ((qb : Int) * (v1 : Int))) = (rb : Int) := by
      have := st3.sum
      have hh := HV.out
      simp only [IntKind.wrap_u64]
      rw [← Int.natCast_mul]
      omega
    have QB : qt < 4294967296 := by rw [QT.out]; exact lt_base N.out HU.out HD1.out
    have QB0 : q0 < 4294967296 := by rw [hq0]; exact lt_base N.out hr2V HD0.out
    obtain ⟨RR, hRR⟩ : ∃ k, k = (r2 * 4294967296 + d0) % V := ⟨_, rfl⟩
    obtain ⟨RS, hRS⟩ : ∃ k, k = RR / 2 ^ s := ⟨_, rfl⟩
    obtain ⟨QQ, hQQ⟩ : ∃ k, k = qt * 4294967296 + q0 := ⟨_, rfl⟩
    have R0 : IntKind.u64.wrap (IntKind.u64.wrap (IntKind.u64.wrap ((r2 : Int) * 4294967296) + (d0 : Int)) - IntKind.u64.wrap ((q0 : Int) * (V : Int))) = (RR : Int) := by
      rw [hq0, hRR]
      simp only [IntKind.wrap_u64]
      exact rest (by have := HU.out; omega) HV.out
    have R1 : IntKind.u64.wrap (IntKind.u64.wrap ((qt : Int) * 4294967296) + (q0 : Int)) = (QQ : Int) := by
      rw [hQQ]
      simp only [IntKind.wrap_u64]
      omega
    have S := school U V d1 d0 (by have := HU.out; omega)
    rw [← QT.out, ← hr2, ← hq0, ← hRR, ← hQQ] at S
    have EL : Hid (d1 * 4294967296 + d0 = L) := EL0
    have HR2 := Lib.hid hr2V
    have HS := Lib.hid S
    have G5 : (RR : Int) / 2 ^ s = (RS : Int) := by rw [hRS]; simp
    have HRS := Lib.hid hRS
    clear hRR hRS hQQ
    clear S hr2V hr2 hq0 QB QB0 hqb hrb
    go_upto_block 2 with (fail)
    go_cut [18] (fun q wx => q = .int .u64 q0 ∧ w = wx)
    case first =>
      go_wp2_with fail
      go_loop [18, 16] (fun q r => ∃ a b : Nat, q = .int .u64 a ∧ r = .int .u64 b ∧ Inv r2 V v1 d0 a b ∧ b < 4294967296) (fun q _ => (intOf q).toNat)
      case atStart => exact ⟨qb, rb, rfl, rfl, st3, st4⟩
      case round =>
        obtain ⟨a, b, rfl, rfl, hI, hb⟩ := hrel
        have HI := Lib.hid hI
        have HB := Lib.hid hb
        clear hI hb
        by_cases c : 4294967296 ≤ a ∨ 4294967296 * b + d0 < a * v0
        · obtain ⟨p1, p2, p3⟩ := DivM.step N.out HR2.out HD0.out HI.out c
          have F1 : IntKind.u64.wrap ((a : Int) - 1) = ((a - 1 : Nat) : Int) := by rw [IntKind.wrap_u64]; have := HI.out.hi; omega
          have F2 : IntKind.u64.wrap ((b : Int) + (v1 : Int)) = ((b + v1 : Nat) : Int) := by rw [IntKind.wrap_u64]; have := N.out.l1; have := HB.out; omega
          have P2 := Lib.hid p2
          have P3 := Lib.hid p3
          have LT : Hid (a - 1 < a) := by unfold Hid; omega
          clear p2 p3
          generalize a - 1 = a' at *
          generalize b + v1 = b' at *
          by_cases c1 : 4294967296 ≤ a
          · have c' : (4294967296 : Int) ≤ (a : Int) := by omega
            clear c c1 p1
            by_cases cb : (4294967296 : Int) ≤ (b' : Int)
            · have X : Hid (a' = q0) := by unfold Hid; rw [Q0.out]; exact done_big N.out P2.out P3.out (by omega)
              go_wp2
              go_meet
              exact ⟨by rw [X.out], rfl⟩
            · go_wp2
              go_round
              case rel => exact ⟨a', b', rfl, rfl, P2.out, by omega⟩
              case measure => have := LT.out; simp [intOf]; omega
          · have c2 : 4294967296 * b + d0 < a * v0 := by omega
            have c' : ¬ ((4294967296 : Int) ≤ (a : Int)) := by omega
            obtain ⟨K1, K2, K3⟩ := test_words N.out HB.out HD0.out (by omega : a < 4294967296)
            obtain ⟨m, hm⟩ : ∃ m, m = a * v0 := ⟨_, rfl⟩
            obtain ⟨k, hk⟩ : ∃ k, k = 4294967296 * b := ⟨_, rfl⟩
            obtain ⟨t, ht⟩ : ∃ t, t = k + d0 := ⟨_, rfl⟩
            rw [← hm] at K1 c2
            rw [← hk] at K2 K3 c2
            rw [← ht] at K3 c2
            have T := lt_cast c2
            clear c c1 c2 p1 hm hk ht
            by_cases cb : (4294967296 : Int) ≤ (b' : Int)
            · have X : Hid (a' = q0) := by unfold Hid; rw [Q0.out]; exact done_big N.out P2.out P3.out (by omega)
              go_wp2
              go_meet
              exact ⟨by rw [X.out], rfl⟩
            · go_wp2
              go_round
              case rel => exact ⟨a', b', rfl, rfl, P2.out, by omega⟩
              case measure => have := LT.out; simp [intOf]; omega
        · have c' : ¬ ((4294967296 : Int) ≤ (a : Int)) := by omega
          have c2 : a * v0 ≤ 4294967296 * b + d0 := by omega
          have X : Hid (a = q0) := by unfold Hid; rw [Q0.out]; exact done N.out HI.out c2
          obtain ⟨K1, K2, K3⟩ := test_words N.out HB.out HD0.out (by omega : a < 4294967296)
          obtain ⟨m, hm⟩ : ∃ m, m = a * v0 := ⟨_, rfl⟩
          obtain ⟨k, hk⟩ : ∃ k, k = 4294967296 * b := ⟨_, rfl⟩
          obtain ⟨t, ht⟩ : ∃ t, t = k + d0 := ⟨_, rfl⟩
          rw [← hm] at K1 c2
          rw [← hk] at K2 K3 c2
          rw [← ht] at K3 c2
          have T : ¬ ((t : Int) < (m : Int)) := by omega
          clear c c2 hm hk ht
          go_wp2
          go_meet
          exact ⟨by rw [X.out], rfl⟩
    case rest =>
      obtain ⟨rfl, rfl⟩ := hcut
      have e := HS.out
      rw [EL.out] at e
      obtain ⟨e1, e2⟩ := e
      have X1 : Hid (QQ = (U * 18446744073709551616 + L) / V) := e1
      have X2 : Hid (RS = (U * 18446744073709551616 + L) % V / 2 ^ s) := by unfold Hid; rw [← e2]; exact HRS.out
      clear e1 e2
      go_wp2
      go_ret2
      exact ⟨ret_pair (congrArg Int.ofNat X1.out) (congrArg Int.ofNat X2.out), rfl⟩
end Go.Proofs.Ytpfbdpoileepoaa

