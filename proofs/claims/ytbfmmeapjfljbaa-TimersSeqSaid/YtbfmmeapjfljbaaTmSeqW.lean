/- TimersSeq: the walk. -/
import Derived.Test.YtbfmmeapjfljbaaTmS
set_option maxRecDepth 100000
namespace Go.Proofs.Ytbfmmeapjfljbaa
open Go.ChangeShapes Go.WideShapes Go.ChangeAt Go.RowKit Go.Maps HeapM

set_option maxHeartbeats 4000000 in
theorem seq14_true (w : World) (k : Bool) (x y : Nat) (hx : x < 256) (hy : y < 256) :
    Calls Try.prog 4 #[.int .u8 (x : Nat), .int .u8 (y : Nat), .bool k, .bool true] w fun e w' => e = .returned (.bool true) ∧ Below w.heap.size w w' := by
  obtain ⟨r, hr⟩ : ∃ r, x % 29 = r := ⟨_, rfl⟩
  obtain ⟨n, hn⟩ : ∃ n, 2 + r = n := ⟨_, rfl⟩
  obtain ⟨r2, hr2⟩ : ∃ r, y % n = r := ⟨_, rfl⟩
  obtain ⟨kk, hkk⟩ : ∃ n, 1 + r2 = n := ⟨_, rfl⟩
  have rb : r < 29 := by omega
  have nb : 2 ≤ n ∧ n ≤ 30 := by omega
  have r2b : r2 < n := by rw [← hr2]; exact Nat.mod_lt _ (by omega)
  have KB : Hid (1 ≤ kk ∧ kk ≤ n) := by unfold Hid; omega
  have a1 : ((x : Nat) : Int).tmod 29 = (r : Nat) := by rw [Int.tmod_eq_emod_of_nonneg (by omega)]; omega
  have a2 : ((x : Nat) : Int) % 29 = (r : Nat) := by omega
  have b1 : ((y : Nat) : Int).tmod ((n : Nat) : Int) = (r2 : Nat) := by rw [Int.tmod_eq_emod_of_nonneg (by omega), ← hr2]; exact (Int.natCast_emod y n).symm
  have b2 : ((y : Nat) : Int) % ((n : Nat) : Int) = (r2 : Nat) := by rw [← hr2]; exact (Int.natCast_emod y n).symm
  clear hr hr2
  have e1 : (2 : Int) + ((r : Nat) : Int) = (n : Nat) := by clear a1 a2 b1 b2; omega
  have e2 : (1 : Int) + ((r2 : Nat) : Int) = (kk : Nat) := by clear a1 a2 b1 b2; omega
  have num : ∀ z : Nat, z < 256 → IntKind.u8.wrap ((z : Nat) : Int) = (z : Nat) := by intro z hz; clear a1 a2 b1 b2; rw [IntKind.wrap_u8]; omega
  have num2 : ∀ z : Nat, z < 256 → IntKind.i64.wrap ((z : Nat) : Int) = (z : Nat) ∧ wrap64 ((z : Nat) : Int) = (z : Nat) := by intro z hz; clear a1 a2 b1 b2; exact ⟨by rw [IntKind.wrap_i64]; omega, by unfold wrap64; omega⟩
  have num3 : ∀ z : Nat, z < 256 → IntKind.u64.wrap ((z : Nat) : Int) = (z : Nat) := by intro z hz; clear a1 a2 b1 b2; rw [IntKind.wrap_u64]; omega
  have n0 : ((n : Nat) : Int) ≠ 0 := by clear a1 a2 b1 b2; omega
  have n1 : (((n : Nat) : Int) == 0) = false := by rw [beq_eq_false_iff_ne]; exact n0
  have n2 : (n == 0) = false := by rw [beq_eq_false_iff_ne]; clear a1 a2 b1 b2; omega
  have NB : Hid (0 ≤ n ∧ 2 ≤ n ∧ (n : Int) ≤ 30) := by clear a1 a2 b1 b2; unfold Hid; omega
  have NU := Lib.hid num
  have NU2 := Lib.hid num2
  have NU3 := Lib.hid num3
  have V0 : Hid (r < 256 ∧ n < 256 ∧ r2 < 256 ∧ kk < 256) := by clear a1 a2 b1 b2; have := KB.out; unfold Hid; omega
  have V1 := Lib.hid hy
  clear num num2 num3 hn hkk rb nb r2b hx hy
  have NW := Lib.hid (pnew14 w w (Below.refl _ _))
  have AV := Lib.hid (fun w => alive14_any w)
  have c1 := NU.out r V0.out.1
  have c2 := (NU2.out r V0.out.1).1
  have c3 := (NU2.out r V0.out.1).2
  have c4 := (NU2.out n V0.out.2.1).1
  have c5 := (NU2.out n V0.out.2.1).2
  go_enter Try.func4, Try.ntmps4
  go_wp2_with fail
  refine NW.out.mono ?_; rintro r0 w0 ⟨N, rfl, T0⟩
  have T0 := Lib.hid T0
  clear NW a1 a2 c1 c2 c3 c4 c5 e1
  go_wp2_with fail
  go_loopw [12] (fun ii wr => ∃ (i : Nat) (s : TS), ii = .int .i64 (i : Nat) ∧ Hid (i ≤ n) ∧ Hid (TAt w wr N s) ∧ Hid (AddSt k 7 i s)) (fun ii _ => 100 - (intOf ii).toNat)
  case atStart => exact ⟨0, noT, rfl, Nat.zero_le _, T0, add_zero _ _⟩
  case round =>
    clear T0
    obtain ⟨i, s, rfl, IB, T, Q⟩ := hrel
    have i0 : (0 : Int) ≤ (i : Int) := by omega
    by_cases iz : i < n
    · have ii : (i : Int) < (n : Int) := by omega
      have i30 : i < 30 := by have := NB.out.2.2; omega
      obtain ⟨i1, hi1⟩ : ∃ j, i + 1 = j := ⟨_, rfl⟩
      have AD := Lib.hid (add_any T.out Q.out i30 (by decide))
      rw [hi1] at AD
      have s1 : ((i : Nat) : Int) + 1 = (i1 : Nat) := by omega
      have s2 := NU3.out i (by omega)
      have s3 := NU3.out i1 (by clear s2; omega)
      have s4 := (NU2.out i1 (by clear s2 s3; omega)).1
      have s5 := (NU2.out i1 (by clear s2 s3 s4; omega)).2
      have ME : Hid (100 - i1 < 100 - i) := by clear s2 s3 s4 s5; unfold Hid; omega
      have IN : Hid (i + 1 ≤ n) := iz
      have HI := Lib.hid hi1
      clear IB T Q iz i30 hi1
      go_wp2_with fail
      refine AD.out.mono ?_; rintro r1 w1 ⟨rfl, s', T, Q⟩
      have T := Lib.hid T
      have Q := Lib.hid Q
      rw [← HI.out] at Q
      clear AD
      go_wp2_with fail
      go_roundw
      case rel => exact ⟨i + 1, s', by rw [HI.out], IN, T, Q⟩
      case measure => simp only [intOf]; exact ME.out
    have ie : i = n := by have := IB.out; omega
    have ij : ((n : Nat) : Int) ≤ ((i : Nat) : Int) := by omega
    have ik : decide (((i : Nat) : Int) < ((n : Nat) : Int)) = false := decide_eq_false (by omega)
    have Q' := Q.out
    rw [ie] at Q'
    have Q := Lib.hid Q'
    have RS := Lib.hid (reset_any T.out Q.out (by have := NB.out.2.2; omega) (by decide) KB.out.1 KB.out.2)
    clear IB T Q iz ie Q'
    have d1 := NU3.out y V1.out
    have d2 := NU3.out n V0.out.2.1
    have d3 := NU3.out r2 V0.out.2.2.1
    have d4 := NU3.out kk V0.out.2.2.2
    go_wp2_with fail
    refine RS.out.mono ?_; rintro r1 w1 ⟨rfl, s1, T, Q⟩
    have T := Lib.hid T
    have Q := Lib.hid Q
    clear RS d1 d2 d3 d4 ij ik i0 b1 b2 e2
    go_wp2_with fail
    go_loopw [16] (fun rr wr => (rr = .int .i64 0 ∧ ∃ s, Hid (TAt w wr N s) ∧ Hid (SeqSt k 7 kk n 50 s)) ∨ (rr = .int .i64 1 ∧ ∃ s, Hid (TAt w wr N s) ∧ Hid (SeqSt k 7 kk n 57 s)) ∨ (rr = .int .i64 2 ∧ ∃ s, Hid (TAt w wr N s) ∧ Hid (s.ad = n ∧ s.ca = n + 1 ∧ (s.l false).length + (s.l true).length ≤ n))) (fun rr _ => 10 - (intOf rr).toNat)
    case atStart => exact .inl ⟨rfl, s1, T, Q⟩
    case round =>
      clear T Q
      rcases hrel with ⟨rfl, s, T, Q⟩ | ⟨rfl, s, T, Q⟩ | ⟨rfl, s, T, Q⟩
      · go_wp2_with fail
        refine (seq_fire T.out Q.out KB.out.1 KB.out.2 (by decide) (by decide)).mono ?_; rintro r3 w3 ⟨p3, c3, fs, s3, rfl, RO, ID, SX7, SX0⟩
        have RO := Lib.hid RO
        have ID := Lib.hid ID
        have SN := Lib.hid (SX7 rfl)
        have nn0 : (n : Int) ≤ 30 := NB.out.2.2
        clear T Q SX7 SX0
        go_wp2_with fail
        go_loopw [18, 19] (fun aa ii wx => ∃ i a : Nat, ii = .int .i64 (i : Nat) ∧ aa = .int .u64 (a : Nat) ∧ wx = w3 ∧ Hid (i ≤ n ∧ a = (if i < kk then i else i + 1))) (fun _ ii _ => 100 - (intOf ii).toNat)
        case atStart => exact ⟨0, 0, rfl, rfl, rfl, Nat.zero_le _, by have := KB.out; rw [if_pos (by omega)]⟩
        case round =>
          obtain ⟨i, a, rfl, rfl, rfl, J⟩ := hrel
          have i0 : (0 : Int) ≤ (i : Int) := by omega
          by_cases iz : i < n
          · have ii : (i : Int) < (n : Int) := by omega
            obtain ⟨a', b, ha, hb, -, d1, d2, hb2⟩ := id_at kk n i
            have haa : a' = a := by rw [ha, J.out.2]
            subst haa
            obtain ⟨p9, e9, cid, -⟩ := RO.out.own.at iz
            rw [ID.out i iz] at cid
            subst e9
            obtain ⟨a1, ha1⟩ : ∃ a1, a' + 1 = a1 := ⟨_, rfl⟩
            have ab : a' ≤ 31 := by have q := J.out.2; have nb := NB.out; split at q <;> omega
            have s1 : ((a' : Nat) : Int) + 1 = (a1 : Nat) := by omega
            have A1 : Hid (a1 < 256) := by unfold Hid; omega
            obtain ⟨n1, hn1⟩ : ∃ n1 : Nat, n - 1 = n1 := ⟨_, rfl⟩
            have s3 : ((n : Nat) : Int) - 1 = (n1 : Nat) := by omega
            have N1 : Hid (n1 < 256) := by have := NB.out; unfold Hid; omega
            obtain ⟨i1, hi1⟩ : ∃ j, i + 1 = j := ⟨_, rfl⟩
            have s8 : ((i : Nat) : Int) + 1 = (i1 : Nat) := by omega
            have I1 : Hid (i1 < 256 ∧ i + 1 = i1 ∧ 100 - i1 < 100 - i) := by have := NB.out; unfold Hid; omega
            have JN : Hid (i + 1 ≤ n ∧ b = (if i + 1 < kk then i + 1 else i + 1 + 1)) := ⟨iz, hb2⟩
            have ha1' : a' + 2 = a1 + 1 := by omega
            rw [ha1, ha1'] at hb
            clear J ha hb2
            by_cases c : a1 = kk
            · rw [if_pos c] at hb
              have c1 : (((a1 : Nat) : Int) == ((kk : Nat) : Int)) = true := by rw [c]; exact beq_self_eq_true _
              have c2 : (a1 == kk) = true := by rw [c]; exact beq_self_eq_true _
              have s6 : ((a1 : Nat) : Int) + 1 = (b : Nat) := by omega
              have B1 : Hid (b < 256) := by unfold Hid; omega
              by_cases f : i + 1 = n
              · have g1 : (((i : Nat) : Int) == ((n1 : Nat) : Int)) = true := by rw [show i = n1 by omega]; exact beq_self_eq_true _
                have g2 : (i == n1) = true := by rw [show i = n1 by omega]; exact beq_self_eq_true _
                rw [d1 f] at cid
                clear c f ha1 hn1 hb d1 d2 ha1' iz ab hi1
                have s2 := NU3.out a1 A1.out
                have s4 := (NU2.out n1 N1.out).1
                have s5 := (NU2.out n1 N1.out).2
                have s7 := NU3.out b B1.out
                have s9 := (NU2.out i1 I1.out.1).1
                have s10 := (NU2.out i1 I1.out.1).2
                go_wp2_with fail
                go_roundw
                case rel => exact ⟨i + 1, b, by rw [I1.out.2.1], rfl, by first | trivial | rfl, JN⟩
                case measure => simp only [intOf]; exact I1.out.2.2
              · have g1 : (((i : Nat) : Int) == ((n1 : Nat) : Int)) = false := by rw [beq_eq_false_iff_ne]; omega
                have g2 : (i == n1) = false := by rw [beq_eq_false_iff_ne]; omega
                have g3 : ¬ ((i : Nat) : Int) = ((n1 : Nat) : Int) := by omega
                rw [d2 f] at cid
                clear c f ha1 hn1 hb d1 d2 ha1' iz ab hi1
                have s2 := NU3.out a1 A1.out
                have s4 := (NU2.out n1 N1.out).1
                have s5 := (NU2.out n1 N1.out).2
                have s7 := NU3.out b B1.out
                have s9 := (NU2.out i1 I1.out.1).1
                have s10 := (NU2.out i1 I1.out.1).2
                go_wp2_with fail
                go_roundw
                case rel => exact ⟨i + 1, b, by rw [I1.out.2.1], rfl, by first | trivial | rfl, JN⟩
                case measure => simp only [intOf]; exact I1.out.2.2
            · rw [if_neg c] at hb
              subst hb
              have c1 : (((b : Nat) : Int) == ((kk : Nat) : Int)) = false := by rw [beq_eq_false_iff_ne]; omega
              have c2 : (b == kk) = false := by rw [beq_eq_false_iff_ne]; exact c
              have c3 : ¬ ((b : Nat) : Int) = ((kk : Nat) : Int) := by omega
              by_cases f : i + 1 = n
              · have g1 : (((i : Nat) : Int) == ((n1 : Nat) : Int)) = true := by rw [show i = n1 by omega]; exact beq_self_eq_true _
                have g2 : (i == n1) = true := by rw [show i = n1 by omega]; exact beq_self_eq_true _
                rw [d1 f] at cid
                clear c f ha1 hn1 d1 d2 ha1' iz ab hi1
                have s2 := NU3.out b A1.out
                have s4 := (NU2.out n1 N1.out).1
                have s5 := (NU2.out n1 N1.out).2
                have s9 := (NU2.out i1 I1.out.1).1
                have s10 := (NU2.out i1 I1.out.1).2
                go_wp2_with fail
                go_roundw
                case rel => exact ⟨i + 1, b, by rw [I1.out.2.1], rfl, by first | trivial | rfl, JN⟩
                case measure => simp only [intOf]; exact I1.out.2.2
              · have g1 : (((i : Nat) : Int) == ((n1 : Nat) : Int)) = false := by rw [beq_eq_false_iff_ne]; omega
                have g2 : (i == n1) = false := by rw [beq_eq_false_iff_ne]; omega
                have g3 : ¬ ((i : Nat) : Int) = ((n1 : Nat) : Int) := by omega
                rw [d2 f] at cid
                clear c f ha1 hn1 d1 d2 ha1' iz ab hi1
                have s2 := NU3.out b A1.out
                have s4 := (NU2.out n1 N1.out).1
                have s5 := (NU2.out n1 N1.out).2
                have s9 := (NU2.out i1 I1.out.1).1
                have s10 := (NU2.out i1 I1.out.1).2
                go_wp2_with fail
                go_roundw
                case rel => exact ⟨i + 1, b, by rw [I1.out.2.1], rfl, by first | trivial | rfl, JN⟩
                case measure => simp only [intOf]; exact I1.out.2.2
          · have ie : i = n := by have := J.out.1; omega
            have ij : ((n : Nat) : Int) ≤ ((i : Nat) : Int) := by omega
            have ik : decide (((i : Nat) : Int) < ((n : Nat) : Int)) = false := decide_eq_false (by omega)
            clear J ie iz
            go_wp2_with fail
            go_roundw
            case rel => exact .inr (.inl ⟨rfl, s3, Lib.hid RO.out.tat, SN⟩)
            case measure => decide
      · go_wp2_with fail
        refine (seq_fire T.out Q.out KB.out.1 KB.out.2 (by decide) (by decide)).mono ?_; rintro r3 w3 ⟨p3, c3, fs, s3, rfl, RO, ID, SX7, SX0⟩
        have RO := Lib.hid RO
        have ID := Lib.hid ID
        have SN := Lib.hid (SX7 rfl)
        have nn0 : (n : Int) ≤ 30 := NB.out.2.2
        clear T Q SX7 SX0
        go_wp2_with fail
        go_loopw [18, 19] (fun aa ii wx => ∃ i a : Nat, ii = .int .i64 (i : Nat) ∧ aa = .int .u64 (a : Nat) ∧ wx = w3 ∧ Hid (i ≤ n ∧ a = (if i < kk then i else i + 1))) (fun _ ii _ => 100 - (intOf ii).toNat)
        case atStart => exact ⟨0, 0, rfl, rfl, rfl, Nat.zero_le _, by have := KB.out; rw [if_pos (by omega)]⟩
        case round =>
          obtain ⟨i, a, rfl, rfl, rfl, J⟩ := hrel
          have i0 : (0 : Int) ≤ (i : Int) := by omega
          by_cases iz : i < n
          · have ii : (i : Int) < (n : Int) := by omega
            obtain ⟨a', b, ha, hb, -, d1, d2, hb2⟩ := id_at kk n i
            have haa : a' = a := by rw [ha, J.out.2]
            subst haa
            obtain ⟨p9, e9, cid, -⟩ := RO.out.own.at iz
            rw [ID.out i iz] at cid
            subst e9
            obtain ⟨a1, ha1⟩ : ∃ a1, a' + 1 = a1 := ⟨_, rfl⟩
            have ab : a' ≤ 31 := by have q := J.out.2; have nb := NB.out; split at q <;> omega
            have s1 : ((a' : Nat) : Int) + 1 = (a1 : Nat) := by omega
            have A1 : Hid (a1 < 256) := by unfold Hid; omega
            obtain ⟨n1, hn1⟩ : ∃ n1 : Nat, n - 1 = n1 := ⟨_, rfl⟩
            have s3 : ((n : Nat) : Int) - 1 = (n1 : Nat) := by omega
            have N1 : Hid (n1 < 256) := by have := NB.out; unfold Hid; omega
            obtain ⟨i1, hi1⟩ : ∃ j, i + 1 = j := ⟨_, rfl⟩
            have s8 : ((i : Nat) : Int) + 1 = (i1 : Nat) := by omega
            have I1 : Hid (i1 < 256 ∧ i + 1 = i1 ∧ 100 - i1 < 100 - i) := by have := NB.out; unfold Hid; omega
            have JN : Hid (i + 1 ≤ n ∧ b = (if i + 1 < kk then i + 1 else i + 1 + 1)) := ⟨iz, hb2⟩
            have ha1' : a' + 2 = a1 + 1 := by omega
            rw [ha1, ha1'] at hb
            clear J ha hb2
            by_cases c : a1 = kk
            · rw [if_pos c] at hb
              have c1 : (((a1 : Nat) : Int) == ((kk : Nat) : Int)) = true := by rw [c]; exact beq_self_eq_true _
              have c2 : (a1 == kk) = true := by rw [c]; exact beq_self_eq_true _
              have s6 : ((a1 : Nat) : Int) + 1 = (b : Nat) := by omega
              have B1 : Hid (b < 256) := by unfold Hid; omega
              by_cases f : i + 1 = n
              · have g1 : (((i : Nat) : Int) == ((n1 : Nat) : Int)) = true := by rw [show i = n1 by omega]; exact beq_self_eq_true _
                have g2 : (i == n1) = true := by rw [show i = n1 by omega]; exact beq_self_eq_true _
                rw [d1 f] at cid
                clear c f ha1 hn1 hb d1 d2 ha1' iz ab hi1
                have s2 := NU3.out a1 A1.out
                have s4 := (NU2.out n1 N1.out).1
                have s5 := (NU2.out n1 N1.out).2
                have s7 := NU3.out b B1.out
                have s9 := (NU2.out i1 I1.out.1).1
                have s10 := (NU2.out i1 I1.out.1).2
                go_wp2_with fail
                go_roundw
                case rel => exact ⟨i + 1, b, by rw [I1.out.2.1], rfl, by first | trivial | rfl, JN⟩
                case measure => simp only [intOf]; exact I1.out.2.2
              · have g1 : (((i : Nat) : Int) == ((n1 : Nat) : Int)) = false := by rw [beq_eq_false_iff_ne]; omega
                have g2 : (i == n1) = false := by rw [beq_eq_false_iff_ne]; omega
                have g3 : ¬ ((i : Nat) : Int) = ((n1 : Nat) : Int) := by omega
                rw [d2 f] at cid
                clear c f ha1 hn1 hb d1 d2 ha1' iz ab hi1
                have s2 := NU3.out a1 A1.out
                have s4 := (NU2.out n1 N1.out).1
                have s5 := (NU2.out n1 N1.out).2
                have s7 := NU3.out b B1.out
                have s9 := (NU2.out i1 I1.out.1).1
                have s10 := (NU2.out i1 I1.out.1).2
                go_wp2_with fail
                go_roundw
                case rel => exact ⟨i + 1, b, by rw [I1.out.2.1], rfl, by first | trivial | rfl, JN⟩
                case measure => simp only [intOf]; exact I1.out.2.2
            · rw [if_neg c] at hb
              subst hb
              have c1 : (((b : Nat) : Int) == ((kk : Nat) : Int)) = false := by rw [beq_eq_false_iff_ne]; omega
              have c2 : (b == kk) = false := by rw [beq_eq_false_iff_ne]; exact c
              have c3 : ¬ ((b : Nat) : Int) = ((kk : Nat) : Int) := by omega
              by_cases f : i + 1 = n
              · have g1 : (((i : Nat) : Int) == ((n1 : Nat) : Int)) = true := by rw [show i = n1 by omega]; exact beq_self_eq_true _
                have g2 : (i == n1) = true := by rw [show i = n1 by omega]; exact beq_self_eq_true _
                rw [d1 f] at cid
                clear c f ha1 hn1 d1 d2 ha1' iz ab hi1
                have s2 := NU3.out b A1.out
                have s4 := (NU2.out n1 N1.out).1
                have s5 := (NU2.out n1 N1.out).2
                have s9 := (NU2.out i1 I1.out.1).1
                have s10 := (NU2.out i1 I1.out.1).2
                go_wp2_with fail
                go_roundw
                case rel => exact ⟨i + 1, b, by rw [I1.out.2.1], rfl, by first | trivial | rfl, JN⟩
                case measure => simp only [intOf]; exact I1.out.2.2
              · have g1 : (((i : Nat) : Int) == ((n1 : Nat) : Int)) = false := by rw [beq_eq_false_iff_ne]; omega
                have g2 : (i == n1) = false := by rw [beq_eq_false_iff_ne]; omega
                have g3 : ¬ ((i : Nat) : Int) = ((n1 : Nat) : Int) := by omega
                rw [d2 f] at cid
                clear c f ha1 hn1 d1 d2 ha1' iz ab hi1
                have s2 := NU3.out b A1.out
                have s4 := (NU2.out n1 N1.out).1
                have s5 := (NU2.out n1 N1.out).2
                have s9 := (NU2.out i1 I1.out.1).1
                have s10 := (NU2.out i1 I1.out.1).2
                go_wp2_with fail
                go_roundw
                case rel => exact ⟨i + 1, b, by rw [I1.out.2.1], rfl, by first | trivial | rfl, JN⟩
                case measure => simp only [intOf]; exact I1.out.2.2
          · have ie : i = n := by have := J.out.1; omega
            have ij : ((n : Nat) : Int) ≤ ((i : Nat) : Int) := by omega
            have ik : decide (((i : Nat) : Int) < ((n : Nat) : Int)) = false := decide_eq_false (by omega)
            clear J ie iz
            go_wp2_with fail
            go_roundw
            case rel => exact .inr (.inr ⟨rfl, s3, Lib.hid RO.out.tat, ⟨SN.out.ad, SN.out.ca, SN.out.lens⟩⟩)
            case measure => decide
      · obtain ⟨n1', hn1⟩ : ∃ j, n + 1 = j := ⟨_, rfl⟩
        have LA := Lib.hid (last_any T.out Q.out.1 Q.out.2.1 (by have := NB.out.2.2; omega) Q.out.2.2)
        rw [hn1] at LA
        have f1 : ((n : Nat) : Int) + 1 = (n1' : Nat) := by omega
        have f2 := NU3.out n V0.out.2.1
        have f3 := NU3.out n1' (by have := NB.out.2.2; omega)
        clear T Q hn1
        go_wp2_with fail
        refine LA.out.mono ?_; rintro r4 w4 ⟨rfl, l4⟩
        have L4 := Lib.hid l4
        clear LA l4
        go_wp2_with (go_at_call 9; refine (AV.out _).mono ?_; rintro r9 w9 ⟨rfl, l9⟩; have L9 := Lib.hid (L4.out.trans (l9.mono L4.out.size)); clear l9)
        go_ret
        exact ⟨rfl, L9.out⟩
set_option maxHeartbeats 4000000 in
theorem seq14_false (w : World) (k : Bool) (x y : Nat) (hx : x < 256) (hy : y < 256) :
    Calls Try.prog 4 #[.int .u8 (x : Nat), .int .u8 (y : Nat), .bool k, .bool false] w fun e w' => e = .returned (.bool true) ∧ Below w.heap.size w w' := by
  obtain ⟨r, hr⟩ : ∃ r, x % 29 = r := ⟨_, rfl⟩
  obtain ⟨n, hn⟩ : ∃ n, 2 + r = n := ⟨_, rfl⟩
  obtain ⟨r2, hr2⟩ : ∃ r, y % n = r := ⟨_, rfl⟩
  obtain ⟨kk, hkk⟩ : ∃ n, 1 + r2 = n := ⟨_, rfl⟩
  have rb : r < 29 := by omega
  have nb : 2 ≤ n ∧ n ≤ 30 := by omega
  have r2b : r2 < n := by rw [← hr2]; exact Nat.mod_lt _ (by omega)
  have KB : Hid (1 ≤ kk ∧ kk ≤ n) := by unfold Hid; omega
  have a1 : ((x : Nat) : Int).tmod 29 = (r : Nat) := by rw [Int.tmod_eq_emod_of_nonneg (by omega)]; omega
  have a2 : ((x : Nat) : Int) % 29 = (r : Nat) := by omega
  have b1 : ((y : Nat) : Int).tmod ((n : Nat) : Int) = (r2 : Nat) := by rw [Int.tmod_eq_emod_of_nonneg (by omega), ← hr2]; exact (Int.natCast_emod y n).symm
  have b2 : ((y : Nat) : Int) % ((n : Nat) : Int) = (r2 : Nat) := by rw [← hr2]; exact (Int.natCast_emod y n).symm
  clear hr hr2
  have e1 : (2 : Int) + ((r : Nat) : Int) = (n : Nat) := by clear a1 a2 b1 b2; omega
  have e2 : (1 : Int) + ((r2 : Nat) : Int) = (kk : Nat) := by clear a1 a2 b1 b2; omega
  have num : ∀ z : Nat, z < 256 → IntKind.u8.wrap ((z : Nat) : Int) = (z : Nat) := by intro z hz; clear a1 a2 b1 b2; rw [IntKind.wrap_u8]; omega
  have num2 : ∀ z : Nat, z < 256 → IntKind.i64.wrap ((z : Nat) : Int) = (z : Nat) ∧ wrap64 ((z : Nat) : Int) = (z : Nat) := by intro z hz; clear a1 a2 b1 b2; exact ⟨by rw [IntKind.wrap_i64]; omega, by unfold wrap64; omega⟩
  have num3 : ∀ z : Nat, z < 256 → IntKind.u64.wrap ((z : Nat) : Int) = (z : Nat) := by intro z hz; clear a1 a2 b1 b2; rw [IntKind.wrap_u64]; omega
  have n0 : ((n : Nat) : Int) ≠ 0 := by clear a1 a2 b1 b2; omega
  have n1 : (((n : Nat) : Int) == 0) = false := by rw [beq_eq_false_iff_ne]; exact n0
  have n2 : (n == 0) = false := by rw [beq_eq_false_iff_ne]; clear a1 a2 b1 b2; omega
  have NB : Hid (0 ≤ n ∧ 2 ≤ n ∧ (n : Int) ≤ 30) := by clear a1 a2 b1 b2; unfold Hid; omega
  have NU := Lib.hid num
  have NU2 := Lib.hid num2
  have NU3 := Lib.hid num3
  have V0 : Hid (r < 256 ∧ n < 256 ∧ r2 < 256 ∧ kk < 256) := by clear a1 a2 b1 b2; have := KB.out; unfold Hid; omega
  have V1 := Lib.hid hy
  clear num num2 num3 hn hkk rb nb r2b hx hy
  have NW := Lib.hid (pnew14 w w (Below.refl _ _))
  have AV := Lib.hid (fun w => alive14_any w)
  have c1 := NU.out r V0.out.1
  have c2 := (NU2.out r V0.out.1).1
  have c3 := (NU2.out r V0.out.1).2
  have c4 := (NU2.out n V0.out.2.1).1
  have c5 := (NU2.out n V0.out.2.1).2
  go_enter Try.func4, Try.ntmps4
  go_wp2_with fail
  refine NW.out.mono ?_; rintro r0 w0 ⟨N, rfl, T0⟩
  have T0 := Lib.hid T0
  clear NW a1 a2 c1 c2 c3 c4 c5 e1
  go_wp2_with fail
  go_loopw [12] (fun ii wr => ∃ (i : Nat) (s : TS), ii = .int .i64 (i : Nat) ∧ Hid (i ≤ n) ∧ Hid (TAt w wr N s) ∧ Hid (AddSt k 0 i s)) (fun ii _ => 100 - (intOf ii).toNat)
  case atStart => exact ⟨0, noT, rfl, Nat.zero_le _, T0, add_zero _ _⟩
  case round =>
    clear T0
    obtain ⟨i, s, rfl, IB, T, Q⟩ := hrel
    have i0 : (0 : Int) ≤ (i : Int) := by omega
    by_cases iz : i < n
    · have ii : (i : Int) < (n : Int) := by omega
      have i30 : i < 30 := by have := NB.out.2.2; omega
      obtain ⟨i1, hi1⟩ : ∃ j, i + 1 = j := ⟨_, rfl⟩
      have AD := Lib.hid (add_any T.out Q.out i30 (by decide))
      rw [hi1] at AD
      have s1 : ((i : Nat) : Int) + 1 = (i1 : Nat) := by omega
      have s2 := NU3.out i (by omega)
      have s3 := NU3.out i1 (by clear s2; omega)
      have s4 := (NU2.out i1 (by clear s2 s3; omega)).1
      have s5 := (NU2.out i1 (by clear s2 s3 s4; omega)).2
      have ME : Hid (100 - i1 < 100 - i) := by clear s2 s3 s4 s5; unfold Hid; omega
      have IN : Hid (i + 1 ≤ n) := iz
      have HI := Lib.hid hi1
      clear IB T Q iz i30 hi1
      go_wp2_with fail
      refine AD.out.mono ?_; rintro r1 w1 ⟨rfl, s', T, Q⟩
      have T := Lib.hid T
      have Q := Lib.hid Q
      rw [← HI.out] at Q
      clear AD
      go_wp2_with fail
      go_roundw
      case rel => exact ⟨i + 1, s', by rw [HI.out], IN, T, Q⟩
      case measure => simp only [intOf]; exact ME.out
    have ie : i = n := by have := IB.out; omega
    have ij : ((n : Nat) : Int) ≤ ((i : Nat) : Int) := by omega
    have ik : decide (((i : Nat) : Int) < ((n : Nat) : Int)) = false := decide_eq_false (by omega)
    have Q' := Q.out
    rw [ie] at Q'
    have Q := Lib.hid Q'
    have RS := Lib.hid (reset_any T.out Q.out (by have := NB.out.2.2; omega) (by decide) KB.out.1 KB.out.2)
    clear IB T Q iz ie Q'
    have d1 := NU3.out y V1.out
    have d2 := NU3.out n V0.out.2.1
    have d3 := NU3.out r2 V0.out.2.2.1
    have d4 := NU3.out kk V0.out.2.2.2
    go_wp2_with fail
    refine RS.out.mono ?_; rintro r1 w1 ⟨rfl, s1, T, Q⟩
    have T := Lib.hid T
    have Q := Lib.hid Q
    clear RS d1 d2 d3 d4 ij ik i0 b1 b2 e2
    go_wp2_with fail
    go_loopw [16] (fun rr wr => (rr = .int .i64 0 ∧ ∃ s, Hid (TAt w wr N s) ∧ Hid (SeqSt k 0 kk n 50 s)) ∨ (rr = .int .i64 1 ∧ ∃ s, Hid (TAt w wr N s) ∧ Hid (EmpSt k n s)) ∨ (rr = .int .i64 2 ∧ ∃ s, Hid (TAt w wr N s) ∧ Hid (s.ad = n ∧ s.ca = n + 1 ∧ (s.l false).length + (s.l true).length ≤ n))) (fun rr _ => 10 - (intOf rr).toNat)
    case atStart => exact .inl ⟨rfl, s1, T, Q⟩
    case round =>
      clear T Q
      rcases hrel with ⟨rfl, s, T, Q⟩ | ⟨rfl, s, T, Q⟩ | ⟨rfl, s, T, Q⟩
      · go_wp2_with fail
        refine (seq_fire T.out Q.out KB.out.1 KB.out.2 (by decide) (by decide)).mono ?_; rintro r3 w3 ⟨p3, c3, fs, s3, rfl, RO, ID, SX7, SX0⟩
        have RO := Lib.hid RO
        have ID := Lib.hid ID
        have SN := Lib.hid (SX0 rfl)
        have nn0 : (n : Int) ≤ 30 := NB.out.2.2
        clear T Q SX7 SX0
        go_wp2_with fail
        go_loopw [18, 19] (fun aa ii wx => ∃ i a : Nat, ii = .int .i64 (i : Nat) ∧ aa = .int .u64 (a : Nat) ∧ wx = w3 ∧ Hid (i ≤ n ∧ a = (if i < kk then i else i + 1))) (fun _ ii _ => 100 - (intOf ii).toNat)
        case atStart => exact ⟨0, 0, rfl, rfl, rfl, Nat.zero_le _, by have := KB.out; rw [if_pos (by omega)]⟩
        case round =>
          obtain ⟨i, a, rfl, rfl, rfl, J⟩ := hrel
          have i0 : (0 : Int) ≤ (i : Int) := by omega
          by_cases iz : i < n
          · have ii : (i : Int) < (n : Int) := by omega
            obtain ⟨a', b, ha, hb, -, d1, d2, hb2⟩ := id_at kk n i
            have haa : a' = a := by rw [ha, J.out.2]
            subst haa
            obtain ⟨p9, e9, cid, -⟩ := RO.out.own.at iz
            rw [ID.out i iz] at cid
            subst e9
            obtain ⟨a1, ha1⟩ : ∃ a1, a' + 1 = a1 := ⟨_, rfl⟩
            have ab : a' ≤ 31 := by have q := J.out.2; have nb := NB.out; split at q <;> omega
            have s1 : ((a' : Nat) : Int) + 1 = (a1 : Nat) := by omega
            have A1 : Hid (a1 < 256) := by unfold Hid; omega
            obtain ⟨n1, hn1⟩ : ∃ n1 : Nat, n - 1 = n1 := ⟨_, rfl⟩
            have s3 : ((n : Nat) : Int) - 1 = (n1 : Nat) := by omega
            have N1 : Hid (n1 < 256) := by have := NB.out; unfold Hid; omega
            obtain ⟨i1, hi1⟩ : ∃ j, i + 1 = j := ⟨_, rfl⟩
            have s8 : ((i : Nat) : Int) + 1 = (i1 : Nat) := by omega
            have I1 : Hid (i1 < 256 ∧ i + 1 = i1 ∧ 100 - i1 < 100 - i) := by have := NB.out; unfold Hid; omega
            have JN : Hid (i + 1 ≤ n ∧ b = (if i + 1 < kk then i + 1 else i + 1 + 1)) := ⟨iz, hb2⟩
            have ha1' : a' + 2 = a1 + 1 := by omega
            rw [ha1, ha1'] at hb
            clear J ha hb2
            by_cases c : a1 = kk
            · rw [if_pos c] at hb
              have c1 : (((a1 : Nat) : Int) == ((kk : Nat) : Int)) = true := by rw [c]; exact beq_self_eq_true _
              have c2 : (a1 == kk) = true := by rw [c]; exact beq_self_eq_true _
              have s6 : ((a1 : Nat) : Int) + 1 = (b : Nat) := by omega
              have B1 : Hid (b < 256) := by unfold Hid; omega
              by_cases f : i + 1 = n
              · have g1 : (((i : Nat) : Int) == ((n1 : Nat) : Int)) = true := by rw [show i = n1 by omega]; exact beq_self_eq_true _
                have g2 : (i == n1) = true := by rw [show i = n1 by omega]; exact beq_self_eq_true _
                rw [d1 f] at cid
                clear c f ha1 hn1 hb d1 d2 ha1' iz ab hi1
                have s2 := NU3.out a1 A1.out
                have s4 := (NU2.out n1 N1.out).1
                have s5 := (NU2.out n1 N1.out).2
                have s7 := NU3.out b B1.out
                have s9 := (NU2.out i1 I1.out.1).1
                have s10 := (NU2.out i1 I1.out.1).2
                go_wp2_with fail
                go_roundw
                case rel => exact ⟨i + 1, b, by rw [I1.out.2.1], rfl, by first | trivial | rfl, JN⟩
                case measure => simp only [intOf]; exact I1.out.2.2
              · have g1 : (((i : Nat) : Int) == ((n1 : Nat) : Int)) = false := by rw [beq_eq_false_iff_ne]; omega
                have g2 : (i == n1) = false := by rw [beq_eq_false_iff_ne]; omega
                have g3 : ¬ ((i : Nat) : Int) = ((n1 : Nat) : Int) := by omega
                rw [d2 f] at cid
                clear c f ha1 hn1 hb d1 d2 ha1' iz ab hi1
                have s2 := NU3.out a1 A1.out
                have s4 := (NU2.out n1 N1.out).1
                have s5 := (NU2.out n1 N1.out).2
                have s7 := NU3.out b B1.out
                have s9 := (NU2.out i1 I1.out.1).1
                have s10 := (NU2.out i1 I1.out.1).2
                go_wp2_with fail
                go_roundw
                case rel => exact ⟨i + 1, b, by rw [I1.out.2.1], rfl, by first | trivial | rfl, JN⟩
                case measure => simp only [intOf]; exact I1.out.2.2
            · rw [if_neg c] at hb
              subst hb
              have c1 : (((b : Nat) : Int) == ((kk : Nat) : Int)) = false := by rw [beq_eq_false_iff_ne]; omega
              have c2 : (b == kk) = false := by rw [beq_eq_false_iff_ne]; exact c
              have c3 : ¬ ((b : Nat) : Int) = ((kk : Nat) : Int) := by omega
              by_cases f : i + 1 = n
              · have g1 : (((i : Nat) : Int) == ((n1 : Nat) : Int)) = true := by rw [show i = n1 by omega]; exact beq_self_eq_true _
                have g2 : (i == n1) = true := by rw [show i = n1 by omega]; exact beq_self_eq_true _
                rw [d1 f] at cid
                clear c f ha1 hn1 d1 d2 ha1' iz ab hi1
                have s2 := NU3.out b A1.out
                have s4 := (NU2.out n1 N1.out).1
                have s5 := (NU2.out n1 N1.out).2
                have s9 := (NU2.out i1 I1.out.1).1
                have s10 := (NU2.out i1 I1.out.1).2
                go_wp2_with fail
                go_roundw
                case rel => exact ⟨i + 1, b, by rw [I1.out.2.1], rfl, by first | trivial | rfl, JN⟩
                case measure => simp only [intOf]; exact I1.out.2.2
              · have g1 : (((i : Nat) : Int) == ((n1 : Nat) : Int)) = false := by rw [beq_eq_false_iff_ne]; omega
                have g2 : (i == n1) = false := by rw [beq_eq_false_iff_ne]; omega
                have g3 : ¬ ((i : Nat) : Int) = ((n1 : Nat) : Int) := by omega
                rw [d2 f] at cid
                clear c f ha1 hn1 d1 d2 ha1' iz ab hi1
                have s2 := NU3.out b A1.out
                have s4 := (NU2.out n1 N1.out).1
                have s5 := (NU2.out n1 N1.out).2
                have s9 := (NU2.out i1 I1.out.1).1
                have s10 := (NU2.out i1 I1.out.1).2
                go_wp2_with fail
                go_roundw
                case rel => exact ⟨i + 1, b, by rw [I1.out.2.1], rfl, by first | trivial | rfl, JN⟩
                case measure => simp only [intOf]; exact I1.out.2.2
          · have ie : i = n := by have := J.out.1; omega
            have ij : ((n : Nat) : Int) ≤ ((i : Nat) : Int) := by omega
            have ik : decide (((i : Nat) : Int) < ((n : Nat) : Int)) = false := decide_eq_false (by omega)
            clear J ie iz
            go_wp2_with fail
            go_roundw
            case rel => exact .inr (.inl ⟨rfl, s3, Lib.hid RO.out.tat, SN⟩)
            case measure => decide
      · go_wp2_with fail
        refine (emp_fire T.out Q.out (by decide) (by decide)).mono ?_; rintro r3 w3 ⟨p3, c3, s3, rfl, T3, Q3⟩
        have T3 := Lib.hid T3
        have SN : Hid (s3.ad = n ∧ s3.ca = n + 1 ∧ (s3.l false).length + (s3.l true).length ≤ n) := ⟨Q3.ad, Q3.ca, Q3.lens⟩
        have nn1 : ((0 : Int) == ((n : Nat) : Int)) = false := by have := NB.out.2.1; rw [beq_eq_false_iff_ne]; omega
        have nn2 : (0 == n) = false := by have := NB.out.2.1; rw [beq_eq_false_iff_ne]; omega
        have nn3 : ¬ (0 : Int) = ((n : Nat) : Int) := by have := NB.out.2.1; omega
        clear T Q Q3
        go_wp2_with fail
        go_loopw [18, 19] (fun aa ii wx => aa = .int .u64 0 ∧ ii = .int .i64 0 ∧ wx = w3) (fun _ _ _ => 0)
        case atStart => exact ⟨rfl, rfl, rfl⟩
        case round =>
          obtain ⟨rfl, rfl, rfl⟩ := hrel
          go_wp2_with fail
          go_roundw
          case rel => exact .inr (.inr ⟨rfl, s3, T3, SN⟩)
          case measure => decide
      · obtain ⟨n1', hn1⟩ : ∃ j, n + 1 = j := ⟨_, rfl⟩
        have LA := Lib.hid (last_any T.out Q.out.1 Q.out.2.1 (by have := NB.out.2.2; omega) Q.out.2.2)
        rw [hn1] at LA
        have f1 : ((n : Nat) : Int) + 1 = (n1' : Nat) := by omega
        have f2 := NU3.out n V0.out.2.1
        have f3 := NU3.out n1' (by have := NB.out.2.2; omega)
        clear T Q hn1
        go_wp2_with fail
        refine LA.out.mono ?_; rintro r4 w4 ⟨rfl, l4⟩
        have L4 := Lib.hid l4
        clear LA l4
        go_wp2_with (go_at_call 9; refine (AV.out _).mono ?_; rintro r9 w9 ⟨rfl, l9⟩; have L9 := Lib.hid (L4.out.trans (l9.mono L4.out.size)); clear l9)
        go_ret
        exact ⟨rfl, L9.out⟩
end Go.Proofs.Ytbfmmeapjfljbaa
