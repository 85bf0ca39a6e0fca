/- CountFollows: the walk. -/
import Derived.Test.YtkhhaeoofebjlaaCountE
import Derived.Test.YtkhhaeoofebjlaaFrame
import Derived.Deep.DeepCutAuto
set_option maxRecDepth 100000
namespace Go.Proofs.Ytkhhaeoofebjlaa
open Go.ChangeShapes Go.WideShapes Go.ChangeAt Go.RowKit

theorem foll_nums {k mk f G m : Nat} (hk : k ≤ 64) (hm : mk + 1 = 2 ^ k) (hf : f < 2 ^ k) :
    ∃ A1 A2 R R2 B1 B2 : Nat, IntKind.u64.wrap ((f : Int) + (G : Int)) = (A1 : Int) ∧ IntKind.u64.wrap ((A1 : Int) + (m : Int)) = (A2 : Int) ∧ bits .and .u64 (A2 : Int) (mk : Int) = (R : Int) ∧ bits .and .u64 (A1 : Int) (mk : Int) = (R2 : Int) ∧
      IntKind.u64.wrap ((f : Int) + ((G + m : Nat) : Int)) = (B1 : Int) ∧ IntKind.u64.wrap ((B1 : Int) - (m : Int)) = (B2 : Int) ∧ bits .and .u64 (B2 : Int) (mk : Int) = (R2 : Int) ∧ R = (f + (G + m)) % 2 ^ k ∧ R2 = (f + G) % 2 ^ k := by
  have p := pow_le64 hk
  have d := pow_dvd64 hk
  have hf' : f < 18446744073709551616 := Nat.lt_of_lt_of_le hf p
  refine ⟨(f + G) % 18446744073709551616, (f + (G + m)) % 18446744073709551616, (f + (G + m)) % 2 ^ k, (f + G) % 2 ^ k, (f + (G + m)) % 18446744073709551616, (f + G) % 18446744073709551616, ?_, ?_, ?_, ?_, ?_, ?_, ?_, rfl, rfl⟩
  · rw [IntKind.wrap_u64]; omega
  · rw [IntKind.wrap_u64]; omega
  · rw [and_round (Nat.mod_lt _ (by decide)) hk hm, Nat.mod_mod_of_dvd _ d]
  · rw [and_round (Nat.mod_lt _ (by decide)) hk hm, Nat.mod_mod_of_dvd _ d]
  · rw [IntKind.wrap_u64]; omega
  · rw [IntKind.wrap_u64]; omega
  · rw [and_round (Nat.mod_lt _ (by decide)) hk hm, Nat.mod_mod_of_dvd _ d]

/-- Where both counters are, behind so many readings. -/
structure FolI (w wr : World) (N1 N2 k f G S q n : Nat) : Prop where
  qn : q ≤ n
  q6 : q ≤ 60
  g : G ≤ q * 144115188075855872
  s : S < 2 ^ k
  sg : S ≤ G
  c : Ct wr N1 k ((f + G) % 2 ^ k) G false
  d : Ct wr N2 k ((f + (G - S)) % 2 ^ k) (G - S) false
  low : Below w.heap.size w wr

set_option maxHeartbeats 16000000 in
theorem follows9_core (w : World) (b f k j mk r f0 : Nat) (p : Option Addr) (n c : Nat) (ds : List Nat) (hp : Holds w p n c (valsN .u64 ds)) (hd : ∀ x ∈ ds, x < 18446744073709551616)
    (hk8 : 8 ≤ k) (hk : k ≤ 64) (hm : mk + 1 = 2 ^ k) (hf : f0 < 2 ^ k) (hb : b < 256) (r1 : (b : Int).tmod 57 = (r : Int)) (r2 : (b : Int) % 57 = (r : Int)) (r3 : 8 + (r : Int) = (k : Int)) (j1 : 64 - (k : Int) = (j : Int)) (j2 : (18446744073709551615 : Int) / 2 ^ j = (mk : Int))
    (e0 : bits .and .u64 (f : Int) (mk : Int) = (f0 : Int)) :
    Calls Try.prog 3 #[.int .u8 (b : Nat), .int .u64 (f : Nat), .slice p n c] w fun e w' => e = .returned (.bool true) ∧ Below w.heap.size w w' := by
  have NW := Lib.hid (fun w => pnew9_ok w k f0 hk8 hk hf)
  have HP := Lib.hid hp
  have HD := Lib.hid hd
  have K8 := Lib.hid hk8
  have K6 := Lib.hid hk
  have MK := Lib.hid hm
  have F0 := Lib.hid hf
  have KB : (k : Int) ≤ 64 := by omega
  have RB : (r : Int) ≤ 56 := by omega
  have JB : (j : Int) ≤ 56 := by omega
  have BB : (b : Int) < 256 := by omega
  have cp := hp.cap
  have mx := hp.max
  unfold maxLen at mx
  have nb : (n : Int) ≤ 9223372036854775807 := by omega
  clear hp hd hk8 hk hm hf hb cp mx
  go_enter Try.func3, Try.ntmps3
  go_wp2_with fail
  refine (NW.out w).mono ?_; rintro e w1 ⟨N1, rfl, c1, h1, l1⟩
  have L1 := Lib.hid l1
  have C1 := Lib.hid c1
  have H1 := Lib.hid h1
  clear l1 c1 h1
  go_wp2_with fail
  refine (NW.out w1).mono ?_; rintro e w2 ⟨N2, rfl, c2, h2, l2⟩
  have L2 := Lib.hid (L1.out.trans (l2.mono L1.out.size))
  have D1 := Lib.hid (C1.out.below l2)
  have D2 := Lib.hid c2
  have NE : Hid (N1 ≠ N2) := by unfold Hid; have := C1.out.lt; omega
  have H2 : Hid (w.heap.size ≤ N2) := Nat.le_trans L1.out.size h2
  clear l2 c2 h2 C1 L1 NW
  go_wp2_with fail
  refine (awake9_any w2).mono ?_; rintro e w3 ⟨rfl, l3⟩
  have I3 : Hid (FolI w w3 N1 N2 k f0 0 0 0 n) := ⟨Nat.zero_le _, by decide, Nat.zero_le _, by have := F0.out; omega, Nat.le_refl _, by
      have := D1.out.below l3
      rw [Nat.add_zero, Nat.mod_eq_of_lt F0.out]; exact this, by
      have := D2.out.below l3
      rw [Nat.sub_self, Nat.add_zero, Nat.mod_eq_of_lt F0.out]; exact this, L2.out.trans (l3.mono L2.out.size)⟩
  clear l3 L2 D1 D2
  go_wp2_with fail
  go_loopw [13, 14, 58] (fun g s i wr => ∃ G S q : Nat, g = .int .u64 (G : Nat) ∧ s = .int .u64 (S : Nat) ∧ i = .int .i64 (q : Nat) ∧ Hid (FolI w wr N1 N2 k f0 G S q n)) (fun _ _ i _ => 1000 - (intOf i).toNat)
  case atStart => exact ⟨0, 0, 0, rfl, rfl, rfl, I3.out⟩
  case round =>
    obtain ⟨G, S, q, rfl, rfl, rfl, I⟩ := hrel
    have qb : (q : Int) ≤ 60 := by have := I.out.q6; omega
    have q0 : (0 : Int) ≤ (q : Int) := by omega
    by_cases hq : q < n
    case neg =>
      have h' : (n : Int) ≤ (q : Int) := by omega
      have h'' : decide ((q : Int) < (n : Int)) = false := by simp; omega
      obtain ⟨A1, A2, R, R2, B1, B2, E1, E2, E3, E4, E5, E6, E7, eR, eR2⟩ := foll_nums (m := 0) (G := G) K6.out MK.out F0.out
      clear E2 E3 E5 E6 E7
      have RD := Lib.hid (pread9_ok wr N2 k ((f0 + (G - S)) % 2 ^ k) (G - S) R2 S I.out.d (by have := K8.out; omega) K6.out (Nat.mod_lt _ (Nat.two_pow_pos k)) I.out.s (by rw [eR2, Nat.mod_add_mod, show f0 + (G - S) + S = f0 + G by have := I.out.sg; omega]) (by have := I.out.g; have := I.out.q6; have := I.out.sg; omega))
      have TT : Hid (∀ w', Ct w' N2 k R2 (G - S + S) false → Calls Try.prog 9 #[.pointer (some ⟨N2, 0, none⟩)] w' fun r w'' => r = .returned (.int .u64 (G : Nat)) ∧ w'' = w') := fun w' c => by
        have := ptotal9_any w' N2 k R2 (G - S + S) false c (by have := K8.out; omega)
        rwa [show G - S + S = G by have := I.out.sg; omega] at this
      have LW := Lib.hid I.out.low
      have GG : ((G : Int) == (G : Int)) = true := beq_self_eq_true _
      clear I eR2 eR HP HD
      go_wp2_with fail
      refine RD.out.mono ?_; rintro e w4 ⟨rfl, c4, t4⟩
      have C4 := Lib.hid c4
      have L4 := Lib.hid (t4.below LW.out H2.out)
      clear c4 t4 RD LW
      go_wp2_with fail
      refine (TT.out _ C4.out).mono ?_; rintro e w5 ⟨rfl, rfl⟩
      go_wp2
      go_ret
      exact ⟨rfl, L4.out⟩
    by_cases h60 : q = 60
    case pos =>
      have h' : (q : Int) < (n : Int) := by omega
      obtain ⟨A1, A2, R, R2, B1, B2, E1, E2, E3, E4, E5, E6, E7, eR, eR2⟩ := foll_nums (m := 0) (G := G) K6.out MK.out F0.out
      clear E2 E3 E5 E6 E7
      obtain ⟨a, rfl, c0⟩ := (HP.out.below I.out.low).atN hq
      obtain ⟨x, hx⟩ : ∃ x, x = ds.getD q 0 := ⟨_, rfl⟩
      rw [← hx] at c0
      have t60 : ((q : Int) == 60) = true := by rw [beq_iff_eq]; omega
      clear hx h60 hq
      have RD := Lib.hid (pread9_ok wr N2 k ((f0 + (G - S)) % 2 ^ k) (G - S) R2 S I.out.d (by have := K8.out; omega) K6.out (Nat.mod_lt _ (Nat.two_pow_pos k)) I.out.s (by rw [eR2, Nat.mod_add_mod, show f0 + (G - S) + S = f0 + G by have := I.out.sg; omega]) (by have := I.out.g; have := I.out.q6; have := I.out.sg; omega))
      have TT : Hid (∀ w', Ct w' N2 k R2 (G - S + S) false → Calls Try.prog 9 #[.pointer (some ⟨N2, 0, none⟩)] w' fun r w'' => r = .returned (.int .u64 (G : Nat)) ∧ w'' = w') := fun w' c => by
        have := ptotal9_any w' N2 k R2 (G - S + S) false c (by have := K8.out; omega)
        rwa [show G - S + S = G by have := I.out.sg; omega] at this
      have LW := Lib.hid I.out.low
      have GG : ((G : Int) == (G : Int)) = true := beq_self_eq_true _
      clear I eR2 eR HP HD
      go_wp2_with fail
      refine RD.out.mono ?_; rintro e w4 ⟨rfl, c4, t4⟩
      have C4 := Lib.hid c4
      have L4 := Lib.hid (t4.below LW.out H2.out)
      clear c4 t4 RD LW
      go_wp2_with fail
      refine (TT.out _ C4.out).mono ?_; rintro e w5 ⟨rfl, rfl⟩
      go_wp2
      go_ret
      exact ⟨rfl, L4.out⟩
    have h' : (q : Int) < (n : Int) := by omega
    have t60 : ((q : Int) == 60) = false := by rw [beq_eq_false_iff_ne]; omega
    have q59 : (q : Int) ≤ 59 := by have := I.out.q6; omega
    obtain ⟨a, rfl, c0⟩ := (HP.out.below I.out.low).atN hq
    obtain ⟨x, hx⟩ : ∃ x, x = ds.getD q 0 := ⟨_, rfl⟩
    have xb : x < 18446744073709551616 := by
      rw [hx]
      have lq : q < ds.length := by have := HP.out.len; rw [valsN_len] at this; omega
      rw [List.getD_eq_getElem?_getD, List.getElem?_eq_getElem lq]
      exact HD.out _ (List.getElem_mem lq)
    rw [← hx] at c0
    obtain ⟨x1, hx1⟩ : ∃ x1, x1 = x % 2 ^ k := ⟨_, rfl⟩
    obtain ⟨m, hmm⟩ : ∃ m, m = x1 % 144115188075855872 := ⟨_, rfl⟩
    have e1 : bits .and .u64 (x : Int) (mk : Int) = (x1 : Int) := by rw [and_round xb K6.out MK.out, hx1]
    have e2 : (x1 : Int) % 144115188075855872 = (m : Int) := by omega
    have e3 : (x1 : Int).tmod 144115188075855872 = (m : Int) := by rw [Int.tmod_eq_emod_of_nonneg (by omega)]; exact e2
    have mb : m < 144115188075855872 := by omega
    have m2 : m < 2 ^ k := by
      have : x1 < 2 ^ k := by rw [hx1]; exact Nat.mod_lt _ (Nat.two_pow_pos k)
      omega
    have gb := I.out.g
    have g63 : G + m < 9223372036854775808 := by omega
    obtain ⟨A1, A2, R, R2, B1, B2, E1, E2, E3, E4, E5, E6, E7, eR, eR2⟩ := foll_nums (m := m) (G := G) K6.out MK.out F0.out
    have sgb := I.out.sg
    obtain ⟨G1, hG1⟩ : ∃ G1, G1 = G + m := ⟨_, rfl⟩
    obtain ⟨S1, hS1⟩ : ∃ S1, S1 = S + m := ⟨_, rfl⟩
    rw [← hG1] at E5 eR
    have GS : (G : Int) + (m : Int) = (G1 : Int) := by omega
    have WG : IntKind.u64.wrap (G1 : Int) = (G1 : Int) := by rw [IntKind.wrap_u64]; omega
    have SS : (S : Int) + (m : Int) = (S1 : Int) := by omega
    have WS : IntKind.u64.wrap (S1 : Int) = (S1 : Int) := by rw [IntKind.wrap_u64]; omega
    have WM : IntKind.u64.wrap (m : Int) = (m : Int) := by rw [IntKind.wrap_u64]; omega
    have mm : ((m : Int) != (m : Int)) = false := by simp
    have gg : ((G1 : Int) != (G1 : Int)) = false := by simp
    have rr : ((R : Int) != (R : Int)) = false := by simp
    have k0 : 0 < k := by have := K8.out; omega
    have RC : Hid (Calls Try.prog 8 #[.pointer (some ⟨N1, 0, none⟩), .int .u64 (R : Nat)] wr (ReadP wr N1 k R G1 m)) := by
      rw [hG1]
      exact pread9_ok wr N1 k ((f0 + G) % 2 ^ k) G R m I.out.c k0 K6.out (Nat.mod_lt _ (Nat.two_pow_pos k)) m2 (by rw [eR, hG1, Nat.mod_add_mod, Nat.add_assoc]) (by omega)
    have RD : Hid (∀ w', Ct w' N2 k ((f0 + (G - S)) % 2 ^ k) (G - S) false → Calls Try.prog 8 #[.pointer (some ⟨N2, 0, none⟩), .int .u64 (R2 : Nat)] w' (ReadP w' N2 k R2 (G - S + S) S)) := fun w' c =>
      pread9_ok w' N2 k ((f0 + (G - S)) % 2 ^ k) (G - S) R2 S c k0 K6.out (Nat.mod_lt _ (Nat.two_pow_pos k)) I.out.s (by rw [eR2, Nat.mod_add_mod, show f0 + (G - S) + S = f0 + G by omega]) (by omega)
    have T1 : Hid (∀ w', Ct w' N1 k R G1 false → Calls Try.prog 9 #[.pointer (some ⟨N1, 0, none⟩)] w' fun r w'' => r = .returned (.int .u64 (G1 : Nat)) ∧ w'' = w') := fun w' c => ptotal9_any w' N1 k R G1 false c k0
    have T2 : Hid (∀ w', Ct w' N1 k R G1 false → Calls Try.prog 10 #[.pointer (some ⟨N1, 0, none⟩)] w' fun r w'' => r = .returned (.int .u64 (R : Nat)) ∧ w'' = w') := fun w' c => plast9_any w' N1 k R G1 false c k0
    have T3 : Hid (∀ w', Ct w' N1 k R G1 false → Calls Try.prog 11 #[.pointer (some ⟨N1, 0, none⟩)] w' fun r w'' => r = .returned (.bool false) ∧ w'' = w') := fun w' c => pfull9_any w' N1 k R G1 c k0
    have NA : Hid (∀ w', Ct w' N1 k R G1 false → Ct w' N2 k R2 (G - S + S) false → Below w.heap.size w w' → FolI w w' N1 N2 k f0 G1 m (q + 1) n) := fun w' c d l =>
      ⟨hq, by omega, by omega, m2, by omega, by rw [← eR]; exact c, by rw [show G1 - m = G by omega, ← eR2, show G = G - S + S by omega]; rw [show G - S + S = G by omega] at d ⊢; exact d, l⟩
    have NB : Hid (S1 < 2 ^ k → ∀ w', Ct w' N1 k R G1 false → Ct w' N2 k ((f0 + (G - S)) % 2 ^ k) (G - S) false → Below w.heap.size w w' → FolI w w' N1 N2 k f0 G1 S1 (q + 1) n) := fun s w' c d l =>
      ⟨hq, by omega, by omega, s, by omega, by rw [← eR]; exact c, by rw [show G1 - S1 = G - S by omega]; exact d, l⟩
    have DI := Lib.hid I.out.d
    have LW := Lib.hid I.out.low
    have MK1 := Lib.hid MK.out
    clear I E4 eR eR2 hx hx1 hmm hG1 hS1 xb mb m2 gb g63 sgb k0 HP HD hq h60
    go_wp2_with fail
    refine RC.out.mono ?_; rintro e w4 ⟨rfl, c4, t4⟩
    have C4 := Lib.hid c4
    have D4 := Lib.hid (t4.ct DI.out (fun h => NE.out h.symm))
    have L4 := Lib.hid (t4.below LW.out H1.out)
    clear c4 t4 RC DI LW
    by_cases far : mk < S1
    · have d1 : decide ((mk : Int) < (S1 : Int)) = true := by simp; omega
      have d2 : (mk : Int) < (S1 : Int) := by omega
      clear far NB
      go_wp2_with fail
      refine (RD.out _ D4.out).mono ?_; rintro e w5 ⟨rfl, c5, t5⟩
      have D5 := Lib.hid c5
      have C5 := Lib.hid (t5.ct C4.out NE.out)
      have L5 := Lib.hid (t5.below L4.out H2.out)
      clear c5 t5 C4 D4 L4
      go_wp2_with fail
      refine (T1.out _ C5.out).mono ?_; rintro e w6 ⟨rfl, rfl⟩
      go_wp2_with fail
      refine (T2.out _ C5.out).mono ?_; rintro e w7 ⟨rfl, rfl⟩
      go_wp2_with fail
      refine (T3.out _ C5.out).mono ?_; rintro e w8 ⟨rfl, rfl⟩
      go_wp2
      go_roundw
      case rel => exact ⟨G1, m, q + 1, rfl, rfl, by go_num, NA.out _ C5.out D5.out L5.out⟩
      case measure => simp [intOf]; omega
    · have d1 : decide ((mk : Int) < (S1 : Int)) = false := by simp; omega
      have d2 : (S1 : Int) ≤ (mk : Int) := by omega
      have NB1 := Lib.hid (NB.out (by have := MK1.out; omega))
      clear far NB
      go_wp2_with fail
      refine (T1.out _ C4.out).mono ?_; rintro e w6 ⟨rfl, rfl⟩
      go_wp2_with fail
      refine (T2.out _ C4.out).mono ?_; rintro e w7 ⟨rfl, rfl⟩
      go_wp2_with fail
      refine (T3.out _ C4.out).mono ?_; rintro e w8 ⟨rfl, rfl⟩
      go_wp2
      go_roundw
      case rel => exact ⟨G1, S1, q + 1, rfl, rfl, by go_num, NB1.out _ C4.out D4.out L4.out⟩
      case measure => simp [intOf]; omega

theorem follows9_walk (w : World) (b f : Nat) (p : Option Addr) (n c : Nat) (ds : List Nat) (hp : Holds w p n c (valsN .u64 ds)) (hd : ∀ x ∈ ds, x < 18446744073709551616) (hb : b < 256) (hf : f < 18446744073709551616) :
    Calls Try.prog 3 #[.int .u8 (b : Nat), .int .u64 (f : Nat), .slice p n c] w fun e w' => e = .returned (.bool true) ∧ Below w.heap.size w w' := by
  obtain ⟨r, hr⟩ : ∃ r, r = b % 57 := ⟨_, rfl⟩
  obtain ⟨k, hk⟩ : ∃ k, k = 8 + r := ⟨_, rfl⟩
  obtain ⟨j, hj⟩ : ∃ j, j + k = 64 := ⟨64 - k, by omega⟩
  obtain ⟨mk, hm⟩ : ∃ mk, mk + 1 = 2 ^ k := ⟨2 ^ k - 1, by have := Nat.two_pow_pos k; omega⟩
  exact follows9_core w b f k j mk r (f % 2 ^ k) p n c ds hp hd (by omega) (by omega) hm (Nat.mod_lt _ (Nat.two_pow_pos k)) hb (by rw [Int.tmod_eq_emod_of_nonneg (by omega)]; omega) (by omega) (by omega) (by omega) (div_round hj hm) (and_round hf (by omega) hm)
end Go.Proofs.Ytkhhaeoofebjlaa
