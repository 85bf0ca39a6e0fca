/- ScaleParts: the walk. -/
import Derived.Test.YtccfimempjbnfaaScaleD
import Derived.Test.YtccfimempjbnfaaFrame
set_option maxRecDepth 100000
namespace Go.Proofs.Ytccfimempjbnfaa
open Go.ChangeShapes Go.WideShapes Go.ChangeAt Go.RowKit ScaleM

theorem partsG {M c h n m : Nat} (h0 : 0 < h) (nf : totG M c h (n + m) ≠ M) : totG M c h n + totG M c h m ≤ totG M c h (n + m) ∧ totG M c h (n + m) ≤ totG M c h n + totG M c h m + 1 := by
  have s := (split_more (n := n) (t := m) (c := c) h0).1
  have l := Nat.mod_lt (n * c) h0
  have a : m * c / h ≤ (m * c + n * c % h) / h := Nat.div_le_div_right (Nat.le_add_right _ _)
  have b : (m * c + n * c % h) / h ≤ m * c / h + 1 := by
    have : (m * c + n * c % h) / h ≤ (m * c + h) / h := Nat.div_le_div_right (by omega)
    rw [Nat.add_div_right _ h0] at this
    exact this
  unfold totG at *
  rw [s] at nf ⊢
  generalize (m * c + n * c % h) / h = x at *
  generalize m * c / h = y at *
  generalize n * c / h = z at *
  omega
theorem parts_more {h n m : Nat} (h0 : 0 < h) (nf : totT h (n + m) ≠ 4611686018427387904) : totT h n + totT h m ≤ totT h (n + m) ∧ totT h (n + m) ≤ totT h n + totT h m + 1 := partsG h0 nf

theorem parts10_no (w : World) (h : Nat) (p : Option Addr) (n c : Nat) (hb : h < 18446744073709551616) (hn : ¬ (0 < h ∧ h ≤ 1000000000000)) :
    Calls Try.prog 4 #[.int .u64 (h : Nat), .slice p n c] w fun e w' => e = .returned (.bool true) ∧ Below w.heap.size w w' := by
  have N := Lib.hid (fun w => pnew10_no w h hn)
  have AL := Lib.hid alive10_any
  by_cases z : h = 0
  · subst z
    clear hn hb
    go_enter Try.func4, Try.ntmps4
    go_wp2_with fail
    refine (N.out w).mono ?_; rintro e w1 ⟨rfl, l1⟩
    have L1 := Lib.hid l1
    clear l1
    go_wp2_with fail
    refine (N.out w1).mono ?_; rintro e w2 ⟨rfl, l2⟩
    have L2 := Lib.hid (L1.out.trans (l2.mono L1.out.size))
    clear l2
    go_wp2_with fail
    refine (AL.out w2).mono ?_; rintro e w3 ⟨rfl, l3⟩
    have L3 := Lib.hid (L2.out.trans (l3.mono L2.out.size))
    go_wp2
    go_ret
    exact ⟨rfl, L3.out⟩
  · have z1 : (1 : Int) ≤ (h : Int) := by omega
    have z2 : decide ((h : Int) ≤ 1000000000000) = false := decide_eq_false (by omega)
    have z3 : 1000000000000 < (h : Int) := by omega
    clear hn hb z
    go_enter Try.func4, Try.ntmps4
    go_wp2_with fail
    refine (N.out w).mono ?_; rintro e w1 ⟨rfl, l1⟩
    have L1 := Lib.hid l1
    clear l1
    go_wp2_with fail
    refine (N.out w1).mono ?_; rintro e w2 ⟨rfl, l2⟩
    have L2 := Lib.hid (L1.out.trans (l2.mono L1.out.size))
    clear l2
    go_wp2_with fail
    refine (AL.out w2).mono ?_; rintro e w3 ⟨rfl, l3⟩
    have L3 := Lib.hid (L2.out.trans (l3.mono L2.out.size))
    go_wp2
    go_ret
    exact ⟨rfl, L3.out⟩

/-- Where both scales are, behind so many parts. -/
structure PartI (w wr : World) (N1 N2 h G q n : Nat) : Prop where
  qn : q ≤ n
  q6 : q ≤ 60
  g : G ≤ q * 1125899906842624
  c : Sc wr N1 h G
  d : Sc wr N2 h 0
  low : Below w.heap.size w wr

set_option maxHeartbeats 16000000 in
theorem parts10_ok (w : World) (h : Nat) (p : Option Addr) (n c : Nat) (ds : List Nat) (hp : Holds w p n c (valsN .u64 ds)) (hd : ∀ x ∈ ds, x < 18446744073709551616) (h0 : 0 < h) (h1 : h ≤ 1000000000000) :
    Calls Try.prog 4 #[.int .u64 (h : Nat), .slice p n c] w fun e w' => e = .returned (.bool true) ∧ Below w.heap.size w w' := by
  have N := Lib.hid (fun w => pnew10_ok w h h0 h1)
  have AL := Lib.hid alive10_any
  have H0 := Lib.hid h0
  have H1 := Lib.hid h1
  have HP := Lib.hid hp
  have HD := Lib.hid hd
  have z1 : (1 : Int) ≤ (h : Int) := by omega
  have z2 : (h : Int) ≤ 1000000000000 := by omega
  have cp := hp.cap
  have mx := hp.max
  unfold maxLen at mx
  have nb : (n : Int) ≤ 9223372036854775807 := by omega
  clear hp hd h0 h1 cp mx
  go_enter Try.func4, Try.ntmps4
  go_wp2_with fail
  refine (N.out w).mono ?_; rintro e w1 ⟨N1, rfl, c1, g1, l1⟩
  have L1 := Lib.hid l1
  have C1 := Lib.hid c1
  have G1 := Lib.hid g1
  clear l1 c1 g1
  go_wp2_with fail
  refine (N.out w1).mono ?_; rintro e w2 ⟨N2, rfl, c2, g2, l2⟩
  have NE : Hid (N1 ≠ N2) := by unfold Hid; have := C1.out.lt; omega
  have G2 : Hid (w.heap.size ≤ N2) := Nat.le_trans L1.out.size g2
  have I0 : Hid (PartI w w2 N1 N2 h 0 0 n) := ⟨Nat.zero_le _, by decide, Nat.zero_le _, C1.out.below l2, c2, L1.out.trans (l2.mono L1.out.size)⟩
  clear c2 g2 l2 C1 L1
  go_wp2_with fail
  go_loopw [9, 10, 11] (fun s t i wr => ∃ G q : Nat, s = .int .u64 (G : Nat) ∧ t = .int .i64 (totT h G : Nat) ∧ i = .int .i64 (q : Nat) ∧ Hid (PartI w wr N1 N2 h G q n)) (fun _ _ i _ => 1000 - (intOf i).toNat)
  case atStart => exact ⟨0, 0, rfl, by rw [tot_zero]; rfl, rfl, I0.out⟩
  case round =>
    obtain ⟨G, q, rfl, rfl, rfl, I⟩ := hrel
    have q0 : (0 : Int) ≤ (q : Int) := by omega
    have qb : (q : Int) ≤ 60 := by have := I.out.q6; omega
    have END : Hid (∀ z, decide (totT h G = 4611686018427387904) = z → ∀ wr', Sc wr' N1 h G → Calls Try.prog 18 #[.pointer (some ⟨N1, 0, none⟩)] wr' (fun r w' => r = .returned (.bool z) ∧ Below wr'.heap.size wr' w')) := fun z e wr' cc => by
      have t := pfullq10_any wr' N1 h G cc H0.out
      rwa [e] at t
    by_cases stop : n ≤ q ∨ q = 60
    · have TB : Hid (Calls Try.prog 14 #[.pointer (some ⟨N2, 0, none⟩), .int .u64 (G : Nat)] wr (ToP10 wr N2 h G (totT h G))) := pto10_any wr N2 h 0 G G (totT h G) I.out.d H0.out H1.out (by have := I.out.g; have := I.out.q6; omega) (Nat.zero_add _) (by rw [tot_zero, Nat.zero_add])
      have Q1 := Lib.hid (fun w' c => ptotal10_any w' N2 h G c H0.out)
      have Q2 := Lib.hid (fun w' c => ptotal10_any w' N1 h G c H0.out)
      obtain ⟨z, hz⟩ : ∃ z, decide (totT h G = 4611686018427387904) = z := ⟨_, rfl⟩
      have F1 := Lib.hid (END.out z hz)
      have F2 : Hid (∀ w', Sc w' N2 h G → Calls Try.prog 18 #[.pointer (some ⟨N2, 0, none⟩)] w' (fun r w'' => r = .returned (.bool z) ∧ Below w'.heap.size w' w'')) := fun w' cc => by
        have t := pfullq10_any w' N2 h G cc H0.out
        rwa [hz] at t
      have CI := Lib.hid I.out.c
      have LW := Lib.hid I.out.low
      have zz : (z == z) = true := beq_self_eq_true _
      generalize totT h G = T at *
      have tt : ((T : Int) == (T : Int)) = true := beq_self_eq_true _
      have stop' : ((n : Int) ≤ (q : Int) ∧ decide ((q : Int) < (n : Int)) = false) ∨ ((q : Int) < (n : Int) ∧ (q : Int) = 60) := by
        rcases stop with s | s
        · exact .inl ⟨by omega, decide_eq_false (by omega)⟩
        · by_cases s2 : n ≤ q
          · exact .inl ⟨by omega, decide_eq_false (by omega)⟩
          · exact .inr ⟨by omega, by omega⟩
      clear I END stop hz HP HD
      rcases stop' with ⟨s1, s2⟩ | ⟨s1, s2⟩
      all_goals
        go_wp2_with fail
        refine TB.out.mono ?_; rintro e w4 ⟨rfl, c4, t4⟩
        have D4 := Lib.hid c4
        have C4 := Lib.hid (t4.sc CI.out NE.out)
        have L4 := Lib.hid (t4.below LW.out G2.out)
        clear c4 t4 TB CI LW
        go_wp2_with fail
        refine (Q1.out w4 D4.out).mono ?_; rintro e w5 ⟨rfl, rfl⟩
        go_wp2_with fail
        refine (Q2.out w5 C4.out).mono ?_; rintro e w6 ⟨rfl, rfl⟩
        go_wp2_with fail
        refine (F1.out w6 C4.out).mono ?_; rintro e w7 ⟨rfl, l7⟩
        have D7 := Lib.hid (D4.out.below l7)
        have L7 := Lib.hid (L4.out.trans (l7.mono L4.out.size))
        clear l7 D4 C4 L4 Q1 Q2 F1
        go_wp2_with fail
        refine (F2.out w7 D7.out).mono ?_; rintro e w8 ⟨rfl, l8⟩
        have L8 := Lib.hid (L7.out.trans (l8.mono L7.out.size))
        clear l8 D7 L7 F2
        go_wp2_with fail
        refine (AL.out w8).mono ?_; rintro e w9 ⟨rfl, l9⟩
        have L9 := Lib.hid (L8.out.trans (l9.mono L8.out.size))
        clear l9
        go_wp2
        go_ret
        exact ⟨rfl, L9.out⟩
    have h' : (q : Int) < (n : Int) := by omega
    have q59 : (q : Int) < 60 := by omega
    obtain ⟨a, rfl, c0⟩ := (HP.out.below I.out.low).atN (i := q) (by omega)
    obtain ⟨x, hx⟩ : ∃ x, x = ds.getD q 0 := ⟨_, rfl⟩
    rw [← hx] at c0
    obtain ⟨m, hm⟩ : ∃ m, m = x % 1125899906842624 := ⟨_, rfl⟩
    have e1 : (x : Int) % 1125899906842624 = (m : Int) := by omega
    have e2 : (x : Int).tmod 1125899906842624 = (m : Int) := by rw [Int.tmod_eq_emod_of_nonneg (by omega)]; exact e1
    have mb : m < 1125899906842624 := by omega
    have gb := I.out.g
    have q6 := I.out.q6
    obtain ⟨K, hK⟩ : ∃ K, K = G + m := ⟨_, rfl⟩
    have s1 : (G : Int) + (m : Int) = (K : Int) := by omega
    have s2 : IntKind.u64.wrap (K : Int) = (K : Int) := by rw [IntKind.wrap_u64]; omega
    have mo := tot_mono (h := h) (show G ≤ K by omega)
    have tl := tot_le h K
    have al := tot_le h m
    obtain ⟨d, hd⟩ : ∃ d, totT h G + d = totT h K := ⟨totT h K - totT h G, by omega⟩
    have pm := fun nf => parts_more (h := h) (n := G) (m := m) H0.out (by rw [← hK]; exact nf)
    rw [← hK] at pm
    have T1 : Hid (∀ w' N, Sc w' N h 0 → Calls Try.prog 14 #[.pointer (some ⟨N, 0, none⟩), .int .u64 (m : Nat)] w' (ToP10 w' N h m (totT h m))) := fun w' N c => pto10_any w' N h 0 m m (totT h m) c H0.out H1.out (by omega) (Nat.zero_add _) (by rw [tot_zero, Nat.zero_add])
    have T2 : Hid (∀ w', Sc w' N1 h G → Calls Try.prog 14 #[.pointer (some ⟨N1, 0, none⟩), .int .u64 (m : Nat)] w' (ToP10 w' N1 h K d)) := fun w' c => pto10_any w' N1 h G m K d c H0.out H1.out (by omega) hK.symm hd
    have Q := Lib.hid (fun w' c => ptotal10_any w' N1 h K c H0.out)
    obtain ⟨z, hz⟩ : ∃ z, decide (totT h G = 4611686018427387904) = z := ⟨_, rfl⟩
    obtain ⟨y, hy⟩ : ∃ y, decide (totT h K = 4611686018427387904) = y := ⟨_, rfl⟩
    have F1 := Lib.hid (END.out z hz)
    have F2 : Hid (∀ w', Sc w' N1 h K → Calls Try.prog 18 #[.pointer (some ⟨N1, 0, none⟩)] w' (fun r w'' => r = .returned (.bool y) ∧ Below w'.heap.size w' w'')) := fun w' cc => by
      have t := pfullq10_any w' N1 h K cc H0.out
      rwa [hy] at t
    have NX : Hid (∀ w', Sc w' N1 h K → Sc w' N2 h 0 → Below w.heap.size w w' → PartI w w' N1 N2 h K (q + 1) n) := fun w' a b l => ⟨by omega, by omega, by omega, a, b, l⟩
    have CI := Lib.hid I.out.c
    have DI := Lib.hid I.out.d
    have LW := Lib.hid I.out.low
    have cs : (z = true ∧ d = 0) ∨ (z = false ∧ y = true) ∨ (z = false ∧ y = false ∧ totT h m ≤ d ∧ d ≤ totT h m + 1) := by
      cases z
      · cases y
        · have nf : totT h K ≠ 4611686018427387904 := of_decide_eq_false hy
          have := pm nf
          exact .inr (.inr ⟨rfl, rfl, by omega, by omega⟩)
        · exact .inr (.inl ⟨rfl, rfl⟩)
      · have : totT h G = 4611686018427387904 := of_decide_eq_true hz
        exact .inl ⟨rfl, by omega⟩
    have TK : Hid (∃ T, totT h K = T) := ⟨_, rfl⟩
    clear I END hz hy pm mo hx hm hK HP HD stop
    generalize totT h m = A at *
    generalize totT h G = T at *
    obtain ⟨U, hU⟩ := TK.out
    rw [hU] at hd tl Q
    have r1 : (T : Int) + (d : Int) = (U : Int) := by omega
    have r2 : IntKind.i64.wrap (U : Int) = (U : Int) := by rw [IntKind.wrap_i64]; omega
    have r3 : ((U : Int) != (U : Int)) = false := by simp
    obtain ⟨A1, hA1⟩ : ∃ A1, A1 = A + 1 := ⟨_, rfl⟩
    have r4 : (A : Int) + 1 = (A1 : Int) := by omega
    have r5 : IntKind.i64.wrap (A1 : Int) = (A1 : Int) := by rw [IntKind.wrap_i64]; omega
    rw [← hA1] at cs
    have HU := Lib.hid hU
    have db : ¬ (d : Int) < 0 := by omega
    clear hd tl al gb q6 mb TK hU hA1
    go_wp2_with fail
    refine (N.out wr).mono ?_; rintro e w3 ⟨N3, rfl, c3, g3, l3⟩
    have E3 := Lib.hid c3
    have C3 := Lib.hid (CI.out.below l3)
    have D3 := Lib.hid (DI.out.below l3)
    have L3 := Lib.hid (LW.out.trans (l3.mono LW.out.size))
    have G3 : Hid (w.heap.size ≤ N3) := Nat.le_trans LW.out.size g3
    have X1 : Hid (N1 ≠ N3) := by unfold Hid; have := CI.out.lt; omega
    have X2 : Hid (N2 ≠ N3) := by unfold Hid; have := DI.out.lt; omega
    clear c3 g3 l3 CI DI LW
    go_wp2_with fail
    refine (T1.out w3 N3 E3.out).mono ?_; rintro e w4 ⟨rfl, c4, t4⟩
    have C4 := Lib.hid (t4.sc C3.out X1.out)
    have D4 := Lib.hid (t4.sc D3.out X2.out)
    have L4 := Lib.hid (t4.below L3.out G3.out)
    clear c4 t4 C3 D3 L3 E3 X1 X2 G3 T1
    go_wp2_with fail
    refine (F1.out w4 C4.out).mono ?_; rintro e w5 ⟨rfl, l5⟩
    have C5 := Lib.hid (C4.out.below l5)
    have D5 := Lib.hid (D4.out.below l5)
    have L5 := Lib.hid (L4.out.trans (l5.mono L4.out.size))
    clear l5 C4 D4 L4 F1
    go_wp2_with fail
    refine (T2.out w5 C5.out).mono ?_; rintro e w6 ⟨rfl, c6, t6⟩
    have C6 := Lib.hid c6
    have D6 := Lib.hid (t6.sc D5.out (fun h => NE.out h.symm))
    have L6 := Lib.hid (t6.below L5.out G1.out)
    clear c6 t6 C5 D5 L5 T2
    rcases cs with ⟨rfl, rfl⟩ | ⟨rfl, rfl⟩ | ⟨rfl, rfl, cl, cu⟩
    · obtain rfl : T = U := by omega
      clear r1 db
      go_wp2_with fail
      refine (Q.out w6 C6.out).mono ?_; rintro e w7 ⟨rfl, rfl⟩
      go_wp2
      go_roundw
      case rel => exact ⟨K, q + 1, rfl, by rw [HU.out], by go_num, NX.out _ C6.out D6.out L6.out⟩
      case measure => simp [intOf]; omega
    · go_wp2_with fail
      refine (Q.out w6 C6.out).mono ?_; rintro e w7 ⟨rfl, rfl⟩
      go_wp2_with fail
      refine (F2.out w7 C6.out).mono ?_; rintro e w8 ⟨rfl, l8⟩
      have NN := Lib.hid (NX.out _ (C6.out.below l8) (D6.out.below l8) (L6.out.trans (l8.mono L6.out.size)))
      clear l8
      go_wp2
      go_roundw
      case rel => exact ⟨K, q + 1, rfl, by rw [HU.out], by go_num, NN.out⟩
      case measure => simp [intOf]; omega
    · have v1 : decide ((d : Int) < (A : Int)) = false := decide_eq_false (by omega)
      have v2 : decide ((A1 : Int) < (d : Int)) = false := decide_eq_false (by omega)
      have v3 : decide (d < A) = false := decide_eq_false (by omega)
      have v4 : decide (A1 < d) = false := decide_eq_false (by omega)
      clear cl cu
      go_wp2_with fail
      refine (Q.out w6 C6.out).mono ?_; rintro e w7 ⟨rfl, rfl⟩
      go_wp2_with fail
      refine (F2.out w7 C6.out).mono ?_; rintro e w8 ⟨rfl, l8⟩
      have NN := Lib.hid (NX.out _ (C6.out.below l8) (D6.out.below l8) (L6.out.trans (l8.mono L6.out.size)))
      clear l8
      go_wp2
      go_roundw
      case rel => exact ⟨K, q + 1, rfl, by rw [HU.out], by go_num, NN.out⟩
      case measure => simp [intOf]; omega

theorem parts10_walk (w : World) (h : Nat) (p : Option Addr) (n c : Nat) (ds : List Nat) (hp : Holds w p n c (valsN .u64 ds)) (hd : ∀ x ∈ ds, x < 18446744073709551616) (hb : h < 18446744073709551616) :
    Calls Try.prog 4 #[.int .u64 (h : Nat), .slice p n c] w fun e w' => e = .returned (.bool true) ∧ Below w.heap.size w w' := by
  by_cases g : 0 < h ∧ h ≤ 1000000000000
  · exact parts10_ok w h p n c ds hp hd g.1 g.2
  · exact parts10_no w h p n c hb g
end Go.Proofs.Ytccfimempjbnfaa
