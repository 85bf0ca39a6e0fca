/- ScaleGoes: the walk. -/
import Derived.Test.YtccfimempjbnfaaScaleD
import Derived.Test.YtccfimempjbnfaaScaleG
import Derived.Test.YtccfimempjbnfaaFrame
import Derived.Deep.CutRange
set_option maxRecDepth 100000
namespace Go.Proofs.Ytccfimempjbnfaa
open Go.ChangeShapes Go.WideShapes Go.ChangeAt Go.RowKit ScaleM BigM

theorem goes10_no (w : World) (h : Nat) (p : Option Addr) (n c : Nat) (hb : h < 18446744073709551616) (hn : ¬ (0 < h ∧ h ≤ 1000000000000)) :
    Calls Try.prog 3 #[.int .u64 (h : Nat), .slice p n c] w fun e w' => e = .returned (.bool true) ∧ Below w.heap.size w w' := by
  have N := Lib.hid (fun w => pnew10_no w h hn)
  have R := Lib.hid (fun w => rnew10_no w h hb hn)
  have T := Lib.hid (fun w => ptick10_any w h)
  have U := Lib.hid (fun w => rtick10_any w h hb)
  have AL := Lib.hid alive10_any
  generalize tickN h = t at *
  have tt : ((t : Int) != (t : Int)) = false := by simp
  clear hn hb
  go_enter Try.func3, Try.ntmps3
  go_wp2_with fail
  refine (N.out w).mono ?_; rintro e w1 ⟨rfl, l1⟩
  have L1 := Lib.hid l1
  clear l1
  go_wp2_with fail
  refine (R.out w1).mono ?_; rintro e w2 ⟨rfl, l2⟩
  have L2 := Lib.hid (L1.out.trans (l2.mono L1.out.size))
  clear l2
  go_wp2_with fail
  refine (T.out w2).mono ?_; rintro e w3 ⟨rfl, rfl⟩
  go_wp2_with fail
  refine (U.out w3).mono ?_; rintro e w4 ⟨rfl, rfl⟩
  go_wp2_with fail
  refine (AL.out w4).mono ?_; rintro e w5 ⟨rfl, l5⟩
  have L5 := Lib.hid (L2.out.trans (l5.mono L2.out.size))
  go_wp2
  go_ret
  exact ⟨rfl, L5.out⟩

/-- Both scales, and so many ticks that went of each. -/
structure GoS (w wr : World) (N M h G K : Nat) : Prop where
  c : Sc wr N h G
  d : RSc wr M h K
  n : w.heap.size ≤ N
  m : w.heap.size ≤ M
  ne : M ≠ N
  low : Below w.heap.size w wr
theorem GoS.drew {w wr : World} {N M h G K : Nat} (g : GoS w wr N M h G K) : GoS w wr.drew N M h G K := ⟨g.c, g.d.below (Below.refl _ _).drew, g.n, g.m, g.ne, g.low.drew⟩
theorem GoS.below {w wr w' : World} {N M h G K : Nat} (g : GoS w wr N M h G K) (b : Below wr.heap.size wr w') : GoS w w' N M h G K := ⟨g.c.below b, g.d.below b, g.n, g.m, g.ne, g.low.trans (b.mono g.low.size)⟩
theorem rsc_ne {w : World} {N M h G K : Nat} (c : Sc w N h G) (d : RSc w M h K) : M ≠ N := by
  rintro rfl
  obtain ⟨p, k, c', h1, -⟩ := d
  unfold Sc at c
  rw [c] at h1
  injection h1 with h1
  injection h1 with _ h2 _
  exact absurd h2 (by decide)

set_option maxHeartbeats 16000000 in
theorem goes10_ok (w : World) (h : Nat) (p : Option Addr) (n c : Nat) (ds : List Nat) (hp : Holds w p n c (valsN .u64 ds)) (hd : ∀ x ∈ ds, x < 18446744073709551616) (h0 : 0 < h) (h1 : h ≤ 1000000000000) :
    Calls Try.prog 3 #[.int .u64 (h : Nat), .slice p n c] w fun e w' => e = .returned (.bool true) ∧ Below w.heap.size w w' := by
  have N := Lib.hid (fun w => pnew10_ok w h h0 h1)
  have R := Lib.hid (fun w => rnew10_ok w h h0 h1)
  have TF := Lib.hid (fun w => ptick10_any w h)
  have TR := Lib.hid (fun w => rtick10_any w h (by omega))
  have TS := Lib.hid (fun w' N n c => pstick10_any w' N h n c h0)
  have AL := Lib.hid alive10_any
  have H0 := Lib.hid h0
  have H1 := Lib.hid h1
  have HP := Lib.hid hp
  have HD := Lib.hid hd
  generalize tickN h = t at *
  have tt : ((t : Int) != (t : Int)) = false := by simp
  have cp := hp.cap
  have mx := hp.max
  unfold maxLen at mx
  have nb : (n : Int) ≤ 9223372036854775807 := by omega
  clear hp hd h0 h1 cp mx
  go_enter Try.func3, Try.ntmps3
  go_wp2_with fail
  refine (N.out w).mono ?_; rintro e w1 ⟨N1, rfl, c1, g1, l1⟩
  have L1 := Lib.hid l1
  have C1 := Lib.hid c1
  have G1 := Lib.hid g1
  clear l1 c1 g1
  go_wp2_with fail
  refine (R.out w1).mono ?_; rintro e w2 ⟨M, rfl, c2, g2, l2⟩
  have I0 : Hid (GoS w w2 N1 M h 0 0) := ⟨C1.out.below l2, c2, G1.out, Nat.le_trans L1.out.size g2, rsc_ne (C1.out.below l2) c2, L1.out.trans (l2.mono L1.out.size)⟩
  clear c2 g2 l2 C1 L1 G1
  go_wp2_with fail
  refine (TF.out w2).mono ?_; rintro e w3 ⟨rfl, rfl⟩
  go_wp2_with fail
  refine (TR.out w3).mono ?_; rintro e w4 ⟨rfl, rfl⟩
  go_wp2_with fail
  go_loopw [5, 9] (fun s i wr => ∃ N1 G q : Nat, s = .pointer (some ⟨N1, 0, none⟩) ∧ i = .int .i64 (q : Nat) ∧ Hid (q ≤ n ∧ q ≤ 60 ∧ G ≤ q * 18446744073709551616) ∧ Hid (GoS w wr N1 M h G G)) (fun _ i _ => 1000 - (intOf i).toNat)
  case atStart => exact ⟨N1, 0, 0, rfl, rfl, ⟨Nat.zero_le _, by decide, Nat.zero_le _⟩, I0.out⟩
  case round =>
    clear I0
    obtain ⟨N1, G, q, rfl, rfl, B, I⟩ := hrel
    have q0 : (0 : Int) ≤ (q : Int) := by omega
    have qb : (q : Int) ≤ 60 := by have := B.out.2.1; omega
    by_cases stop : n ≤ q ∨ q = 60
    · have LW := Lib.hid I.out.low
      have stop' : ((n : Int) ≤ (q : Int) ∧ decide ((q : Int) < (n : Int)) = false) ∨ ((q : Int) < (n : Int) ∧ (q : Int) = 60) := by
        rcases stop with s | s
        · exact .inl ⟨by omega, decide_eq_false (by omega)⟩
        · by_cases s2 : n ≤ q
          · exact .inl ⟨by omega, decide_eq_false (by omega)⟩
          · exact .inr ⟨by omega, by omega⟩
      clear I B stop HP HD
      rcases stop' with ⟨s1, s2⟩ | ⟨s1, s2⟩
      all_goals
        go_wp2_with fail
        refine (AL.out wr).mono ?_; rintro e w9 ⟨rfl, l9⟩
        have L9 := Lib.hid (LW.out.trans (l9.mono LW.out.size))
        clear l9
        go_wp2
        go_ret
        exact ⟨rfl, L9.out⟩
    have h' : (q : Int) < (n : Int) := by omega
    have q59 : (q : Int) < 60 := by omega
    have qn : q < n := by omega
    have q60 : q < 60 := by omega
    obtain ⟨a, rfl, cz⟩ := HP.out.atN qn
    obtain ⟨x, hx⟩ : ∃ x, x = ds.getD q 0 := ⟨_, rfl⟩
    have xb : x < 18446744073709551616 := by
      rw [hx]
      have lq : q < ds.length := by have := HP.out.len; rw [valsN_len] at this; omega
      rw [List.getD_eq_getElem?_getD, List.getElem?_eq_getElem lq]
      exact HD.out _ (List.getElem_mem lq)
    rw [← hx] at cz
    have KT : Hid (∀ w', Below w.heap.size w w' → w'.cell? (a.add q) = some (.int .u64 (x : Nat))) := fun w' b => (b.cell (World.block_lt_of_cell? _ _ cz)).trans cz
    have gb := B.out.2.2
    obtain ⟨K, hK⟩ : ∃ K, G + x = K := ⟨_, rfl⟩
    have kb : K ≤ (q + 1) * 18446744073709551616 := by omega
    have k70 : K < 1180591620717411303424 := by omega
    have mo := tot_mono (h := h) (show G ≤ K by omega)
    have m2 := tot_mono (h := h) (show G ≤ G + 1099511627776 by omega)
    obtain ⟨d, hd⟩ : ∃ d, totT h G + d = totT h K := ⟨totT h K - totT h G, by omega⟩
    obtain ⟨d2, hd2⟩ : ∃ d, totT h G + d = totT h (G + 1099511627776) := ⟨totT h (G + 1099511627776) - totT h G, by omega⟩
    obtain ⟨z, hz⟩ : ∃ z, decide (totT h K = 4611686018427387904) = z := ⟨_, rfl⟩
    obtain ⟨T, hT⟩ : ∃ T, totT h K = T := ⟨_, rfl⟩
    have CP : Hid (∀ w' N K', GoS w w' N M h G K' → Calls Try.prog 13 #[.pointer (some ⟨N, 0, none⟩)] w' fun e w'' => ∃ N', e = .returned (.pointer (some ⟨N', 0, none⟩)) ∧ GoS w w'' N' M h G K' ∧ GoS w w'' N M h G K' ∧ N ≠ N') := fun w' N K' g => by
      refine (pcopy10_any w' N h G g.c H0.out).mono ?_
      rintro e w'' ⟨N', rfl, c', n', l'⟩
      have g' := g.below l'
      exact ⟨N', rfl, ⟨c', g'.d, Nat.le_trans g.low.size n', g.m, rsc_ne c' g'.d, g'.low⟩, g', by have := g.c.lt; omega⟩
    have A0 : Hid (∀ w' N N', GoS w w' N M h G G → GoS w w' N' M h G G → N ≠ N' → Calls Try.prog 14 #[.pointer (some ⟨N', 0, none⟩), .int .u64 1099511627776] w' fun e w'' => e = .returned (.int .i64 (d2 : Nat)) ∧ GoS w w'' N M h G G) := fun w' N N' g g' ne => by
      refine (pto10_any w' N' h G 1099511627776 (G + 1099511627776) d2 g'.c H0.out H1.out (by decide) rfl hd2).mono ?_
      rintro e w'' ⟨rfl, -, t'⟩
      exact ⟨rfl, ⟨t'.sc g.c ne, g.d.turn t' g'.c (by decide) g'.ne, g.n, g.m, g.ne, t'.below g.low g'.n⟩⟩
    have A1 : Hid (∀ w' N, GoS w w' N M h G G → Calls Try.prog 14 #[.pointer (some ⟨N, 0, none⟩), .int .u64 (x : Nat)] w' fun e w'' => e = .returned (.int .i64 (d : Nat)) ∧ GoS w w'' N M h K G) := fun w' N g => by
      refine (pto10_any w' N h G x K d g.c H0.out H1.out xb hK hd).mono ?_
      rintro e w'' ⟨rfl, c', t'⟩
      exact ⟨rfl, ⟨c', g.d.turn t' g.c (by decide) g.ne, g.n, g.m, g.ne, t'.below g.low g.n⟩⟩
    have A2 : Hid (∀ w' N, GoS w w' N M h K G → Calls Try.prog 15 #[.pointer (some ⟨M, 0, none⟩), .int .u64 (x : Nat)] w' fun e w'' => e = .returned (.int .i64 (d : Nat)) ∧ GoS w w'' N M h K K) := fun w' N g => by
      refine (rto10_any w' M h G x K d g.d H0.out H1.out k70 xb hK hd).mono ?_
      rintro e w'' ⟨rfl, c', t'⟩
      exact ⟨rfl, ⟨t'.sc g.c (fun e => g.ne e.symm), c', g.n, g.m, g.ne, t'.below g.low g.m⟩⟩
    have A3 : Hid (∀ w' N, GoS w w' N M h K K → Calls Try.prog 16 #[.pointer (some ⟨N, 0, none⟩)] w' fun e w'' => e = .returned (.int .i64 (T : Nat)) ∧ w'' = w') := fun w' N g => by
      have r := ptotal10_any w' N h K g.c H0.out
      rwa [hT] at r
    have A4 : Hid (∀ w' N, GoS w w' N M h K K → Calls Try.prog 17 #[.pointer (some ⟨M, 0, none⟩)] w' fun e w'' => e = .returned (.int .i64 (T : Nat)) ∧ GoS w w'' N M h K K) := fun w' N g => by
      have r := rtotal10_any w' M h K g.d H0.out H1.out k70
      rw [hT] at r
      exact r.mono fun e w'' ⟨a, b⟩ => ⟨a, g.below b⟩
    have A5 : Hid (∀ w' N, GoS w w' N M h K K → Calls Try.prog 18 #[.pointer (some ⟨N, 0, none⟩)] w' fun e w'' => e = .returned (.bool z) ∧ GoS w w'' N M h K K) := fun w' N g => by
      have r := pfullq10_any w' N h K g.c H0.out
      rw [hz] at r
      exact r.mono fun e w'' ⟨a, b⟩ => ⟨a, g.below b⟩
    have A6 : Hid (∀ w' N, GoS w w' N M h K K → Calls Try.prog 19 #[.pointer (some ⟨N, 0, none⟩)] w' fun e w'' => e = .returned (.int .i64 (t : Nat)) ∧ w'' = w') := fun w' N g => TS.out w' N K g.c
    have v1 : ((d : Int) != (d : Int)) = false := by simp
    have v2 : ((T : Int) != (T : Int)) = false := by simp
    have v3 : ((T : Int) == 4611686018427387904) = z := by rw [← hz, hT, Bool.eq_iff_iff]; simp; omega
    have v4 : (z != z) = false := by simp
    have v5 : (!(z == z)) = false := by simp
    have v6 : (z == z) = true := by simp
    have BB : Hid (q + 1 ≤ n ∧ q + 1 ≤ 60 ∧ K ≤ (q + 1) * 18446744073709551616) := ⟨qn, q60, kb⟩
    clear B stop hx xb gb hK kb k70 mo m2 hd hd2 hz hT cz qn q60 HP HD
    go_wp2_with fail
    refine (CP.out wr N1 G I.out).mono ?_; rintro e w5 ⟨N2, rfl, g5, i5, ne5⟩
    have G5 := Lib.hid g5
    have I5 := Lib.hid i5
    have E5 := Lib.hid ne5
    clear g5 i5 ne5 I
    go_wp2_with fail
    refine (A0.out w5 N1 N2 I5.out G5.out E5.out).mono ?_; rintro e w6 ⟨rfl, g6⟩
    have G6 := Lib.hid g6
    clear g6 I5 G5 E5 A0
    go_upto_if 57 with fail
    go_cut [5] from 41 to 94 (fun s wx => ∃ N3, s = .pointer (some ⟨N3, 0, none⟩) ∧ Hid (GoS w wx N3 M h G G))
    case first =>
      by_cases r1 : q % 3 = 1
      · have r2 : (q : Int) % 3 = 1 := by omega
        have r3 : (q : Int).tmod 3 = 1 := by rw [Int.tmod_eq_emod_of_nonneg (by omega)]; exact r2
        clear r1
        go_wp2_with fail
        refine (CP.out w6 N1 G G6.out).mono ?_; rintro e w7 ⟨N3, rfl, g7, -, -⟩
        have G7 := Lib.hid g7
        clear g7
        go_wp2_with fail
        go_meet
        exact ⟨N3, rfl, G7.out⟩
      · have r2 : ((q : Int) % 3 == 1) = false := by rw [beq_eq_false_iff_ne]; omega
        have r3 : ((q : Int).tmod 3 == 1) = false := by rw [Int.tmod_eq_emod_of_nonneg (by omega)]; exact r2
        have r4 : ¬ (q : Int).tmod 3 = 1 := by rw [Int.tmod_eq_emod_of_nonneg (by omega)]; omega
        clear r1
        go_wp2_with fail
        go_meet
        exact ⟨N1, rfl, G6.out⟩
    case rest =>
    obtain ⟨N3, rfl, I7⟩ := hcut
    have HG := I7.out
    clear I7 G6 CP
    go_wp2_with fail
    go_region_held3 (fun w' => w'.cell? (a.add q) = some (.int .u64 (x : Nat)))
      (first | exact KT.out _ HG.low | exact KT.out _ HG.low.drew)
      (first
        | (go_at_call 14; refine (A1.out _ N3 (by first | exact HG | exact HG.drew)).mono ?_; rintro e w8 ⟨rfl, HG⟩)
        | (go_at_call 15; refine (A2.out _ N3 (by first | exact HG | exact HG.drew)).mono ?_; rintro e w8 ⟨rfl, HG⟩)
        | (go_at_call 16; refine (A3.out _ N3 (by first | exact HG | exact HG.drew)).mono ?_; rintro e w8 ⟨rfl, rfl⟩)
        | (go_at_call 17; refine (A4.out _ N3 (by first | exact HG | exact HG.drew)).mono ?_; rintro e w8 ⟨rfl, HG⟩)
        | (go_at_call 18; refine (A5.out _ N3 (by first | exact HG | exact HG.drew)).mono ?_; rintro e w8 ⟨rfl, HG⟩)
        | (go_at_call 19; refine (A6.out _ N3 (by first | exact HG | exact HG.drew)).mono ?_; rintro e w8 ⟨rfl, rfl⟩)
        | (go_at_call 10; refine (TF.out _).mono ?_; rintro e w8 ⟨rfl, rfl⟩))
    all_goals
      have GG := Lib.hid HG
      go_wp2
      go_roundw
      case rel => exact ⟨N3, K, q + 1, rfl, by go_num, BB.out, GG.out⟩
      case measure => simp [intOf]; omega

theorem goes10_walk (w : World) (h : Nat) (p : Option Addr) (n c : Nat) (ds : List Nat) (hp : Holds w p n c (valsN .u64 ds)) (hd : ∀ x ∈ ds, x < 18446744073709551616) (hb : h < 18446744073709551616) :
    Calls Try.prog 3 #[.int .u64 (h : Nat), .slice p n c] w fun e w' => e = .returned (.bool true) ∧ Below w.heap.size w w' := by
  by_cases g : 0 < h ∧ h ≤ 1000000000000
  · exact goes10_ok w h p n c ds hp hd g.1 g.2
  · exact goes10_no w h p n c hb g
end Go.Proofs.Ytccfimempjbnfaa
