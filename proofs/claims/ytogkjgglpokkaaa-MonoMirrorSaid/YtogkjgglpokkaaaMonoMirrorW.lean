/- MonoMirror: the walk. -/
import Derived.Test.YtogkjgglpokkaaaMonoD
import Derived.Test.YtogkjgglpokkaaaMonoI
import Derived.Test.YtogkjgglpokkaaaFrame
set_option maxRecDepth 100000
namespace Go.Proofs.Ytogkjgglpokkaaa
open Go.ChangeShapes Go.WideShapes Go.ChangeAt Go.RowKit MonoM

/-- Three clocks, of which so much went, each at its rate. -/
structure Mir (w wr : World) (A B C : Nat) (s s' o S : Int) : Prop where
  out : ∃ a b c, Clk wr A a ∧ Clk wr B b ∧ Clk wr C c ∧ Ex a s S ∧ Ex b s' S ∧ Ex c o S
  low : Below w.heap.size w wr

set_option maxHeartbeats 8000000 in
theorem mirror11_walk (w : World) (a0 a1 : Int) (p : Option Addr) (n c : Nat) (zs : List Int) (hp : Holds w p n c (valsI .i64 zs)) :
    Calls Try.prog 8 #[.int .i64 a0, .int .i64 a1, .slice p n c] w fun e w' => e = .returned (.bool true) ∧ Below w.heap.size w w' := by
  obtain ⟨s, hs⟩ : ∃ s, a0.tmod 500001 = s := ⟨_, rfl⟩
  obtain ⟨o, ho⟩ : ∃ o, a1.tmod 500001 = o := ⟨_, rfl⟩
  obtain ⟨s', hs'⟩ : ∃ s', -s = s' := ⟨_, rfl⟩
  have s0 : -500000 ≤ s := by rw [← hs]; have := Int.lt_tmod_of_pos a0 (show (0 : Int) < 500001 by decide); omega
  have s1 : s ≤ 500000 := by rw [← hs]; have := Int.tmod_lt_of_pos a0 (show (0 : Int) < 500001 by decide); omega
  have o0 : -500000 ≤ o := by rw [← ho]; have := Int.lt_tmod_of_pos a1 (show (0 : Int) < 500001 by decide); omega
  have o1 : o ≤ 500000 := by rw [← ho]; have := Int.tmod_lt_of_pos a1 (show (0 : Int) < 500001 by decide); omega
  have SR : Hid (∀ w N r, -500000 ≤ r → r ≤ 500000 → Clk w N zeroM → Calls Try.prog 13 #[.pointer (some ⟨N, 0, none⟩), .int .i64 r] w (SetP11 w N ⟨0, 0, r, 0, false⟩ 0)) := fun w N r r0 r1 c => by
    have h := psetrate11_any w N zeroM r c
    rw [(rate_yes zeroM r0 r1).2, (rate_yes zeroM r0 r1).1] at h
    exact h
  have SB : Hid ((-500000 ≤ s ∧ s ≤ 500000) ∧ (-500000 ≤ s' ∧ s' ≤ 500000) ∧ (-500000 ≤ o ∧ o ≤ 500000)) := ⟨⟨s0, s1⟩, ⟨by omega, by omega⟩, ⟨o0, o1⟩⟩
  have HS' := Lib.hid hs'
  have GO := Lib.hid pgo11_ex
  have MO := Lib.hid pmono11_any
  have RA := Lib.hid praw11_any
  have AL := Lib.hid awake11_any
  have NW := Lib.hid pnew11_any
  have HP := Lib.hid hp
  have cp := hp.cap
  have mx := hp.max
  unfold maxLen at mx
  have nb : (n : Int) ≤ 9223372036854775807 := by omega
  have w1 : wrap64 s' = s' := by unfold wrap64; omega
  have w2 : IntKind.i64.wrap s' = s' := by rw [IntKind.wrap_i64]; omega
  clear s0 s1 o0 o1 hp cp mx
  go_enter Try.func8, Try.ntmps8
  go_wp2_with fail
  refine (NW.out w).mono ?_; rintro e w1 ⟨A, rfl, cA, hA, l⟩
  replace cA := Lib.hid cA
  replace hA := Lib.hid hA
  have l1 := Lib.hid l
  clear l
  go_wp2_with fail
  refine (NW.out w1).mono ?_; rintro e w2 ⟨B, rfl, cB, hB, l⟩
  have neB : Hid (A ≠ B) := by have := cA.out.lt; unfold Hid; omega
  replace cA := Lib.hid (cA.out.below l)
  replace cB := Lib.hid cB
  replace hB : Hid (w.heap.size ≤ B) := Nat.le_trans l1.out.size hB
  replace l1 := Lib.hid (l1.out.trans (l.mono l1.out.size))
  clear l
  go_wp2_with fail
  refine (NW.out w2).mono ?_; rintro e w3 ⟨C, rfl, cC, hC, l⟩
  have neC : Hid (A ≠ C ∧ B ≠ C) := by have := cA.out.lt; have := cB.out.lt; unfold Hid; omega
  replace cA := Lib.hid (cA.out.below l)
  replace cB := Lib.hid (cB.out.below l)
  replace cC := Lib.hid cC
  replace hC : Hid (w.heap.size ≤ C) := Nat.le_trans l1.out.size hC
  replace l1 := Lib.hid (l1.out.trans (l.mono l1.out.size))
  clear l
  go_wp2_with fail
  refine (AL.out w3).mono ?_; rintro e w4 ⟨rfl, l⟩
  replace cA := Lib.hid (cA.out.below l)
  replace cB := Lib.hid (cB.out.below l)
  replace cC := Lib.hid (cC.out.below l)
  replace l1 := Lib.hid (l1.out.trans (l.mono l1.out.size))
  clear l
  go_wp2_with fail
  refine (SR.out w4 A s SB.out.1.1 SB.out.1.2 cA.out).mono ?_; rintro e w5 ⟨rfl, c, t⟩
  replace cB := Lib.hid (t.clk cB.out (Ne.symm neB.out))
  replace cC := Lib.hid (t.clk cC.out (Ne.symm neC.out.1))
  replace cA := Lib.hid c
  replace l1 := Lib.hid (t.below l1.out hA.out)
  clear c t
  go_wp2_with fail
  refine (SR.out w5 B s' SB.out.2.1.1 SB.out.2.1.2 cB.out).mono ?_; rintro e w6 ⟨rfl, c, t⟩
  replace cA := Lib.hid (t.clk cA.out neB.out)
  replace cC := Lib.hid (t.clk cC.out (Ne.symm neC.out.2))
  replace cB := Lib.hid c
  replace l1 := Lib.hid (t.below l1.out hB.out)
  clear c t
  go_wp2_with fail
  refine (SR.out w6 C o SB.out.2.2.1 SB.out.2.2.2 cC.out).mono ?_; rintro e w7 ⟨rfl, c, t⟩
  replace cA := Lib.hid (t.clk cA.out neC.out.1)
  replace cB := Lib.hid (t.clk cB.out neC.out.2)
  replace cC := Lib.hid c
  replace l1 := Lib.hid (t.below l1.out hC.out)
  clear c t
  have I0 : Hid (Mir w w7 A B C s s' o 0) := ⟨⟨_, _, _, cA.out, cB.out, cC.out, ex_zero s SB.out.1.1 SB.out.1.2, ex_zero s' SB.out.2.1.1 SB.out.2.1.2, ex_zero o SB.out.2.2.1 SB.out.2.2.2⟩, l1.out⟩
  clear cA cB cC l1 SR SB AL NW hs ho
  go_wp2_with fail
  go_loopw [49] (fun i wr => ∃ (q : Nat) (S : Int), i = .int .i64 (q : Nat) ∧ Hid (q ≤ n ∧ q ≤ 40 ∧ 0 ≤ S ∧ S ≤ q * 17592186044415) ∧ Hid (Mir w wr A B C s s' o S)) (fun i _ => 1000 - (intOf i).toNat)
  case atStart => exact ⟨0, 0, rfl, ⟨Nat.zero_le _, by decide, by decide, by decide⟩, I0.out⟩
  case round =>
    clear I0
    obtain ⟨q, S, rfl, hb, I⟩ := hrel
    have q0 : (0 : Int) ≤ (q : Int) := by omega
    have qb : (q : Int) ≤ 40 := by have := hb.out.2.1; omega
    by_cases stop : n ≤ q ∨ q = 40
    · have LW := Lib.hid I.out.low
      have stop' : ((n : Int) ≤ (q : Int) ∧ decide ((q : Int) < (n : Int)) = false) ∨ ((q : Int) < (n : Int) ∧ (((q : Int) == 40) = true ∧ (q == 40) = true ∧ decide (q = 40) = true) ∧ q < n) := by
        rcases stop with z | z
        · exact .inl ⟨by omega, decide_eq_false (by omega)⟩
        · by_cases z2 : n ≤ q
          · exact .inl ⟨by omega, decide_eq_false (by omega)⟩
          · exact .inr ⟨by omega, by rw [z]; exact ⟨rfl, rfl, rfl⟩, by omega⟩
      clear hb stop
      rcases stop' with ⟨z1, z2⟩ | ⟨z1, ⟨z2, z4, z5⟩, z3⟩
      · clear I HP
        go_wp2
        go_ret
        exact ⟨rfl, LW.out⟩
      · obtain ⟨a, rfl, cz⟩ := (HP.out.below I.out.low).atI z3
        clear I HP z3
        go_wp2
        go_ret
        exact ⟨rfl, LW.out⟩
    have h' : (q : Int) < (n : Int) := by omega
    have q39 : (q : Int) < 40 := by omega
    have qn : q < n := by omega
    have q40 : q < 40 := by omega
    obtain ⟨ad, rfl, cz⟩ := (HP.out.below I.out.low).atI qn
    generalize zs.getD q 0 = zq at cz
    obtain ⟨g, hg⟩ : ∃ g, bits .and .i64 zq 17592186044415 = g := ⟨_, rfl⟩
    have g0 : 0 ≤ g ∧ g ≤ 17592186044415 := by rw [← hg]; exact mask_in zq 17592186044415 (by decide)
    have Sb : S ≤ 1125899906842624 := by have := hb.out; omega
    obtain ⟨S2, hS2⟩ : ∃ S2, S + g = S2 := ⟨_, rfl⟩
    have NB : Hid (q + 1 ≤ n ∧ q + 1 ≤ 40 ∧ 0 ≤ S2 ∧ S2 ≤ ((q + 1 : Nat) : Int) * 17592186044415) := by have := hb.out; unfold Hid; omega
    have GB : Hid (S ≤ 1125899906842624 ∧ 0 ≤ g ∧ g ≤ 1125899906842624) := ⟨Sb, g0.1, by omega⟩
    obtain ⟨⟨a, b, c, cA, cB, cC, eA, eB, eC⟩, low⟩ := I.out
    have nA := eA.next Sb g0.1 GB.out.2.2
    have nB := eB.next Sb g0.1 GB.out.2.2
    have nC := eC.next Sb g0.1 GB.out.2.2
    rw [hS2] at nA nB nC
    replace cA := Lib.hid cA
    replace cB := Lib.hid cB
    replace cC := Lib.hid cC
    replace eA := Lib.hid eA
    replace eB := Lib.hid eB
    replace eC := Lib.hid eC
    have l1 := Lib.hid low
    have mi := ex_mirror nA (hs' ▸ nB)
    have SX : 0 ≤ S2 ∧ S2 ≤ 1125899906842624 := by have := NB.out; omega
    have mA := (nA.far SX.2).m
    have mB := (nB.far SX.2).m
    have mA0 := nA.ok.m0
    have mB0 := nB.ok.m0
    have mAC := fun h => ex_more nA nC h
    have mCA := fun h => ex_more nC nA h
    obtain ⟨ma, hma⟩ : ∃ m, (a.after g).mono = m := ⟨_, rfl⟩
    obtain ⟨mb, hmb⟩ : ∃ m, (b.after g).mono = m := ⟨_, rfl⟩
    obtain ⟨mc, hmc⟩ : ∃ m, (c.after g).mono = m := ⟨_, rfl⟩
    rw [hma, hmb] at mi
    rw [hma] at mA mA0 mAC mCA
    rw [hmb] at mB mB0
    rw [hmc] at mAC mCA
    obtain ⟨y1, hy1⟩ : ∃ y, ma + mb = y := ⟨_, rfl⟩
    obtain ⟨y2, hy2⟩ : ∃ y, 2 * S2 = y := ⟨_, rfl⟩
    obtain ⟨v, hv⟩ : ∃ v, y1 - y2 = v := ⟨_, rfl⟩
    have v1 : wrap64 y1 = y1 := by unfold wrap64; omega
    have v2 : wrap64 y2 = y2 := by unfold wrap64; omega
    have v3 : wrap64 v = v := by unfold wrap64; omega
    have x1 : IntKind.i64.wrap y1 = y1 := by rw [IntKind.wrap_i64]; omega
    have x2 : IntKind.i64.wrap y2 = y2 := by rw [IntKind.wrap_i64]; omega
    have x3 : IntKind.i64.wrap v = v := by rw [IntKind.wrap_i64]; omega
    have d1 : decide (0 < v) = false := decide_eq_false (by omega)
    have d2 : decide (v < -1) = false := decide_eq_false (by omega)
    have MA : Hid (∀ w', Clk w' A (a.after g) → Calls Try.prog 16 #[.pointer (some ⟨A, 0, none⟩)] w' fun e w'' => e = .returned (.int .i64 ma) ∧ Below w'.heap.size w' w'') := fun w' c => by
      have h := MO.out w' A _ c
      rw [hma] at h
      exact h
    have MB : Hid (∀ w', Clk w' B (b.after g) → Calls Try.prog 16 #[.pointer (some ⟨B, 0, none⟩)] w' fun e w'' => e = .returned (.int .i64 mb) ∧ Below w'.heap.size w' w'') := fun w' c => by
      have h := MO.out w' B _ c
      rw [hmb] at h
      exact h
    have MC : Hid (∀ w', Clk w' C (c.after g) → Calls Try.prog 16 #[.pointer (some ⟨C, 0, none⟩)] w' fun e w'' => e = .returned (.int .i64 mc) ∧ Below w'.heap.size w' w'') := fun w' cc => by
      have h := MO.out w' C _ cc
      rw [hmc] at h
      exact h
    have RR : Hid (∀ w', Clk w' A (a.after g) → Calls Try.prog 17 #[.pointer (some ⟨A, 0, none⟩)] w' fun e w'' => e = .returned (.int .i64 S2) ∧ Below w'.heap.size w' w'') := fun w' c => by
      have h := RA.out w' A _ c
      rw [nA.raw] at h
      exact h
    have TRI : Hid ((decide (o ≤ s) = true ∧ decide (s ≤ o) = false ∧ o ≤ s ∧ decide (ma < mc) = false) ∨ (decide (o ≤ s) = false ∧ decide (s ≤ o) = true ∧ s ≤ o ∧ decide (mc < ma) = false) ∨ (decide (o ≤ s) = true ∧ decide (s ≤ o) = true ∧ s = o ∧ decide (ma < mc) = false ∧ decide (mc < ma) = false)) := by
      rcases Int.lt_trichotomy s o with h | h | h
      · exact .inr (.inl ⟨decide_eq_false (by omega), decide_eq_true (by omega), by omega, decide_eq_false (by have := mAC (by omega); omega)⟩)
      · exact .inr (.inr ⟨decide_eq_true (by omega), decide_eq_true (by omega), h, decide_eq_false (by have := mCA (by omega); omega), decide_eq_false (by have := mAC (by omega); omega)⟩)
      · exact .inl ⟨decide_eq_true (by omega), decide_eq_false (by omega), by omega, decide_eq_false (by have := mCA (by omega); omega)⟩
    have NX : Hid (∀ w', Clk w' A (a.after g) → Clk w' B (b.after g) → Clk w' C (c.after g) → Below w.heap.size w w' → Mir w w' A B C s s' o S2) := fun w' c1 c2 c3 l => ⟨⟨_, _, _, c1, c2, c3, nA, nB, nC⟩, l⟩
    clear hb stop I HP g0 Sb nA nB nC mi SX mA mB mA0 mB0 mAC mCA hma hmb hmc low qn q40 MO RA
    go_wp2_with fail
    refine (GO.out wr A a s S g cA.out eA.out GB.out.1 GB.out.2.1 GB.out.2.2).mono ?_; rintro e w8 ⟨n1, rfl, cx, t⟩
    replace cA := Lib.hid cx
    replace cB := Lib.hid (t.clk cB.out (Ne.symm neB.out))
    replace cC := Lib.hid (t.clk cC.out (Ne.symm neC.out.1))
    replace l1 := Lib.hid (t.below l1.out hA.out)
    clear cx t eA
    go_wp2_with fail
    refine (GO.out w8 B b s' S g cB.out eB.out GB.out.1 GB.out.2.1 GB.out.2.2).mono ?_; rintro e w9 ⟨n2, rfl, cx, t⟩
    replace cA := Lib.hid (t.clk cA.out neB.out)
    replace cB := Lib.hid cx
    replace cC := Lib.hid (t.clk cC.out (Ne.symm neC.out.2))
    replace l1 := Lib.hid (t.below l1.out hB.out)
    clear cx t eB
    go_wp2_with fail
    refine (GO.out w9 C c o S g cC.out eC.out GB.out.1 GB.out.2.1 GB.out.2.2).mono ?_; rintro e w10 ⟨n3, rfl, cx, t⟩
    replace cA := Lib.hid (t.clk cA.out neC.out.1)
    replace cB := Lib.hid (t.clk cB.out neC.out.2)
    replace cC := Lib.hid cx
    replace l1 := Lib.hid (t.below l1.out hC.out)
    clear cx t eC GO GB
    go_wp2_with fail
    refine (MA.out w10 cA.out).mono ?_; rintro e w11 ⟨rfl, l⟩
    replace cA := Lib.hid (cA.out.below l)
    replace cB := Lib.hid (cB.out.below l)
    replace cC := Lib.hid (cC.out.below l)
    replace l1 := Lib.hid (l1.out.trans (l.mono l1.out.size))
    clear l
    go_wp2_with fail
    refine (MB.out w11 cB.out).mono ?_; rintro e w12 ⟨rfl, l⟩
    replace cA := Lib.hid (cA.out.below l)
    replace cB := Lib.hid (cB.out.below l)
    replace cC := Lib.hid (cC.out.below l)
    replace l1 := Lib.hid (l1.out.trans (l.mono l1.out.size))
    clear l
    go_wp2_with fail
    refine (RR.out w12 cA.out).mono ?_; rintro e w13 ⟨rfl, l⟩
    replace cA := Lib.hid (cA.out.below l)
    replace cB := Lib.hid (cB.out.below l)
    replace cC := Lib.hid (cC.out.below l)
    replace l1 := Lib.hid (l1.out.trans (l.mono l1.out.size))
    clear l
    clear MB RR
    rcases TRI.out with ⟨t1, t2, t3, t4⟩ | ⟨t1, t2, t3, t4⟩ | ⟨t1, t2, t3, t4, t5⟩
    · clear TRI
      have t3 := trivial
      go_wp2_with fail
      refine (MA.out w13 cA.out).mono ?_; rintro e w14 ⟨rfl, l⟩
      replace cA := Lib.hid (cA.out.below l)
      replace cB := Lib.hid (cB.out.below l)
      replace cC := Lib.hid (cC.out.below l)
      replace l1 := Lib.hid (l1.out.trans (l.mono l1.out.size))
      clear l
      go_wp2_with fail
      refine (MC.out w14 cC.out).mono ?_; rintro e w15 ⟨rfl, l⟩
      replace cA := Lib.hid (cA.out.below l)
      replace cB := Lib.hid (cB.out.below l)
      replace cC := Lib.hid (cC.out.below l)
      replace l1 := Lib.hid (l1.out.trans (l.mono l1.out.size))
      clear l
      have I2 := Lib.hid (NX.out w15 cA.out cB.out cC.out l1.out)
      clear NX cA cB cC l1 MA MC
      go_wp2
      go_roundw
      case rel => exact ⟨q + 1, S2, by go_num, NB.out, I2.out⟩
      case measure => simp [intOf]; omega
    · clear TRI
      have t3 := trivial
      go_wp2_with fail
      refine (MA.out w13 cA.out).mono ?_; rintro e w14 ⟨rfl, l⟩
      replace cA := Lib.hid (cA.out.below l)
      replace cB := Lib.hid (cB.out.below l)
      replace cC := Lib.hid (cC.out.below l)
      replace l1 := Lib.hid (l1.out.trans (l.mono l1.out.size))
      clear l
      go_wp2_with fail
      refine (MC.out w14 cC.out).mono ?_; rintro e w15 ⟨rfl, l⟩
      replace cA := Lib.hid (cA.out.below l)
      replace cB := Lib.hid (cB.out.below l)
      replace cC := Lib.hid (cC.out.below l)
      replace l1 := Lib.hid (l1.out.trans (l.mono l1.out.size))
      clear l
      have I2 := Lib.hid (NX.out w15 cA.out cB.out cC.out l1.out)
      clear NX cA cB cC l1 MA MC
      go_wp2
      go_roundw
      case rel => exact ⟨q + 1, S2, by go_num, NB.out, I2.out⟩
      case measure => simp [intOf]; omega
    · clear TRI
      subst t3
      go_wp2_with fail
      refine (MA.out w13 cA.out).mono ?_; rintro e w14 ⟨rfl, l⟩
      replace cA := Lib.hid (cA.out.below l)
      replace cB := Lib.hid (cB.out.below l)
      replace cC := Lib.hid (cC.out.below l)
      replace l1 := Lib.hid (l1.out.trans (l.mono l1.out.size))
      clear l
      go_wp2_with fail
      refine (MC.out w14 cC.out).mono ?_; rintro e w15 ⟨rfl, l⟩
      replace cA := Lib.hid (cA.out.below l)
      replace cB := Lib.hid (cB.out.below l)
      replace cC := Lib.hid (cC.out.below l)
      replace l1 := Lib.hid (l1.out.trans (l.mono l1.out.size))
      clear l
      go_wp2_with fail
      refine (MA.out w15 cA.out).mono ?_; rintro e w16 ⟨rfl, l⟩
      replace cA := Lib.hid (cA.out.below l)
      replace cB := Lib.hid (cB.out.below l)
      replace cC := Lib.hid (cC.out.below l)
      replace l1 := Lib.hid (l1.out.trans (l.mono l1.out.size))
      clear l
      go_wp2_with fail
      refine (MC.out w16 cC.out).mono ?_; rintro e w17 ⟨rfl, l⟩
      replace cA := Lib.hid (cA.out.below l)
      replace cB := Lib.hid (cB.out.below l)
      replace cC := Lib.hid (cC.out.below l)
      replace l1 := Lib.hid (l1.out.trans (l.mono l1.out.size))
      clear l
      have I2 := Lib.hid (NX.out w17 cA.out cB.out cC.out l1.out)
      clear NX cA cB cC l1 MA MC
      go_wp2
      go_roundw
      case rel => exact ⟨q + 1, S2, by go_num, NB.out, I2.out⟩
      case measure => simp [intOf]; omega
end Go.Proofs.Ytogkjgglpokkaaa
