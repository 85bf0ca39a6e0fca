/- MonoParts: the walk. -/
import Derived.Test.YtogkjgglpokkaaaMonoD
import Derived.Test.YtogkjgglpokkaaaMonoI
import Derived.Test.YtogkjgglpokkaaaFrame
set_option maxRecDepth 100000
namespace Go.Proofs.Ytogkjgglpokkaaa
open Go.ChangeShapes Go.WideShapes Go.ChangeAt Go.RowKit MonoM

/-- A clock of which so much went one by one; another one at its beginning. -/
structure Prts (w wr : World) (A B : Nat) (s S : Int) : Prop where
  out : ∃ a, Clk wr A a ∧ Clk wr B ⟨0, 0, s, 0, false⟩ ∧ Ex a s S
  low : Below w.heap.size w wr

set_option maxHeartbeats 8000000 in
theorem parts11_walk (w : World) (a0 : Int) (p : Option Addr) (n c : Nat) (zs : List Int) (hp : Holds w p n c (valsI .i64 zs)) :
    Calls Try.prog 6 #[.int .i64 a0, .slice p n c] w fun e w' => e = .returned (.bool true) ∧ Below w.heap.size w w' := by
  obtain ⟨s, hs⟩ : ∃ s, a0.tmod 500001 = s := ⟨_, rfl⟩
  have s0 : -500000 ≤ s := by rw [← hs]; have := Int.lt_tmod_of_pos a0 (show (0 : Int) < 500001 by decide); omega
  have s1 : s ≤ 500000 := by rw [← hs]; have := Int.tmod_lt_of_pos a0 (show (0 : Int) < 500001 by decide); omega
  have SR : Hid (∀ w N, Clk w N zeroM → Calls Try.prog 13 #[.pointer (some ⟨N, 0, none⟩), .int .i64 s] w (SetP11 w N ⟨0, 0, s, 0, false⟩ 0)) := fun w N c => by
    have h := psetrate11_any w N zeroM s c
    rw [(rate_yes zeroM s0 s1).2, (rate_yes zeroM s0 s1).1] at h
    exact h
  have EZ := Lib.hid (ex_zero s s0 s1)
  have GO := Lib.hid pgo11_ex
  have CP := Lib.hid pcopy11_any
  have MO := Lib.hid pmono11_any
  have RA := Lib.hid praw11_any
  have AL := Lib.hid awake11_any
  have NW := Lib.hid pnew11_any
  have HP := Lib.hid hp
  have cp := hp.cap
  have mx := hp.max
  unfold maxLen at mx
  have nb : (n : Int) ≤ 9223372036854775807 := by omega
  clear s0 s1 hp cp mx
  go_enter Try.func6, Try.ntmps6
  go_wp2_with fail
  refine (NW.out w).mono ?_; rintro e w1 ⟨A, rfl, cA, hA, l⟩
  replace cA := Lib.hid cA
  replace hA := Lib.hid hA
  have l1 := Lib.hid l
  clear l
  go_wp2_with fail
  refine (NW.out w1).mono ?_; rintro e w2 ⟨B, rfl, cB, hB, l⟩
  have neB : Hid (A ≠ B) := by have := cA.out.lt; unfold Hid; omega
  replace cA := Lib.hid (cA.out.below l)
  replace cB := Lib.hid cB
  replace hB : Hid (w.heap.size ≤ B) := Nat.le_trans l1.out.size hB
  replace l1 := Lib.hid (l1.out.trans (l.mono l1.out.size))
  clear l
  go_wp2_with fail
  refine (AL.out w2).mono ?_; rintro e w3 ⟨rfl, l⟩
  replace cA := Lib.hid (cA.out.below l)
  replace cB := Lib.hid (cB.out.below l)
  replace l1 := Lib.hid (l1.out.trans (l.mono l1.out.size))
  clear l
  go_wp2_with fail
  refine (SR.out w3 A cA.out).mono ?_; rintro e w4 ⟨rfl, c, t⟩
  replace cB := Lib.hid (t.clk cB.out (Ne.symm neB.out))
  replace cA := Lib.hid c
  replace l1 := Lib.hid (t.below l1.out hA.out)
  clear c t
  go_wp2_with fail
  refine (SR.out w4 B cB.out).mono ?_; rintro e w5 ⟨rfl, c, t⟩
  replace cA := Lib.hid (t.clk cA.out neB.out)
  replace cB := Lib.hid c
  replace l1 := Lib.hid (t.below l1.out hB.out)
  clear c t
  have I0 : Hid (Prts w w5 A B s 0) := ⟨⟨_, cA.out, cB.out, EZ.out⟩, l1.out⟩
  clear cA cB l1 SR AL NW hs
  go_wp2_with fail
  go_loopw [7, 35] (fun sv i wr => ∃ (q : Nat) (S : Int), sv = .int .i64 S ∧ i = .int .i64 (q : Nat) ∧ Hid (q ≤ n ∧ q ≤ 40 ∧ 0 ≤ S ∧ S ≤ q * 17592186044415) ∧ Hid (Prts w wr A B s S)) (fun _ i _ => 1000 - (intOf i).toNat)
  case atStart => exact ⟨0, 0, rfl, rfl, ⟨Nat.zero_le _, by decide, by decide, by decide⟩, I0.out⟩
  case round =>
    clear I0
    obtain ⟨q, S, rfl, rfl, hb, I⟩ := hrel
    have q0 : (0 : Int) ≤ (q : Int) := by omega
    have qb : (q : Int) ≤ 40 := by have := hb.out.2.1; omega
    by_cases stop : n ≤ q ∨ q = 40
    · have LW := Lib.hid I.out.low
      have stop' : ((n : Int) ≤ (q : Int) ∧ decide ((q : Int) < (n : Int)) = false) ∨ ((q : Int) < (n : Int) ∧ (((q : Int) == 40) = true ∧ (q == 40) = true ∧ decide (q = 40) = true) ∧ q < n) := by
        rcases stop with z | z
        · exact .inl ⟨by omega, decide_eq_false (by omega)⟩
        · by_cases z2 : n ≤ q
          · exact .inl ⟨by omega, decide_eq_false (by omega)⟩
          · exact .inr ⟨by omega, by rw [z]; exact ⟨rfl, rfl, rfl⟩, by omega⟩
      clear hb stop
      rcases stop' with ⟨z1, z2⟩ | ⟨z1, ⟨z2, z4, z5⟩, z3⟩
      · clear I HP
        go_wp2
        go_ret
        exact ⟨rfl, LW.out⟩
      · obtain ⟨a, rfl, cz⟩ := (HP.out.below I.out.low).atI z3
        clear I HP z3
        go_wp2
        go_ret
        exact ⟨rfl, LW.out⟩
    have h' : (q : Int) < (n : Int) := by omega
    have q39 : (q : Int) < 40 := by omega
    have qn : q < n := by omega
    have q40 : q < 40 := by omega
    obtain ⟨ad, rfl, cz⟩ := (HP.out.below I.out.low).atI qn
    generalize zs.getD q 0 = zq at cz
    obtain ⟨g, hg⟩ : ∃ g, bits .and .i64 zq 17592186044415 = g := ⟨_, rfl⟩
    have g0 : 0 ≤ g ∧ g ≤ 17592186044415 := by rw [← hg]; exact mask_in zq 17592186044415 (by decide)
    have Sb : S ≤ 1125899906842624 := by have := hb.out; omega
    obtain ⟨S2, hS2⟩ : ∃ S2, S + g = S2 := ⟨_, rfl⟩
    have NB : Hid (q + 1 ≤ n ∧ q + 1 ≤ 40 ∧ 0 ≤ S2 ∧ S2 ≤ ((q + 1 : Nat) : Int) * 17592186044415) := by have := hb.out; unfold Hid; omega
    have GB : Hid (S ≤ 1125899906842624 ∧ 0 ≤ g ∧ g ≤ 1125899906842624) := ⟨Sb, g0.1, by omega⟩
    have SX : Hid (0 ≤ S2 ∧ S2 ≤ 1125899906842624) := by have := NB.out; unfold Hid; omega
    have v1 : wrap64 S2 = S2 := by have := SX.out; unfold wrap64; omega
    have v2 : IntKind.i64.wrap S2 = S2 := by have := SX.out; rw [IntKind.wrap_i64]; omega
    obtain ⟨⟨a, cA, cB, eA⟩, low⟩ := I.out
    have nA := eA.next Sb g0.1 GB.out.2.2
    rw [hS2] at nA
    have nX := EZ.out.next (by decide) SX.out.1 SX.out.2
    rw [Int.zero_add] at nX
    replace cA := Lib.hid cA
    replace cB := Lib.hid cB
    replace eA := Lib.hid eA
    have l1 := Lib.hid low
    have sm := ex_same nX nA
    obtain ⟨ma, hma⟩ : ∃ m, (a.after g).mono = m := ⟨_, rfl⟩
    rw [hma] at sm
    have MA : Hid (∀ w', Clk w' A (a.after g) → Calls Try.prog 16 #[.pointer (some ⟨A, 0, none⟩)] w' fun e w'' => e = .returned (.int .i64 ma) ∧ Below w'.heap.size w' w'') := fun w' c => by
      have h := MO.out w' A _ c
      rw [hma] at h
      exact h
    have RR : Hid (∀ w', Clk w' A (a.after g) → Calls Try.prog 17 #[.pointer (some ⟨A, 0, none⟩)] w' fun e w'' => e = .returned (.int .i64 S2) ∧ Below w'.heap.size w' w'') := fun w' c => by
      have h := RA.out w' A _ c
      rw [nA.raw] at h
      exact h
    have MX : Hid (∀ w' X, Clk w' X ((⟨0, 0, s, 0, false⟩ : Mo).after S2) → Calls Try.prog 16 #[.pointer (some ⟨X, 0, none⟩)] w' fun e w'' => e = .returned (.int .i64 ma) ∧ Below w'.heap.size w' w'') := fun w' X c => by
      have h := MO.out w' X _ c
      rw [sm] at h
      exact h
    have RX : Hid (∀ w' X, Clk w' X ((⟨0, 0, s, 0, false⟩ : Mo).after S2) → Calls Try.prog 17 #[.pointer (some ⟨X, 0, none⟩)] w' fun e w'' => e = .returned (.int .i64 S2) ∧ Below w'.heap.size w' w'') := fun w' X c => by
      have h := RA.out w' X _ c
      rw [nX.raw] at h
      exact h
    have GX : Hid (∀ w' X, Clk w' X ⟨0, 0, s, 0, false⟩ → Calls Try.prog 11 #[.pointer (some ⟨X, 0, none⟩), .int .i64 S2] w' fun e w'' => ∃ n, e = .returned (.tuple #[.int .i64 n, .int .i64 0]) ∧ Clk w'' X ((⟨0, 0, s, 0, false⟩ : Mo).after S2) ∧ Turn X w' w'') := fun w' X c => GO.out w' X _ s 0 S2 c EZ.out (by decide) SX.out.1 SX.out.2
    have nm : s = 0 → (ma == S2) = true := fun e => by
      rw [beq_iff_eq, ← hma, nA.mono, e, Int.mul_zero]
      omega
    have ALT : Hid (((s == 0) = true ∧ (ma != S2) = false) ∨ (s == 0) = false) := by
      by_cases e : s = 0
      · exact .inl ⟨by rw [beq_iff_eq]; exact e, by rw [bne, nm e]; rfl⟩
      · exact .inr (by rw [beq_eq_false_iff_ne]; exact e)
    have e1 : (ma != ma) = false := by simp
    have e2 : (S2 != S2) = false := by simp
    have NX : Hid (∀ w', Clk w' A (a.after g) → Clk w' B ⟨0, 0, s, 0, false⟩ → Below w.heap.size w w' → Prts w w' A B s S2) := fun w' c1 c2 l => ⟨⟨_, c1, c2, nA⟩, l⟩
    clear hb stop I HP g0 Sb nA nX sm hma low qn q40 MO RA nm
    go_wp2_with fail
    refine (GO.out wr A a s S g cA.out eA.out GB.out.1 GB.out.2.1 GB.out.2.2).mono ?_; rintro e w8 ⟨n1, rfl, cx, t⟩
    replace cA := Lib.hid cx
    replace cB := Lib.hid (t.clk cB.out (Ne.symm neB.out))
    replace l1 := Lib.hid (t.below l1.out hA.out)
    clear cx t eA GO
    go_wp2_with fail
    refine (CP.out w8 B _ cB.out).mono ?_; rintro e w9 ⟨X, rfl, cX, hX, l⟩
    have neX : Hid (A ≠ X ∧ B ≠ X) := by have := cA.out.lt; have := cB.out.lt; unfold Hid; omega
    replace cA := Lib.hid (cA.out.below l)
    replace cB := Lib.hid (cB.out.below l)
    replace cX := Lib.hid cX
    replace hX : Hid (w.heap.size ≤ X) := Nat.le_trans l1.out.size hX
    replace l1 := Lib.hid (l1.out.trans (l.mono l1.out.size))
    clear l
    go_wp2_with fail
    refine (GX.out w9 X cX.out).mono ?_; rintro e w10 ⟨n2, rfl, cx, t⟩
    replace cA := Lib.hid (t.clk cA.out neX.out.1)
    replace cB := Lib.hid (t.clk cB.out neX.out.2)
    replace cX := Lib.hid cx
    replace l1 := Lib.hid (t.below l1.out hX.out)
    clear cx t GX CP
    go_wp2_with fail
    refine (MX.out w10 X cX.out).mono ?_; rintro e w11 ⟨rfl, l⟩
    replace cA := Lib.hid (cA.out.below l)
    replace cB := Lib.hid (cB.out.below l)
    replace cX := Lib.hid (cX.out.below l)
    replace l1 := Lib.hid (l1.out.trans (l.mono l1.out.size))
    clear l
    go_wp2_with fail
    refine (MA.out w11 cA.out).mono ?_; rintro e w12 ⟨rfl, l⟩
    replace cA := Lib.hid (cA.out.below l)
    replace cB := Lib.hid (cB.out.below l)
    replace cX := Lib.hid (cX.out.below l)
    replace l1 := Lib.hid (l1.out.trans (l.mono l1.out.size))
    clear l
    go_wp2_with fail
    refine (RX.out w12 X cX.out).mono ?_; rintro e w13 ⟨rfl, l⟩
    replace cA := Lib.hid (cA.out.below l)
    replace cB := Lib.hid (cB.out.below l)
    replace cX := Lib.hid (cX.out.below l)
    replace l1 := Lib.hid (l1.out.trans (l.mono l1.out.size))
    clear l
    go_wp2_with fail
    refine (RR.out w13 cA.out).mono ?_; rintro e w14 ⟨rfl, l⟩
    replace cA := Lib.hid (cA.out.below l)
    replace cB := Lib.hid (cB.out.below l)
    replace cX := Lib.hid (cX.out.below l)
    replace l1 := Lib.hid (l1.out.trans (l.mono l1.out.size))
    clear l
    clear MX RX cX
    rcases ALT.out with ⟨t1, t2⟩ | t1
    · clear ALT
      go_wp2_with fail
      refine (MA.out w14 cA.out).mono ?_; rintro e w15 ⟨rfl, l⟩
      replace cA := Lib.hid (cA.out.below l)
      replace cB := Lib.hid (cB.out.below l)
      replace l1 := Lib.hid (l1.out.trans (l.mono l1.out.size))
      clear l
      go_wp2_with fail
      refine (RR.out w15 cA.out).mono ?_; rintro e w16 ⟨rfl, l⟩
      replace cA := Lib.hid (cA.out.below l)
      replace cB := Lib.hid (cB.out.below l)
      replace l1 := Lib.hid (l1.out.trans (l.mono l1.out.size))
      clear l
      have I2 := Lib.hid (NX.out w16 cA.out cB.out l1.out)
      clear NX cA cB l1 MA RR
      go_wp2
      go_roundw
      case rel => exact ⟨q + 1, S2, rfl, by go_num, NB.out, I2.out⟩
      case measure => simp [intOf]; omega
    · clear ALT
      have I2 := Lib.hid (NX.out w14 cA.out cB.out l1.out)
      clear NX cA cB l1 MA RR
      go_wp2
      go_roundw
      case rel => exact ⟨q + 1, S2, rfl, by go_num, NB.out, I2.out⟩
      case measure => simp [intOf]; omega
end Go.Proofs.Ytogkjgglpokkaaa
