/- MonoUntil: the walk. -/
import Derived.Test.YtogkjgglpokkaaaMonoD
import Derived.Test.YtogkjgglpokkaaaMonoE
import Derived.Test.YtogkjgglpokkaaaMonoH
set_option maxRecDepth 100000
namespace Go.Proofs.Ytogkjgglpokkaaa
open Go.ChangeShapes Go.WideShapes Go.ChangeAt Go.RowKit MonoM

/-- What is told of a time that is so far ahead. -/
structure UntN (x : Mo) (t d : Int) : Prop where
  h0 : 0 ≤ d
  h1 : d ≤ 1125899906842624
  a : t ≤ (x.after d).mono
  b : d = 0 ∨ (x.after (d - 1)).mono < t

theorem until_now {x : Mo} {t d : Int} (F : Far x) (u : UntN x t d) (hm : x.mono ≤ t) : (d = 0 ↔ t = x.mono) := by
  constructor
  · intro e
    subst e
    have a := u.a
    rw [F.mono (by decide) (by decide)] at a
    have e0 := F.ok.e0
    have e1 := F.ok.e1
    unfold Mo.to Mo.q at a
    rw [Int.zero_mul] at a
    omega
  · intro e
    rcases u.b with h | h
    · exact h
    · by_cases d0 : d = 0
      · exact d0
      · exfalso
        have := u.h0
        have := u.h1
        rw [F.mono (by omega) (by omega)] at h
        have := Mo.to_lo (x := x) (d := d - 1) F.ok (by omega)
        omega

set_option maxHeartbeats 4000000 in
theorem until11_walk (w : World) (a0 a1 a2 : Int) :
    Calls Try.prog 7 #[.int .i64 a0, .int .i64 a1, .int .i64 a2] w fun e w' => e = .returned (.bool true) ∧ Below w.heap.size w w' := by
  obtain ⟨s, hs⟩ : ∃ s, a0.tmod 500001 = s := ⟨_, rfl⟩
  obtain ⟨g, hg⟩ : ∃ g, bits .and .i64 a1 17592186044415 = g := ⟨_, rfl⟩
  obtain ⟨h, hh⟩ : ∃ h, bits .and .i64 a2 281474976710655 = h := ⟨_, rfl⟩
  have s0 : -500000 ≤ s := by rw [← hs]; have := Int.lt_tmod_of_pos a0 (show (0 : Int) < 500001 by decide); omega
  have s1 : s ≤ 500000 := by rw [← hs]; have := Int.tmod_lt_of_pos a0 (show (0 : Int) < 500001 by decide); omega
  have g0 : 0 ≤ g ∧ g ≤ 17592186044415 := by rw [← hg]; exact mask_in a1 17592186044415 (by decide)
  have h0 : 0 ≤ h ∧ h ≤ 281474976710655 := by rw [← hh]; exact mask_in a2 281474976710655 (by decide)
  have z2 : (rateX zeroM s) = ⟨0, 0, s, 0, false⟩ := (rate_yes zeroM s0 s1).2
  have F1 : Far ⟨0, 0, s, 0, false⟩ := by
    refine ⟨?_, rfl, by dsimp only; omega, by dsimp only; omega⟩
    rw [← z2]
    exact rate_ok zero_ok s
  obtain ⟨x, hx⟩ : ∃ x, (⟨0, 0, s, 0, false⟩ : Mo).after g = x := ⟨_, rfl⟩
  have th := Mo.to_hi (x := ⟨0, 0, s, 0, false⟩) (d := g) F1.ok g0.1
  dsimp only at th
  have F2 : Far x := by
    rw [← hx]
    exact F1.next g0.1 (by omega) (by dsimp only; omega) (by omega)
  have mb : x.mono ≤ 35184372088832 := by
    rw [← hx, F1.mono g0.1 (by omega)]
    omega
  have m0 := F2.ok.m0
  have SR : Hid (∀ w N, Clk w N zeroM → Calls Try.prog 13 #[.pointer (some ⟨N, 0, none⟩), .int .i64 s] w (SetP11 w N ⟨0, 0, s, 0, false⟩ 0)) := fun w N c => by
    have r := psetrate11_any w N zeroM s c
    rw [z2, (rate_yes zeroM s0 s1).1] at r
    exact r
  have GO : Hid (∀ w N, Clk w N ⟨0, 0, s, 0, false⟩ → Calls Try.prog 11 #[.pointer (some ⟨N, 0, none⟩), .int .i64 g] w fun r w' => ∃ n, r = .returned (.tuple #[.int .i64 n, .int .i64 0]) ∧ Clk w' N x ∧ Turn N w w') := fun w N c => by
    have r := pgo11_any w N _ g c F1.ok
    have e := F1.go g0.1 (show g ≤ 1125899906842624 by omega)
    rw [e.1, e.2.1, hx] at r
    exact r.mono fun e w' ⟨a, b, t⟩ => ⟨_, a, b, t⟩
  obtain ⟨m, hm⟩ : ∃ m, x.mono = m := ⟨_, rfl⟩
  have MO : Hid (∀ w N, Clk w N x → Calls Try.prog 16 #[.pointer (some ⟨N, 0, none⟩)] w fun e w' => e = .returned (.int .i64 m) ∧ Below w.heap.size w w') := fun w N c => by
    have r := pmono11_any w N x c
    rw [hm] at r
    exact r
  obtain ⟨t, ht⟩ : ∃ t, m + h = t := ⟨_, rfl⟩
  have UN : Hid (∀ w N, Clk w N x → Calls Try.prog 21 #[.pointer (some ⟨N, 0, none⟩), .int .i64 t] w fun r w' => ∃ d, r = .returned (.tuple #[.int .i64 d, .bool true]) ∧ UntN x t d ∧ Below w.heap.size w w') := fun w N c => by
    refine (puntil11_any w N x t F2.ok c F2.f).mono ?_
    rintro r w' ⟨l, ⟨d, rfl, u0, u1, u2, u3⟩ | ⟨rfl, u⟩⟩
    · exact ⟨d, rfl, ⟨u0, u1, u2, u3⟩, l⟩
    · exfalso
      rw [F2.mono (by decide) (by decide)] at u
      have := Mo.to_low (x := x) (d := 1125899906842624) F2.ok (by decide)
      omega
  have CP : Hid (∀ w N, Clk w N x → Calls Try.prog 15 #[.pointer (some ⟨N, 0, none⟩)] w (NewP11 w x)) := fun w N c => pcopy11_any w N x c
  have GD : Hid (∀ w N d, 0 ≤ d → d ≤ 1125899906842624 → Clk w N x → Calls Try.prog 11 #[.pointer (some ⟨N, 0, none⟩), .int .i64 d] w fun r w' => ∃ n, r = .returned (.tuple #[.int .i64 n, .int .i64 0]) ∧ Clk w' N (x.after d) ∧ Turn N w w') := fun w N d d0 d1 c => by
    have r := pgo11_any w N x d c F2.ok
    have e := F2.go d0 d1
    rw [e.1, e.2.1] at r
    exact r.mono fun e w' ⟨a, b, t⟩ => ⟨_, a, b, t⟩
  have MD := Lib.hid (fun w N y c => pmono11_any w N y c)
  have NOW : Hid (∀ d, UntN x t d → (d = 0 ↔ t = m)) := fun d u => by
    rw [← hm]
    exact until_now F2 u (by omega)
  have AL := Lib.hid awake11_any
  have NW := Lib.hid pnew11_any
  have tw : wrap64 t = t := by unfold wrap64; omega
  have tv : IntKind.i64.wrap t = t := by rw [IntKind.wrap_i64]; omega
  have sw : wrap64 s = s := by unfold wrap64; omega
  clear F1 F2 hx th z2 mb m0 g0 h0 hm s0 s1
  go_enter Try.func7, Try.ntmps7
  go_wp2_with fail
  refine (NW.out w).mono ?_; rintro e w1 ⟨N, rfl, c1, hN, l1⟩
  replace c1 := Lib.hid c1
  replace hN := Lib.hid hN
  replace l1 := Lib.hid l1
  go_wp2_with fail
  refine (AL.out w1).mono ?_; rintro e w2 ⟨rfl, l⟩
  replace c1 := Lib.hid (c1.out.below l)
  replace l1 := Lib.hid (l1.out.trans (l.mono l1.out.size))
  clear l
  go_wp2_with fail
  refine (SR.out w2 N c1.out).mono ?_; rintro e w3 ⟨rfl, c, tr⟩
  replace c1 := Lib.hid c
  replace l1 := Lib.hid (tr.below l1.out hN.out)
  clear c tr
  go_wp2_with fail
  refine (GO.out w3 N c1.out).mono ?_; rintro e w4 ⟨n, rfl, c, tr⟩
  replace c1 := Lib.hid c
  replace l1 := Lib.hid (tr.below l1.out hN.out)
  clear c tr
  go_wp2_with fail
  refine (MO.out w4 N c1.out).mono ?_; rintro e w5 ⟨rfl, l⟩
  replace c1 := Lib.hid (c1.out.below l)
  replace l1 := Lib.hid (l1.out.trans (l.mono l1.out.size))
  clear l
  go_wp2_with fail
  refine (UN.out w5 N c1.out).mono ?_; rintro e w6 ⟨d, rfl, u, l⟩
  replace c1 := Lib.hid (c1.out.below l)
  replace l1 := Lib.hid (l1.out.trans (l.mono l1.out.size))
  have d0 := u.h0
  have d1 : decide (d < 0) = false := decide_eq_false (by omega)
  have U := Lib.hid u
  have NO := Lib.hid (NOW.out d u)
  clear l u NOW UN SR GO AL NW
  by_cases e0 : d = 0
  · have et : t = m := NO.out.1 e0
    have U0 := Lib.hid U.out
    have e1 : (d == 0) = true := by rw [beq_iff_eq]; exact e0
    have e2 : (t == m) = true := by rw [beq_iff_eq]; exact et
    have A0 : Hid (t ≤ (x.after d).mono) := U.out.a
    have D1 : Hid (0 ≤ d ∧ d ≤ 1125899906842624) := ⟨U.out.h0, U.out.h1⟩
    clear NO U et ht tw tv U0
    have E0 := Lib.hid e0
    clear e0
    go_wp2_with fail
    refine (MO.out w6 N c1.out).mono ?_; rintro e w7 ⟨rfl, l⟩
    replace c1 := Lib.hid (c1.out.below l)
    replace l1 := Lib.hid (l1.out.trans (l.mono l1.out.size))
    clear l
    go_wp2_with fail
    refine (CP.out w7 N c1.out).mono ?_; rintro e w8 ⟨X, rfl, cx, hX, l⟩
    replace cx := Lib.hid cx
    replace c1 := Lib.hid (c1.out.below l)
    have gX : Hid (w.heap.size ≤ X) := Nat.le_trans l1.out.size hX
    replace l1 := Lib.hid (l1.out.trans (l.mono l1.out.size))
    clear l hX
    go_wp2_with fail
    refine (CP.out w8 N c1.out).mono ?_; rintro e w9 ⟨Y, rfl, cy, hY, l⟩
    have ne : Hid (Y ≠ X) := by have := cx.out.lt; unfold Hid; omega
    replace cy := Lib.hid cy
    replace cx := Lib.hid (cx.out.below l)
    have gY : Hid (w.heap.size ≤ Y) := Nat.le_trans l1.out.size hY
    replace l1 := Lib.hid (l1.out.trans (l.mono l1.out.size))
    clear l hY c1
    go_wp2_with fail
    refine (GD.out w9 X d D1.out.1 D1.out.2 cx.out).mono ?_; rintro e w10 ⟨n2, rfl, c, tr⟩
    replace cx := Lib.hid c
    replace cy := Lib.hid (tr.clk cy.out ne.out)
    replace l1 := Lib.hid (tr.below l1.out gX.out)
    clear c tr
    obtain ⟨m2, hm2⟩ : ∃ m2, (x.after d).mono = m2 := ⟨_, rfl⟩
    have MX := Lib.hid (MD.out w10 X _ cx.out)
    rw [hm2] at A0 MX
    have f1 : decide (m2 < t) = false := decide_eq_false (by have := A0.out; omega)
    clear hm2 A0
    go_wp2_with fail
    refine MX.out.mono ?_; rintro e w11 ⟨rfl, l⟩
    replace cy := Lib.hid (cy.out.below l)
    replace l1 := Lib.hid (l1.out.trans (l.mono l1.out.size))
    clear l MX cx
    go_wp2
    go_ret
    exact ⟨rfl, l1.out⟩
  · have et : ¬ t = m := fun q => e0 (NO.out.2 q)
    have e1 : (d == 0) = false := by rw [beq_eq_false_iff_ne]; exact e0
    have e2 : (t == m) = false := by rw [beq_eq_false_iff_ne]; exact et
    have A0 : Hid (t ≤ (x.after d).mono) := U.out.a
    have D1 : Hid (0 ≤ d ∧ d ≤ 1125899906842624) := ⟨U.out.h0, U.out.h1⟩
    have B0 : Hid ((x.after (d - 1)).mono < t) := by rcases U.out.b with q | q; exact absurd q e0; exact q
    obtain ⟨d', hd'⟩ : ∃ d', d - 1 = d' := ⟨_, rfl⟩
    rw [hd'] at B0
    have D2 : Hid (0 ≤ d' ∧ d' ≤ 1125899906842624) := by have := D1.out; unfold Hid; omega
    have y1 : wrap64 d' = d' := by have := D2.out; unfold wrap64; omega
    have y2 : IntKind.i64.wrap d' = d' := by have := D2.out; rw [IntKind.wrap_i64]; omega
    clear NO U et ht tw tv
    have E0 := Lib.hid e0
    clear e0
    go_wp2_with fail
    refine (MO.out w6 N c1.out).mono ?_; rintro e w7 ⟨rfl, l⟩
    replace c1 := Lib.hid (c1.out.below l)
    replace l1 := Lib.hid (l1.out.trans (l.mono l1.out.size))
    clear l
    go_wp2_with fail
    refine (CP.out w7 N c1.out).mono ?_; rintro e w8 ⟨X, rfl, cx, hX, l⟩
    replace cx := Lib.hid cx
    replace c1 := Lib.hid (c1.out.below l)
    have gX : Hid (w.heap.size ≤ X) := Nat.le_trans l1.out.size hX
    replace l1 := Lib.hid (l1.out.trans (l.mono l1.out.size))
    clear l hX
    go_wp2_with fail
    refine (CP.out w8 N c1.out).mono ?_; rintro e w9 ⟨Y, rfl, cy, hY, l⟩
    have ne : Hid (Y ≠ X) := by have := cx.out.lt; unfold Hid; omega
    replace cy := Lib.hid cy
    replace cx := Lib.hid (cx.out.below l)
    have gY : Hid (w.heap.size ≤ Y) := Nat.le_trans l1.out.size hY
    replace l1 := Lib.hid (l1.out.trans (l.mono l1.out.size))
    clear l hY c1
    go_wp2_with fail
    refine (GD.out w9 X d D1.out.1 D1.out.2 cx.out).mono ?_; rintro e w10 ⟨n2, rfl, c, tr⟩
    replace cx := Lib.hid c
    replace cy := Lib.hid (tr.clk cy.out ne.out)
    replace l1 := Lib.hid (tr.below l1.out gX.out)
    clear c tr
    obtain ⟨m2, hm2⟩ : ∃ m2, (x.after d).mono = m2 := ⟨_, rfl⟩
    have MX := Lib.hid (MD.out w10 X _ cx.out)
    rw [hm2] at A0 MX
    have f1 : decide (m2 < t) = false := decide_eq_false (by have := A0.out; omega)
    clear hm2 A0
    go_wp2_with fail
    refine MX.out.mono ?_; rintro e w11 ⟨rfl, l⟩
    replace cy := Lib.hid (cy.out.below l)
    replace l1 := Lib.hid (l1.out.trans (l.mono l1.out.size))
    clear l MX cx
    go_wp2_with fail
    refine (GD.out w11 Y d' D2.out.1 D2.out.2 cy.out).mono ?_; rintro e w12 ⟨n3, rfl, c, tr⟩
    replace l1 := Lib.hid (tr.below l1.out gY.out)
    have MY := Lib.hid (MD.out w12 Y _ c)
    obtain ⟨m3, hm3⟩ : ∃ m3, (x.after d').mono = m3 := ⟨_, rfl⟩
    rw [hm3] at B0 MY
    have f2 : decide (m3 < t) = true := decide_eq_true B0.out
    clear c tr hm3 B0
    go_wp2_with fail
    refine MY.out.mono ?_; rintro e w13 ⟨rfl, l⟩
    replace l1 := Lib.hid (l1.out.trans (l.mono l1.out.size))
    clear l MY
    go_wp2
    go_ret
    exact ⟨rfl, l1.out⟩
end Go.Proofs.Ytogkjgglpokkaaa
