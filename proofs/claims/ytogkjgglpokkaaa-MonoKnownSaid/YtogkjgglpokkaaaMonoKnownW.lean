/- MonoKnown: the walk. -/
import Derived.Test.YtogkjgglpokkaaaMonoD
import Derived.Test.YtogkjgglpokkaaaMonoE
set_option maxRecDepth 100000
namespace Go.Proofs.Ytogkjgglpokkaaa
open Go.ChangeShapes Go.WideShapes Go.ChangeAt Go.RowKit MonoM

/-- The clock behind so many more MaxSpans than one. -/
def spanX (i : Nat) : Mo := ⟨min (((i : Int) + 1) * 1125899906842624) 4611686018427387904, min (((i : Int) + 1) * 1125899906842624) 4611686018427387904, 0, 0, decide (4096 < i + 1)⟩
theorem span_ok (i : Nat) : (spanX i).Ok := by
  unfold spanX
  exact ⟨by dsimp only; omega, by dsimp only; omega, by dsimp only; omega, by dsimp only; omega, by dsimp only; omega, by dsimp only; omega, by dsimp only; omega, by dsimp only; omega⟩
theorem span_next (i : Nat) : goX (spanX i) 1125899906842624 = spanX (i + 1) := by
  unfold goX
  rw [if_neg (by decide)]
  by_cases f : 4096 < i + 1
  · rw [Mo.after_full (by unfold spanX; exact decide_eq_true f)]
    unfold spanX
    rw [decide_eq_true f, decide_eq_true (show 4096 < i + 1 + 1 by omega), show min (((i : Int) + 1) * 1125899906842624) 4611686018427387904 = 4611686018427387904 by omega, show min ((((i + 1 : Nat) : Int) + 1) * 1125899906842624) 4611686018427387904 = 4611686018427387904 by omega]
  · rw [Mo.after_not (by unfold spanX; exact decide_eq_false f)]
    unfold spanX Mo.to Mo.q
    dsimp only
    have e : (1125899906842624 : Int) * 0 + 0 = 0 := by decide
    rw [e, show (0 : Int) / 1000000000 = 0 by decide, show (0 : Int) % 1000000000 = 0 by decide]
    have a : min (min (((i : Int) + 1) * 1125899906842624) 4611686018427387904 + 1125899906842624) 4611686018427387904 = min ((((i + 1 : Nat) : Int) + 1) * 1125899906842624) 4611686018427387904 := by omega
    have b : min (((i : Int) + 1) * 1125899906842624) 4611686018427387904 + (1125899906842624 + 0) = min (((i : Int) + 1) * 1125899906842624) 4611686018427387904 + 1125899906842624 := by omega
    rw [b, a]
    have c : (decide ((4611686018427387904 : Int) < min (((i : Int) + 1) * 1125899906842624) 4611686018427387904 + 1125899906842624) || decide ((4611686018427387904 : Int) < min (((i : Int) + 1) * 1125899906842624) 4611686018427387904 + 1125899906842624)) = decide (4096 < i + 1 + 1) := by
      rw [Bool.or_self, decide_eq_decide]
      omega
    rw [c]
theorem span_last : spanX 5000 = ⟨4611686018427387904, 4611686018427387904, 0, 0, true⟩ := by
  unfold spanX
  rw [show min ((((5000 : Nat) : Int) + 1) * 1125899906842624) 4611686018427387904 = 4611686018427387904 by decide]
  rfl

set_option maxHeartbeats 4000000 in
theorem known11_walk (w : World) :
    Calls Try.prog 9 #[] w fun r w' => r = .returned (.bool true) ∧ Below w.heap.size w w' := by
  have NW : Hid (∀ w, Calls Try.prog 10 #[] w (NewP11 w zeroM)) := fun w => pnew11_any w
  have G1 : Hid (∀ w N, Clk w N zeroM → Calls Try.prog 11 #[.pointer (some ⟨N, 0, none⟩), .int .i64 (-1)] w (GoP11 w N zeroM 0 1)) := fun w N c => pgo11_any w N _ (-1) c zero_ok
  have G2 : Hid (∀ w N, Clk w N zeroM → Calls Try.prog 11 #[.pointer (some ⟨N, 0, none⟩), .int .i64 1125899906842625] w (GoP11 w N zeroM 0 1)) := fun w N c => pgo11_any w N _ 1125899906842625 c zero_ok
  have G3 : Hid (∀ w N, Clk w N zeroM → Calls Try.prog 11 #[.pointer (some ⟨N, 0, none⟩), .int .i64 1125899906842624] w (GoP11 w N (spanX 0) 1125899906842624 0)) := fun w N c => pgo11_any w N _ 1125899906842624 c zero_ok
  have S1 : Hid (∀ w N, Clk w N (spanX 0) → Calls Try.prog 13 #[.pointer (some ⟨N, 0, none⟩), .int .i64 (-500001)] w (SetP11 w N (spanX 0) 1)) := fun w N c => psetrate11_any w N _ (-500001) c
  have U1 : Hid (∀ w N, Clk w N (spanX 0) → Calls Try.prog 21 #[.pointer (some ⟨N, 0, none⟩), .int .i64 5] w fun r w' => r = .returned (.tuple #[.int .i64 0, .bool true]) ∧ Below w.heap.size w w') := fun w N c => by
    refine (puntil11_any w N (spanX 0) 5 (span_ok 0) c (by decide)).mono ?_
    rintro r w' ⟨l, ⟨d, rfl, h0, h1, h2, h3⟩ | ⟨rfl, h⟩⟩
    · have : d = 0 := by
        rcases h3 with h | h
        · exact h
        · by_cases d0 : d = 0
          · exact d0
          · exfalso
            have lo := Mo.to_lo (x := spanX 0) (d := d - 1) (span_ok 0) (by omega)
            rw [Mo.after_not (by decide)] at h
            have m : (spanX 0).mono = 1125899906842624 := by decide
            rw [m] at lo
            dsimp only at h
            omega
      subst this
      exact ⟨rfl, l⟩
    · exfalso
      have lo := Mo.to_lo (x := spanX 0) (d := 1125899906842624) (span_ok 0) (by decide)
      rw [Mo.after_not (by decide)] at h
      have m : (spanX 0).mono = 1125899906842624 := by decide
      rw [m] at lo
      dsimp only at h
      omega
  have GL : Hid (∀ w N i, Clk w N (spanX i) → Calls Try.prog 11 #[.pointer (some ⟨N, 0, none⟩), .int .i64 1125899906842624] w fun r w' => ∃ n e, r = .returned (.tuple #[.int .i64 n, .int .i64 e]) ∧ Clk w' N (spanX (i + 1)) ∧ Turn N w w') := fun w N i c => by
    have h := pgo11_any w N _ 1125899906842624 c (span_ok i)
    rw [span_next] at h
    exact h.mono fun r w' ⟨a, b, t⟩ => ⟨_, _, a, b, t⟩
  have G4 : Hid (∀ w N, Clk w N (spanX 5000) → Calls Try.prog 11 #[.pointer (some ⟨N, 0, none⟩), .int .i64 0] w (GoP11 w N (spanX 5000) 0 7)) := fun w N c => by
    have h := pgo11_any w N _ 0 c (span_ok 5000)
    have f : ((spanX 5000).after 0).full = true := by rw [Mo.after_full (by rw [span_last])]; rw [span_last]
    have e := go_full (spanX 5000) (d := 0) (by decide) f
    rw [e.1, e.2.1, e.2.2, Mo.after_full (by rw [span_last])] at h
    exact h
  have U2 : Hid (∀ w N, Clk w N (spanX 5000) → Calls Try.prog 21 #[.pointer (some ⟨N, 0, none⟩), .int .i64 5] w fun r w' => r = .returned (.tuple #[.int .i64 0, .bool false]) ∧ Below w.heap.size w w') := fun w N c => puntil11_full w N _ 5 c (by rw [span_last])
  have FU : Hid (∀ w N, Clk w N (spanX 5000) → Calls Try.prog 19 #[.pointer (some ⟨N, 0, none⟩)] w fun r w' => r = .returned (.bool true) ∧ Below w.heap.size w w') := fun w N c => by
    have h := pfull11_any w N _ c
    rw [span_last] at h
    exact h
  have MO : Hid (∀ w N, Clk w N (spanX 5000) → Calls Try.prog 16 #[.pointer (some ⟨N, 0, none⟩)] w fun r w' => r = .returned (.int .i64 4611686018427387904) ∧ Below w.heap.size w w') := fun w N c => by
    have h := pmono11_any w N _ c
    rw [span_last] at h
    exact h
  have AL := Lib.hid awake11_any
  have N1 := Lib.hid (fun w => pgo11_none w 0)
  have N2 := Lib.hid (fun w => puntil11_none w 0)
  have N3 := Lib.hid (fun w => psetrate11_none w 0)
  have N4 := Lib.hid pmono11_none
  have N5 := Lib.hid praw11_none
  have N6 := Lib.hid prate11_none
  have N7 := Lib.hid pfull11_none
  have N8 := Lib.hid pcopy11_none
  go_enter Try.func9, Try.ntmps9
  go_wp2_with fail
  refine (NW.out w).mono ?_; rintro e w1 ⟨N, rfl, c1, hN, l1⟩
  replace c1 := Lib.hid c1
  replace hN := Lib.hid hN
  replace l1 := Lib.hid l1
  go_wp2_with fail
  refine (G1.out w1 N c1.out).mono ?_; rintro e w2 ⟨rfl, c, t⟩
  replace c1 := Lib.hid c
  replace l1 := Lib.hid (t.below l1.out hN.out)
  clear c t
  go_wp2_with fail
  refine (G2.out w2 N c1.out).mono ?_; rintro e w3 ⟨rfl, c, t⟩
  replace c1 := Lib.hid c
  replace l1 := Lib.hid (t.below l1.out hN.out)
  clear c t
  go_wp2_with fail
  refine (G3.out w3 N c1.out).mono ?_; rintro e w4 ⟨rfl, c, t⟩
  replace c1 := Lib.hid c
  replace l1 := Lib.hid (t.below l1.out hN.out)
  clear c t
  go_wp2_with fail
  refine (S1.out w4 N c1.out).mono ?_; rintro e w5 ⟨rfl, c, t⟩
  replace c1 := Lib.hid c
  replace l1 := Lib.hid (t.below l1.out hN.out)
  clear c t
  go_wp2_with fail
  refine (U1.out w5 N c1.out).mono ?_; rintro e w6 ⟨rfl, l⟩
  replace c1 := Lib.hid (c1.out.below l)
  replace l1 := Lib.hid (l1.out.trans (l.mono l1.out.size))
  clear l NW G1 G2 G3 S1 U1
  go_wp2_with fail
  go_loopw [43] (fun i wr => ∃ k : Nat, i = .int .i64 (k : Nat) ∧ Hid (k ≤ 5000) ∧ Hid (Clk wr N (spanX k) ∧ Below w.heap.size w wr)) (fun i _ => 10000 - (intOf i).toNat)
  case atStart => exact ⟨0, rfl, Nat.zero_le _, c1.out, l1.out⟩
  case round =>
    clear c1 l1
    obtain ⟨k, rfl, hk, I⟩ := hrel
    have k0 : (0 : Int) ≤ (k : Int) := by omega
    have k1 : (k : Int) ≤ 5000 := by have := hk.out; omega
    by_cases g : k < 5000
    · have g' : (k : Int) < 5000 := by omega
      have HK : Hid (k + 1 ≤ 5000) := g
      clear hk g
      go_wp2_with fail
      refine (GL.out wr N k I.out.1).mono ?_; rintro e w7 ⟨n, e, rfl, c, t⟩
      have I2 : Hid (Clk w7 N (spanX (k + 1)) ∧ Below w.heap.size w w7) := ⟨c, t.below I.out.2 hN.out⟩
      clear c t
      go_wp2
      go_roundw
      case rel => exact ⟨k + 1, by go_num, HK, I2⟩
      case measure => simp [intOf]; omega
    · obtain rfl : k = 5000 := by have := hk.out; omega
      have d0 : decide (((5000 : Nat) : Int) < 5000) = false := by decide
      have c1 := Lib.hid I.out.1
      have l1 := Lib.hid I.out.2
      clear hk g I k0 k1 GL
      go_wp2_with fail
      refine (G4.out wr N c1.out).mono ?_; rintro e w8 ⟨rfl, c, t⟩
      replace c1 := Lib.hid c
      replace l1 := Lib.hid (t.below l1.out hN.out)
      clear c t
      go_wp2_with fail
      refine (U2.out w8 N c1.out).mono ?_; rintro e w9 ⟨rfl, l⟩
      replace c1 := Lib.hid (c1.out.below l)
      replace l1 := Lib.hid (l1.out.trans (l.mono l1.out.size))
      clear l
      go_wp2_with fail
      refine (N1.out w9).mono ?_; rintro e w10 ⟨rfl, l⟩
      replace c1 := Lib.hid (c1.out.below l)
      replace l1 := Lib.hid (l1.out.trans (l.mono l1.out.size))
      clear l
      go_wp2_with fail
      refine (N2.out w10).mono ?_; rintro e w11 ⟨rfl, l⟩
      replace c1 := Lib.hid (c1.out.below l)
      replace l1 := Lib.hid (l1.out.trans (l.mono l1.out.size))
      clear l
      go_wp2_with fail
      refine (AL.out w11).mono ?_; rintro e w12 ⟨rfl, l⟩
      replace c1 := Lib.hid (c1.out.below l)
      replace l1 := Lib.hid (l1.out.trans (l.mono l1.out.size))
      clear l
      go_wp2_with fail
      refine (FU.out w12 N c1.out).mono ?_; rintro e w13 ⟨rfl, l⟩
      replace c1 := Lib.hid (c1.out.below l)
      replace l1 := Lib.hid (l1.out.trans (l.mono l1.out.size))
      clear l
      go_wp2_with fail
      refine (MO.out w13 N c1.out).mono ?_; rintro e w14 ⟨rfl, l⟩
      replace c1 := Lib.hid (c1.out.below l)
      replace l1 := Lib.hid (l1.out.trans (l.mono l1.out.size))
      clear l
      go_wp2_with fail
      refine (N3.out w14).mono ?_; rintro e w15 ⟨rfl, l⟩
      replace c1 := Lib.hid (c1.out.below l)
      replace l1 := Lib.hid (l1.out.trans (l.mono l1.out.size))
      clear l
      go_wp2_with fail
      refine (N4.out w15).mono ?_; rintro e w16 ⟨rfl, l⟩
      replace c1 := Lib.hid (c1.out.below l)
      replace l1 := Lib.hid (l1.out.trans (l.mono l1.out.size))
      clear l
      go_wp2_with fail
      refine (N5.out w16).mono ?_; rintro e w17 ⟨rfl, l⟩
      replace c1 := Lib.hid (c1.out.below l)
      replace l1 := Lib.hid (l1.out.trans (l.mono l1.out.size))
      clear l
      go_wp2_with fail
      refine (N6.out w17).mono ?_; rintro e w18 ⟨rfl, l⟩
      replace c1 := Lib.hid (c1.out.below l)
      replace l1 := Lib.hid (l1.out.trans (l.mono l1.out.size))
      clear l
      go_wp2_with fail
      refine (N7.out w18).mono ?_; rintro e w19 ⟨rfl, l⟩
      replace c1 := Lib.hid (c1.out.below l)
      replace l1 := Lib.hid (l1.out.trans (l.mono l1.out.size))
      clear l
      go_wp2_with fail
      refine (N8.out w19).mono ?_; rintro e w20 ⟨rfl, l⟩
      replace c1 := Lib.hid (c1.out.below l)
      replace l1 := Lib.hid (l1.out.trans (l.mono l1.out.size))
      clear l
      go_wp2
      go_ret
      exact ⟨rfl, l1.out⟩
end Go.Proofs.Ytogkjgglpokkaaa
