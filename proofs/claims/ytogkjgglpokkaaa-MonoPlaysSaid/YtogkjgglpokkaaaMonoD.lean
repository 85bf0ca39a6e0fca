/- Layer 11 (mono): what the document's examples say. -/
import Derived.Test.YtogkjgglpokkaaaMonoC
set_option maxRecDepth 100000
namespace Go.Proofs.Ytogkjgglpokkaaa
open Go.ChangeShapes Go.WideShapes Go.ChangeAt Go.RowKit MonoM

set_option maxHeartbeats 2000000 in
theorem awake11_any (w : World) :
    Calls Try.prog 20 #[] w fun r w' => r = .returned (.bool true) ∧ Below w.heap.size w w' := by
  have NW : Hid (∀ w, Calls Try.prog 10 #[] w (NewP11 w zeroM)) := fun w => pnew11_any w
  have S1 : Hid (∀ w N, Clk w N zeroM → Calls Try.prog 13 #[.pointer (some ⟨N, 0, none⟩), .int .i64 500000] w (SetP11 w N ⟨0, 0, 500000, 0, false⟩ 0)) := fun w N c => psetrate11_any w N zeroM 500000 c
  have G1 : Hid (∀ w N, Clk w N ⟨0, 0, 500000, 0, false⟩ → Calls Try.prog 11 #[.pointer (some ⟨N, 0, none⟩), .int .i64 1000] w (GoP11 w N ⟨1000, 1000, 500000, 500000000, false⟩ 1000 0)) := fun w N c => pgo11_any w N _ 1000 c ⟨by decide, by decide, by decide, by decide, by decide, by decide, by decide, by decide⟩
  have G2 : Hid (∀ w N, Clk w N ⟨1000, 1000, 500000, 500000000, false⟩ → Calls Try.prog 11 #[.pointer (some ⟨N, 0, none⟩), .int .i64 1000] w (GoP11 w N ⟨2000, 2001, 500000, 0, false⟩ 1001 0)) := fun w N c => pgo11_any w N _ 1000 c ⟨by decide, by decide, by decide, by decide, by decide, by decide, by decide, by decide⟩
  have S2 : Hid (∀ w N, Clk w N zeroM → Calls Try.prog 13 #[.pointer (some ⟨N, 0, none⟩), .int .i64 (-500000)] w (SetP11 w N ⟨0, 0, -500000, 0, false⟩ 0)) := fun w N c => psetrate11_any w N zeroM (-500000) c
  have G3 : Hid (∀ w N, Clk w N ⟨0, 0, -500000, 0, false⟩ → Calls Try.prog 11 #[.pointer (some ⟨N, 0, none⟩), .int .i64 2000] w (GoP11 w N ⟨2000, 1999, -500000, 0, false⟩ 1999 0)) := fun w N c => pgo11_any w N _ 2000 c ⟨by decide, by decide, by decide, by decide, by decide, by decide, by decide, by decide⟩
  have MO : Hid (∀ w N, Clk w N ⟨2000, 2001, 500000, 0, false⟩ → Calls Try.prog 16 #[.pointer (some ⟨N, 0, none⟩)] w fun e w' => e = .returned (.int .i64 2001) ∧ Below w.heap.size w w') := fun w N c => pmono11_any w N _ c
  have RA : Hid (∀ w N, Clk w N ⟨2000, 2001, 500000, 0, false⟩ → Calls Try.prog 17 #[.pointer (some ⟨N, 0, none⟩)] w fun e w' => e = .returned (.int .i64 2000) ∧ Below w.heap.size w w') := fun w N c => praw11_any w N _ c
  have S3 : Hid (∀ w N, Clk w N ⟨2000, 2001, 500000, 0, false⟩ → Calls Try.prog 13 #[.pointer (some ⟨N, 0, none⟩), .int .i64 500001] w (SetP11 w N ⟨2000, 2001, 500000, 0, false⟩ 1)) := fun w N c => psetrate11_any w N _ 500001 c
  go_enter Try.func20, Try.ntmps20
  go_wp2_with fail
  refine (NW.out w).mono ?_; rintro e w1 ⟨N, rfl, c1, hN, l1⟩
  replace c1 := Lib.hid c1
  replace hN := Lib.hid hN
  replace l1 := Lib.hid l1
  go_wp2_with fail
  refine (S1.out w1 N c1.out).mono ?_; rintro e w2 ⟨rfl, c, t⟩
  replace c1 := Lib.hid c
  replace l1 := Lib.hid (t.below l1.out hN.out)
  clear c t
  go_wp2_with fail
  refine (G1.out w2 N c1.out).mono ?_; rintro e w3 ⟨rfl, c, t⟩
  replace c1 := Lib.hid c
  replace l1 := Lib.hid (t.below l1.out hN.out)
  clear c t
  go_wp2_with fail
  refine (G2.out w3 N c1.out).mono ?_; rintro e w4 ⟨rfl, c, t⟩
  replace c1 := Lib.hid c
  replace l1 := Lib.hid (t.below l1.out hN.out)
  clear c t
  go_wp2_with fail
  refine (NW.out w4).mono ?_; rintro e w5 ⟨M, rfl, c2, hM, l2⟩
  have ne : Hid (N ≠ M) := by have := c1.out.lt; unfold Hid; omega
  have gM : Hid (w.heap.size ≤ M) := Nat.le_trans l1.out.size hM
  replace c1 := Lib.hid (c1.out.below l2)
  replace l1 := Lib.hid (l1.out.trans (l2.mono l1.out.size))
  replace c2 := Lib.hid c2
  clear l2 hM
  go_wp2_with fail
  refine (S2.out w5 M c2.out).mono ?_; rintro e w6 ⟨rfl, c, t⟩
  replace c2 := Lib.hid c
  replace c1 := Lib.hid (t.clk c1.out ne.out)
  replace l1 := Lib.hid (t.below l1.out gM.out)
  clear c t
  go_wp2_with fail
  refine (G3.out w6 M c2.out).mono ?_; rintro e w7 ⟨rfl, c, t⟩
  replace c2 := Lib.hid c
  replace c1 := Lib.hid (t.clk c1.out ne.out)
  replace l1 := Lib.hid (t.below l1.out gM.out)
  clear c t
  go_wp2_with fail
  refine (MO.out w7 N c1.out).mono ?_; rintro e w8 ⟨rfl, l⟩
  replace c1 := Lib.hid (c1.out.below l)
  replace l1 := Lib.hid (l1.out.trans (l.mono l1.out.size))
  clear l
  go_wp2_with fail
  refine (RA.out w8 N c1.out).mono ?_; rintro e w9 ⟨rfl, l⟩
  replace c1 := Lib.hid (c1.out.below l)
  replace l1 := Lib.hid (l1.out.trans (l.mono l1.out.size))
  clear l
  go_wp2_with fail
  refine (S3.out w9 N c1.out).mono ?_; rintro e w10 ⟨rfl, c, t⟩
  replace l1 := Lib.hid (t.below l1.out hN.out)
  clear c t
  go_wp2
  go_ret
  exact ⟨rfl, l1.out⟩
end Go.Proofs.Ytogkjgglpokkaaa
