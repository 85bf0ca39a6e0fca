/- Layer 11 (mono): the document's own clock: SetRate, Go, Reached. -/
import Derived.Test.YtogkjgglpokkaaaMonoF
import Derived.Test.YtogkjgglpokkaaaMonoC
set_option maxRecDepth 100000
namespace Go.Proofs.Ytogkjgglpokkaaa
open Go.ChangeShapes Go.WideShapes Go.ChangeAt Go.RowKit MonoM BigM

def RSetP11 (w : World) (M : Nat) (x : Mo) (e : Int) (r : Ending) (w' : World) : Prop := r = .returned (.int .i64 e) ∧ RClk w' M x ∧ Turn M w w'

theorem rsetrate11_any (w : World) (M : Nat) (x : Mo) (s : Int) (c : RClk w M x) :
    Calls Try.prog 14 #[.pointer (some ⟨M, 0, none⟩), .int .i64 s] w (RSetP11 w M (rateX x s) (rateE s)) := by
  by_cases h : s < -500000 ∨ 500000 < s
  · have F : Hid (RSetP11 w M (rateX x s) (rateE s) (.returned (.int .i64 1)) w) := by
      unfold Hid
      rw [(rate_no x h).1, (rate_no x h).2]
      exact ⟨rfl, c, Turn.of_below (Below.refl _ _)⟩
    clear c
    rcases h with h | h
    · go_enter Try.func14, Try.ntmps14
      go_wp2
      go_ret
      exact F.out
    · have h2 : -500000 ≤ s := by omega
      go_enter Try.func14, Try.ntmps14
      go_wp2
      go_ret
      exact F.out
  · have h0 : -500000 ≤ s := by omega
    have h1 : s ≤ 500000 := by omega
    have F : Hid (∀ w', w'.heap[M]? = some (.cells #[.int .i64 x.raw, .int .i64 x.mono, .int .i64 s, .int .i64 x.rest, .bool x.full] 27 (0, 0)) → Turn M w w' → RSetP11 w M (rateX x s) (rateE s) (.returned (.int .i64 0)) w') := fun w' a b => by
      rw [(rate_yes x h0 h1).1, (rate_yes x h0 h1).2]
      exact ⟨rfl, a, b⟩
    obtain ⟨raw, mono, rate, rest, full⟩ := x
    dsimp only at F
    have K1 := c.cells
    have FF := Lib.hid (F.out _ (blk_set (o := 2) (u := .int .i64 s) K1) ((Turn.of_below (Below.refl w.heap.size w)).set (o := 2) (.int .i64 s)))
    have F2 := blk_free (o := 2) K1
    have C2 := blk_cell (o := 2) K1
    simp only [List.getElem?_toArray, List.getElem?_cons_zero, List.getElem?_cons_succ] at C2
    clear c h F K1
    go_enter Try.func14, Try.ntmps14
    go_wp2
    go_ret
    exact FF.out

def RGoP11 (w : World) (M : Nat) (x : Mo) (n e : Int) (r : Ending) (w' : World) : Prop := r = .returned (.tuple #[.int .i64 n, .int .i64 e]) ∧ RClk w' M x ∧ Turn M w w'

theorem rgo11_arg (w : World) (M : Nat) (x : Mo) (d : Int) (c : RClk w M x) (h : badD d) :
    Calls Try.prog 12 #[.pointer (some ⟨M, 0, none⟩), .int .i64 d] w (RGoP11 w M x 0 1) := by
  have F : Hid (RGoP11 w M x 0 1 (.returned (.tuple #[.int .i64 0, .int .i64 1])) w) := ⟨rfl, c, Turn.of_below (Below.refl _ _)⟩
  clear c
  unfold badD at h
  rcases h with h | h
  · go_enter Try.func12, Try.ntmps12
    go_wp2
    go_ret2
    exact F.out
  · have h2 : 0 ≤ d := by omega
    go_enter Try.func12, Try.ntmps12
    go_wp2
    go_ret2
    exact F.out

set_option maxHeartbeats 2000000 in
/-- It goes on, far from the end. -/
theorem rgo11_far (w : World) (M : Nat) (x : Mo) (d : Int) (c : RClk w M x) (ok : x.Ok) (f : x.full = false) (h0 : 0 ≤ d) (h1 : d ≤ 1125899906842624) (fm : x.to d ≤ 4611686018427387904) (fr : x.raw + d ≤ 4611686018427387904) :
    Calls Try.prog 12 #[.pointer (some ⟨M, 0, none⟩), .int .i64 d] w (RGoP11 w M (x.after d) (d + x.q d) 0) := by
  have FU := Lib.hid (rfurther11_any w M x d c ok h0 h1)
  have q0 := Mo.q_back ok h0
  have m0 := ok.m0
  have r0 := ok.r0
  have CC := Lib.hid c
  have F : Hid (∀ w', w'.heap[M]? = some (.cells #[.int .i64 (x.raw + d), .int .i64 (x.to d), .int .i64 x.rate, .int .i64 ((d * x.rate + x.rest) % 1000000000), .bool false] 27 (0, 0)) → Turn M w w' → RGoP11 w M (x.after d) (d + x.q d) 0 (.returned (.tuple #[.int .i64 (d + x.q d), .int .i64 0])) w') := fun w' a b => by
    rw [Mo.after_far f fm fr]
    exact ⟨rfl, a, b⟩
  unfold Mo.to at F fm
  generalize d + x.q d = g at *
  generalize (d * x.rate + x.rest) % 1000000000 = e at *
  obtain ⟨raw, mono, rate, rest, full⟩ := x
  dsimp only at *
  subst f
  obtain ⟨m, hm⟩ : ∃ m, mono + g = m := ⟨_, rfl⟩
  obtain ⟨u, hu⟩ : ∃ u, raw + d = u := ⟨_, rfl⟩
  rw [hm] at F fm
  rw [hu] at F fr
  have d1 : decide (4611686018427387904 < m) = false := decide_eq_false (by omega)
  have d2 : decide (4611686018427387904 < u) = false := decide_eq_false (by omega)
  have w1 : wrap64 m = m := by unfold wrap64; omega
  have w2 : wrap64 u = u := by unfold wrap64; omega
  have w3 : IntKind.i64.wrap m = m := by rw [IntKind.wrap_i64]; omega
  have w4 : IntKind.i64.wrap u = u := by rw [IntKind.wrap_i64]; omega
  have C4 := blk_cell (o := 4) CC.out.cells
  simp only [List.getElem?_toArray, List.getElem?_cons_zero, List.getElem?_cons_succ] at C4
  clear c ok q0 m0 r0
  go_enter Try.func12, Try.ntmps12
  go_wp2_with fail
  refine FU.out.mono ?_; rintro r w1 ⟨rfl, l⟩
  have K1 := Lib.hid (CC.out.below l).cells
  have FF := Lib.hid (F.out _ (blk_set (o := 3) (u := .int .i64 e) (blk_set (o := 0) (u := .int .i64 u) (blk_set (o := 1) (u := .int .i64 m) K1.out))) ((((Turn.of_below (N := M) l).set (o := 1) (.int .i64 m)).set (o := 0) (.int .i64 u)).set (o := 3) (.int .i64 e)))
  have F0 := blk_free (o := 0) K1.out
  have F1 := blk_free (o := 1) K1.out
  have F3 := blk_free (o := 3) K1.out
  have C0 := blk_cell (o := 0) K1.out
  have C1 := blk_cell (o := 1) K1.out
  have C3 := blk_cell (o := 3) K1.out
  simp only [List.getElem?_toArray, List.getElem?_cons_zero, List.getElem?_cons_succ] at C0 C1 C3
  clear l F CC FU K1 C4
  go_wp2
  go_ret2
  exact FF.out

theorem rreached11_any (w : World) (M : Nat) (x : Mo) (t d : Int) (c : RClk w M x) (ok : x.Ok) (h0 : 0 ≤ d) (h1 : d ≤ 1125899906842624) :
    Calls Try.prog 22 #[.pointer (some ⟨M, 0, none⟩), .int .i64 t, .int .i64 d] w fun e w' => e = .returned (.bool (decide (t ≤ x.to d))) ∧ Below w.heap.size w w' := by
  have FU := Lib.hid (rfurther11_any w M x d c ok h0 h1)
  have q0 := Mo.q_back ok h0
  have q1 := Mo.q_hi ok h0
  have m0 := ok.m0
  have m1 := ok.m1
  have CC := Lib.hid c
  unfold Mo.to
  have gb : d + x.q d ≤ 2251799813685248 := by omega
  generalize d + x.q d = g at *
  generalize (d * x.rate + x.rest) % 1000000000 = e at *
  obtain ⟨raw, mono, rate, rest, full⟩ := x
  dsimp only at *
  obtain ⟨m, hm⟩ : ∃ m, mono + g = m := ⟨_, rfl⟩
  rw [hm]
  have w1 : wrap64 m = m := by unfold wrap64; omega
  have w3 : IntKind.i64.wrap m = m := by rw [IntKind.wrap_i64]; omega
  clear c ok q0 q1 m0 m1 gb
  go_enter Try.func22, Try.ntmps22
  go_wp2_with fail
  refine FU.out.mono ?_; rintro r w1 ⟨rfl, l⟩
  have C1 := blk_cell (o := 1) (CC.out.below l).cells
  simp only [List.getElem?_toArray, List.getElem?_cons_zero, List.getElem?_cons_succ] at C1
  have L := Lib.hid l
  clear l CC FU
  go_wp2
  go_ret
  exact ⟨rfl, L.out⟩
end Go.Proofs.Ytogkjgglpokkaaa
