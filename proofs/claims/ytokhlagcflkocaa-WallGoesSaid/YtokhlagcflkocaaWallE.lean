/- Layer 12 (wall): the document's own wall: within, time, At. -/
import Derived.Test.YtokhlagcflkocaaWallC
import Derived.Test.YtokhlagcflkocaaWallR
import Derived.Test.YtokhlagcflkocaaBigS
import Derived.Test.YtokhlagcflkocaaBigJ
set_option maxRecDepth 100000
namespace Go.Proofs.Ytokhlagcflkocaa
open Go.ChangeShapes Go.WideShapes Go.ChangeAt Go.RowKit WallM BigM

theorem BigZ.slice {w : World} {x : Value} {t : Int} {L : Nat} (h : BigZ w x t L) : ∃ p k c, x = .agg #[.bool (decide (t < 0)), .slice p k c] := BigIs.slice h
theorem sgz (t : Int) : sg (decide (t < 0)) t.natAbs = t := by
  unfold sg
  by_cases h : t < 0
  · simp [h]; omega
  · simp [h]; omega

set_option maxHeartbeats 1000000 in
/-- A whole number between two others, or the one next to it. -/
theorem rwithin12_any (w : World) (x : Value) (t lo hi : Int) (L : Nat) (h : BigZ w x t L) (hL : L ≤ 900) (il : I64 lo) (ih : I64 hi) :
    Calls Try.prog 31 #[x, .int .i64 lo, .int .i64 hi] w (IntB w (cl t lo hi)) := by
  obtain ⟨p, k, c, rfl⟩ := h.slice
  obtain ⟨m, hm⟩ : ∃ m, decide (t < 0) = m := ⟨_, rfl⟩
  have B0 : Below w.heap.size w (w.alloc (.cells #[.bool (decide (t < 0)), .slice p k c] 54)) := (Below.refl _ _).alloc (Nat.le_refl _) _
  have IT := Int_any _ (.agg #[.bool (decide (t < 0)), .slice p k c]) (decide (t < 0)) t.natAbs L (by obtain ⟨v, ds, a1, a2, a3, a4, a5, a6⟩ := (h.below B0).out; exact ⟨v, ds, a1, a2, a3, a5, a6⟩) (by omega)
  rw [sgz] at IT
  rw [hm] at IT B0 ⊢
  have I := Lib.hid IT
  have HB := Lib.hid B0
  have NB := Lib.hid (heap_alloc_new w (.cells #[.bool m, .slice p k c] 54))
  clear h IT B0
  go_enter Try.func31, Try.ntmps31
  go_wp2_with fail
  refine I.out.mono ?_
  rintro e w1 ⟨q, ok, rfl, h1, h2, hb⟩
  have C0 : w1.cell? ⟨w.heap.size, 0, none⟩ = some (.bool m) := blk_cell (o := 0) ((hb.block _ (Array.getElem?_eq_some_iff.1 NB.out).1).trans NB.out)
  have LW := Lib.hid (HB.out.trans (hb.mono HB.out.size))
  cases ok
  · have nt := h2 rfl
    unfold I64 at nt il ih
    cases m
    · have t0 : ¬ t < 0 := by simpa using hm
      have F : Hid (IntB w (cl t lo hi) (.returned (.int .i64 hi)) w1) := ⟨by rw [cl_hi (by omega) (by omega)], LW.out⟩
      clear h1 h2 hb nt il ih hm t0
      go_wp2
      go_ret
      exact F.out
    · have t0 : t < 0 := by simpa using hm
      have F : Hid (IntB w (cl t lo hi) (.returned (.int .i64 lo)) w1) := ⟨by rw [cl_lo (by omega)], LW.out⟩
      clear h1 h2 hb nt il ih hm t0
      go_wp2
      go_ret
      exact F.out
  · obtain ⟨it, rfl⟩ := h1 rfl
    by_cases a : q < lo
    · have F : Hid (IntB w (cl q lo hi) (.returned (.int .i64 lo)) w1) := ⟨by rw [cl_lo a], LW.out⟩
      have d : decide (q < lo) = true := decide_eq_true a
      clear h1 h2 hb it il ih hm
      go_wp2
      go_ret
      exact F.out
    · have d : decide (q < lo) = false := decide_eq_false a
      have a' : lo ≤ q := by omega
      by_cases b : hi < q
      · have F : Hid (IntB w (cl q lo hi) (.returned (.int .i64 hi)) w1) := ⟨by rw [cl_hi a' b], LW.out⟩
        have d' : decide (hi < q) = true := decide_eq_true b
        clear h1 h2 hb it il ih hm a
        go_wp2
        go_ret
        exact F.out
      · have d' : decide (hi < q) = false := decide_eq_false b
        have b' : q ≤ hi := by omega
        have F : Hid (IntB w (cl q lo hi) (.returned (.int .i64 q)) w1) := ⟨by rw [cl_mid a' b'], LW.out⟩
        clear h1 h2 hb it il ih hm a b
        go_wp2
        go_ret
        exact F.out

theorem rtime12_any (w : World) (n : Int) (hn : I64 n) : Calls Try.prog 34 #[.int .i64 n] w (IntB w (inst n)) := by
  have OF := Lib.hid (ofz_any w n hn)
  have WI := Lib.hid (fun w x h => rwithin12_any w x n 0 4611686018427387904 4 h (by decide) ⟨by decide, by decide⟩ ⟨by decide, by decide⟩)
  have F : Hid (∀ w', Below w.heap.size w w' → IntB w (inst n) (.returned (.int .i64 (cl n 0 4611686018427387904))) w') := fun w' l => ⟨rfl, l⟩
  clear hn
  go_enter Try.func34, Try.ntmps34
  go_wp2_with fail
  refine OF.out.mono ?_; rintro e w1 ⟨x, rfl, g, l⟩
  have L := Lib.hid l
  clear l
  go_wp2_with fail
  refine (WI.out w1 x g).mono ?_; rintro e w2 ⟨rfl, l⟩
  have FF := Lib.hid (F.out _ (L.out.trans (l.mono L.out.size)))
  clear l g
  go_wp2
  go_ret
  exact FF.out

/-- In a block lies the document's own wall. -/
def RWal (w : World) (M : Nat) (x : Wl) : Prop := w.heap[M]? = some (.cells #[.int .i64 x.base, .int .i64 x.steps] 36 (0, 0))
theorem RWal.lt {w : World} {M : Nat} {x : Wl} (c : RWal w M x) : M < w.heap.size := by
  unfold RWal at c
  exact (Array.getElem?_eq_some_iff.1 c).1
theorem RWal.below {w w' : World} {M : Nat} {x : Wl} (c : RWal w M x) (b : Below w.heap.size w w') : RWal w' M x := by
  have := c.lt
  unfold RWal at c ⊢
  rw [b.block M this]
  exact c
theorem Turn.rwal {N M : Nat} {x : Wl} {w w' : World} (t : Turn N w w') (c : RWal w M x) (ne : M ≠ N) : RWal w' M x := by
  have := c.lt
  unfold RWal at c ⊢
  rw [t.keep M ne this]
  exact c

set_option maxHeartbeats 4000000 in
theorem rAt12_any (w : World) (M : Nat) (x : Wl) (m : Int) (c : RWal w M x) (ok : x.Ok) (hm : I64 m) :
    Calls Try.prog 19 #[.pointer (some ⟨M, 0, none⟩), .int .i64 m] w (IntB w (atW x.base m)) := by
  have i := inst_in m
  have b0 := ok.b0
  have b1 := ok.b1
  obtain ⟨b, s⟩ := x
  dsimp only at *
  have TI : Hid (∀ w', Below w.heap.size w w' → Calls Try.prog 34 #[.int .i64 m] w' fun e w'' => e = .returned (.int .i64 (inst m)) ∧ Below w.heap.size w w'' ∧ Below w'.heap.size w' w'') := fun w' l => (rtime12_any w' m hm).mono fun e w'' ⟨a, l'⟩ => ⟨a, l.trans (l'.mono l.size), l'⟩
  have F : Hid (∀ w', Below w.heap.size w w' → IntB w (atW b m) (.returned (.int .i64 (cl (inst m + b) 0 4611686018427387904))) w') := fun w' l => ⟨rfl, l⟩
  generalize atW b m = at0 at *
  obtain ⟨k, hk⟩ : ∃ k, inst m = k := ⟨_, rfl⟩
  rw [hk] at i TI F
  obtain ⟨n, hn⟩ : ∃ n, k + b = n := ⟨_, rfl⟩
  rw [hn] at F
  have OK : Hid (∀ w', Below w.heap.size w w' → Calls Try.prog 33 #[.int .i64 k] w' fun e w'' => ∃ x, e = .returned x ∧ BigZ w'' x k 4 ∧ Below w.heap.size w w'' ∧ Below w'.heap.size w' w'') := fun w' l => (ofz_any w' k ⟨by omega, by omega⟩).mono fun e w'' ⟨x, a, g, l'⟩ => ⟨x, a, g, l.trans (l'.mono l.size), l'⟩
  have OB : Hid (∀ w', Below w.heap.size w w' → Calls Try.prog 33 #[.int .i64 b] w' fun e w'' => ∃ x, e = .returned x ∧ BigZ w'' x b 4 ∧ Below w.heap.size w w'' ∧ Below w'.heap.size w' w'') := fun w' l => (ofz_any w' b ⟨by omega, by omega⟩).mono fun e w'' ⟨x, a, g, l'⟩ => ⟨x, a, g, l.trans (l'.mono l.size), l'⟩
  have PL : Hid (∀ w' x1 x2, Below w.heap.size w w' → BigZ w' x1 k 4 → BigZ w' x2 b 4 → Calls Try.prog 32 #[x1, x2] w' fun e w'' => ∃ x, e = .returned x ∧ BigZ w'' x n 5 ∧ Below w.heap.size w w'' ∧ Below w'.heap.size w' w'') := fun w' x1 x2 l g1 g2 => by
    have h := plusz_any w' x1 x2 k b 4 4 g1 g2 (by decide) (by decide)
    rw [hn] at h
    exact h.mono fun e w'' ⟨x, a, g, l'⟩ => ⟨x, a, g, l.trans (l'.mono l.size), l'⟩
  have WI : Hid (∀ w' x, Below w.heap.size w w' → BigZ w' x n 5 → Calls Try.prog 31 #[x, .int .i64 0, .int .i64 4611686018427387904] w' fun e w'' => e = .returned (.int .i64 (cl n 0 4611686018427387904)) ∧ Below w.heap.size w w'') := fun w' x l g => (rwithin12_any w' x n 0 4611686018427387904 5 g (by decide) ⟨by decide, by decide⟩ ⟨by decide, by decide⟩).mono fun e w'' ⟨a, l'⟩ => ⟨a, l.trans (l'.mono l.size)⟩
  have KM : Hid (∀ w', Below w.heap.size w w' → w'.cell? ⟨M, 0, none⟩ = some (.int .i64 b)) := fun w' l => blk_cell (o := 0) (c.below l)
  have HB0 : Below w.heap.size w w := Below.refl _ _
  clear c ok i hk hn b0 b1 hm
  go_enter Try.func19, Try.ntmps19
  go_wp2_with fail
  go_region_held3 (fun w' => w'.cell? ⟨M, 0, none⟩ = some (.int .i64 b))
    (first | exact KM.out _ HB0 | exact KM.out _ HB0.drew)
    (first
      | (go_at_call 34; refine (TI.out _ (by first | exact HB0 | exact HB0.drew)).mono ?_; rintro e w1 ⟨rfl, HB0, l1⟩; (try have g2 := g2.below l1))
      | (go_at_call_of 33 k; refine (OK.out _ (by first | exact HB0 | exact HB0.drew)).mono ?_; rintro e w2 ⟨x1, rfl, g1, HB0, l2⟩; (try have g2 := g2.below l2))
      | (go_at_call_of 33 b; refine (OB.out _ (by first | exact HB0 | exact HB0.drew)).mono ?_; rintro e w3 ⟨x2, rfl, g2, HB0, l3⟩; (try have g1 := g1.below l3))
      | (go_at_call 32; refine (PL.out _ x1 x2 HB0 g1 g2).mono ?_; rintro e w4 ⟨x3, rfl, g3, HB0, l4⟩)
      | (go_at_call 31; refine (WI.out _ x3 HB0 g3).mono ?_; rintro e w5 ⟨rfl, HB0⟩))
  all_goals
    have FF := Lib.hid (F.out _ HB0)
    clear F
    go_wp2
    go_ret
    exact FF.out
end Go.Proofs.Ytokhlagcflkocaa
