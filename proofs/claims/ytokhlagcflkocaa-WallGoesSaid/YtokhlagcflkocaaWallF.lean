/- Layer 12 (wall): the document's own wall: New, Step, When; its rates. -/
import Derived.Test.YtokhlagcflkocaaWallE
set_option maxRecDepth 100000
namespace Go.Proofs.Ytokhlagcflkocaa
open Go.ChangeShapes Go.WideShapes Go.ChangeAt Go.RowKit WallM BigM

def RNewP12 (w : World) (x : Wl) (r : Ending) (w' : World) : Prop := ∃ N, r = .returned (.tuple #[.pointer (some ⟨N, 0, none⟩), .int .i64 0]) ∧ RWal w' N x ∧ w.heap.size ≤ N ∧ Below w.heap.size w w'
theorem rnew12_ok (w : World) (s : Int) (h : 0 ≤ s) (h' : s ≤ 4611686018427387904) : Calls Try.prog 9 #[.int .i64 s] w (RNewP12 w ⟨s, 0⟩) := by
  have F : Hid (RNewP12 w ⟨s, 0⟩ (.returned (.tuple #[.pointer (some ⟨w.heap.size, 0, none⟩), .int .i64 0])) (w.alloc (.cells #[.int .i64 s, .int .i64 0] 36))) :=
    ⟨_, rfl, heap_alloc_new _ _, Nat.le_refl _, (Below.refl _ _).alloc (Nat.le_refl _) _⟩
  go_enter Try.func9, Try.ntmps9
  go_wp2
  go_ret2
  exact F.out
theorem rnew12_no (w : World) (s : Int) (h : ¬ (0 ≤ s ∧ s ≤ 4611686018427387904)) : Calls Try.prog 9 #[.int .i64 s] w fun e w' => e = .returned (.tuple #[.pointer none, .int .i64 1]) ∧ w = w' := by
  by_cases a : s < 0
  · clear h
    go_enter Try.func9, Try.ntmps9
    go_wp2
    go_ret2
    exact ⟨rfl, rfl⟩
  · have b : 4611686018427387904 < s := by omega
    have a' : 0 ≤ s := by omega
    clear h a
    go_enter Try.func9, Try.ntmps9
    go_wp2
    go_ret2
    exact ⟨rfl, rfl⟩

def RStepP12 (w : World) (N : Nat) (x : Wl) (e : Int) (r : Ending) (w' : World) : Prop := r = .returned (.int .i64 e) ∧ RWal w' N x ∧ Turn N w w'

set_option maxHeartbeats 1000000 in
theorem rstep12_any (w : World) (M : Nat) (x : Wl) (d : Int) (c : RWal w M x) (ok : x.Ok) (hd : I64 d) (s0 : 0 ≤ x.steps) (s1 : x.steps ≤ 1000000) :
    Calls Try.prog 13 #[.pointer (some ⟨M, 0, none⟩), .int .i64 d] w (RStepP12 w M (stepX x d) (stepE x d)) := by
  have b0 := ok.b0
  have b1 := ok.b1
  have AD := Lib.hid (fun w => radd_any x.base d ⟨by omega, by omega⟩ hd w)
  have CC := Lib.hid c
  have C0 := blk_cell (o := 0) c
  by_cases h : inW (x.base + d)
  · have F : Hid (∀ w', w'.heap[M]? = some (.cells #[.int .i64 (x.base + d), .int .i64 (x.steps + 1)] 36 (0, 0)) → Turn M w w' → RStepP12 w M (stepX x d) (stepE x d) (.returned (.int .i64 0)) w') := fun w' a b => by
      rw [(step_yes h).1, (step_yes h).2]
      exact ⟨rfl, a, b⟩
    have it : I64 (x.base + d) := ⟨by have := h.1; omega, by have := h.2; omega⟩
    simp only [outN_ok it, outE_ok it] at AD
    obtain ⟨b, s⟩ := x
    unfold inW at h
    dsimp only at *
    simp only [List.getElem?_toArray, List.getElem?_cons_zero] at C0
    obtain ⟨t, ht⟩ : ∃ t, b + d = t := ⟨_, rfl⟩
    obtain ⟨u, hu⟩ : ∃ u, s + 1 = u := ⟨_, rfl⟩
    rw [ht] at AD F h
    rw [hu] at F
    have h1 := h.1
    have h2 := h.2
    have w1 : wrap64 u = u := by unfold wrap64; omega
    have w2 : IntKind.i64.wrap u = u := by rw [IntKind.wrap_i64]; omega
    clear c ok h hd s0 s1 b0 b1 it ht
    go_enter Try.func13, Try.ntmps13
    go_wp2_with fail
    refine (AD.out _).mono ?_; rintro e w1 ⟨rfl, l⟩
    have K := CC.out.below l
    unfold RWal at K
    dsimp only at K
    have F0 := blk_free (o := 0) K
    have D0 := blk_cell (o := 0) K
    have K2 : (w1.setCell ⟨M, 0, none⟩ (.int .i64 t)).heap[M]? = some (.cells #[.int .i64 t, .int .i64 s] 36 (0, 0)) := blk_set K
    have F1 := blk_free (o := 1) K2
    have D1 := blk_cell (o := 1) K2
    simp only [List.getElem?_toArray, List.getElem?_cons_zero, List.getElem?_cons_succ] at D0 D1
    have FF := Lib.hid (F.out _ (blk_set (o := 1) (u := .int .i64 u) K2) (((Turn.of_below l).set (o := 0) (.int .i64 t)).set (o := 1) (.int .i64 u)))
    clear F K K2 l CC C0
    go_wp2
    go_ret
    exact FF.out
  · have F : Hid (∀ w', Below w.heap.size w w' → RStepP12 w M (stepX x d) (stepE x d) (.returned (.int .i64 20)) w') := fun w' b => by
      rw [(step_no h).1, (step_no h).2]
      exact ⟨rfl, CC.out.below b, Turn.of_below b⟩
    obtain ⟨b, s⟩ := x
    unfold inW at h
    dsimp only at *
    simp only [List.getElem?_toArray, List.getElem?_cons_zero] at C0
    obtain ⟨t, ht⟩ : ∃ t, b + d = t := ⟨_, rfl⟩
    rw [ht] at AD h
    clear c ok hd s0 s1 b0 b1 ht CC
    by_cases it : I64 t
    · simp only [outN_ok it, outE_ok it] at AD
      have alt : (4611686018427387904 < t) ∨ (t ≤ 4611686018427387904 ∧ t < -4611686018427387904) := by omega
      clear it h
      rcases alt with g | ⟨g, g'⟩
      · go_enter Try.func13, Try.ntmps13
        go_wp2_with fail
        refine (AD.out _).mono ?_; rintro e w1 ⟨rfl, l⟩
        have FF := Lib.hid (F.out _ l)
        clear F l
        go_wp2
        go_ret
        exact FF.out
      · go_enter Try.func13, Try.ntmps13
        go_wp2_with fail
        refine (AD.out _).mono ?_; rintro e w1 ⟨rfl, l⟩
        have FF := Lib.hid (F.out _ l)
        clear F l
        go_wp2
        go_ret
        exact FF.out
    · simp only [outN_no it, outE_no it] at AD
      clear it h
      go_enter Try.func13, Try.ntmps13
      go_wp2_with fail
      refine (AD.out _).mono ?_; rintro e w1 ⟨rfl, l⟩
      have FF := Lib.hid (F.out _ l)
      clear F l
      go_wp2
      go_ret
      exact FF.out

set_option maxHeartbeats 2000000 in
theorem rWhen12_any (w : World) (M : Nat) (x : Wl) (t : Int) (c : RWal w M x) (ok : x.Ok) :
    Calls Try.prog 17 #[.pointer (some ⟨M, 0, none⟩), .int .i64 t] w (WhenP12 w (whenN x.base t) (whenB x.base t)) := by
  have AT : Hid (∀ w' m, I64 m → Below w.heap.size w w' → Calls Try.prog 19 #[.pointer (some ⟨M, 0, none⟩), .int .i64 m] w' fun e w'' => e = .returned (.int .i64 (atW x.base m)) ∧ Below w.heap.size w w'') := fun w' m hm l => (rAt12_any w' M x m (c.below l) ok hm).mono fun e w'' ⟨a, l'⟩ => ⟨a, l.trans (l'.mono l.size)⟩
  have HB0 : Hid (Below w.heap.size w w) := Below.refl _ _
  have a0 := atW_in x.base 4611686018427387904
  obtain ⟨b, s⟩ := x
  dsimp only at *
  have A0 := Lib.hid (fun w' l => AT.out w' 0 ⟨by decide, by decide⟩ l)
  have AM := Lib.hid (fun w' l => AT.out w' 4611686018427387904 ⟨by decide, by decide⟩ l)
  clear c ok
  by_cases h : t ≤ atW b 0
  · have F : Hid (∀ w', Below w.heap.size w w' → WhenP12 w (whenN b t) (whenB b t) (.returned (.tuple #[.int .i64 0, .bool true])) w') := fun w' l => by
      rw [(when_now h).1, (when_now h).2]
      exact ⟨rfl, l⟩
    generalize atW b 0 = g at *
    have d : decide (t ≤ g) = true := decide_eq_true h
    clear AT AM a0
    go_enter Try.func17, Try.ntmps17
    go_wp2_with fail
    refine (A0.out _ HB0.out).mono ?_; rintro e w1 ⟨rfl, l⟩
    have FF := Lib.hid (F.out _ l)
    clear F l HB0
    go_wp2
    go_ret2
    exact FF.out
  · by_cases h1 : t ≤ 4611686018427387904 ∧ t - b ≤ 4611686018427387904
    · have ge := fun m => at_ge (m := m) h h1.1
      have g0 := ge 0 (by decide) (by decide)
      have gm := (ge 4611686018427387904 (by decide) (by decide)).2 h1.2
      have F : Hid (∀ w', Below w.heap.size w w' → WhenP12 w (whenN b t) (whenB b t) (.returned (.tuple #[.int .i64 (t - b), .bool true])) w') := fun w' l => by
        rw [(when_yes h h1.1 h1.2).1, (when_yes h h1.1 h1.2).2]
        exact ⟨rfl, l⟩
      have GE := Lib.hid ge
      have r0 : 0 < t - b := by omega
      have r1 := h1.2
      clear h1 ge
      generalize t - b = r at *
      obtain ⟨gz, hgz⟩ : ∃ g, atW b 0 = g := ⟨_, rfl⟩
      obtain ⟨gt, hgt⟩ : ∃ g, atW b 4611686018427387904 = g := ⟨_, rfl⟩
      rw [hgz] at A0 h
      rw [hgt] at AM gm
      have d : decide (t ≤ gz) = false := decide_eq_false h
      have h' : gz < t := by omega
      have d2 : decide (gt < t) = false := decide_eq_false (by omega)
      have I0 : Hid (0 < r ∧ r ≤ 4611686018427387904) := ⟨r0, r1⟩
      clear g0 r0 r1 a0 hgz hgt h
      go_enter Try.func17, Try.ntmps17
      go_wp2_with fail
      refine (A0.out _ HB0.out).mono ?_; rintro e w1 ⟨rfl, l⟩
      have L1 := Lib.hid l
      clear l HB0 A0
      go_wp2_with fail
      refine (AM.out _ L1.out).mono ?_; rintro e w2 ⟨rfl, l⟩
      have L2 := Lib.hid l
      clear l L1 AM d h'
      go_wp2_with fail
      clear gm d2
      go_loopw [6, 7] (fun lo hi wr => ∃ a z : Int, lo = .int .i64 a ∧ hi = .int .i64 z ∧ Hid (0 ≤ a ∧ a < r ∧ r ≤ z ∧ z ≤ 4611686018427387904) ∧ Hid (Below w.heap.size w wr)) (fun lo hi _ => (intOf hi - intOf lo).toNat)
      case atStart => exact ⟨0, 4611686018427387904, rfl, rfl, ⟨by decide, I0.out.1, I0.out.2, by decide⟩, L2.out⟩
      case round =>
        obtain ⟨a, z, rfl, rfl, B, L⟩ := hrel
        clear L2 I0
        obtain ⟨B1, B2, B3, B4⟩ := B.out
        obtain ⟨g, hg⟩ : ∃ g, z - a = g := ⟨_, rfl⟩
        have w1 : wrap64 g = g := by unfold wrap64; omega
        have w2 : IntKind.i64.wrap g = g := by rw [IntKind.wrap_i64]; omega
        by_cases stop : g ≤ 1
        · have d1 : decide (1 < g) = false := decide_eq_false (by omega)
          have e : z = r := by omega
          have FF := Lib.hid (F.out _ L.out)
          clear F L B
          subst e
          clear B1 B2 B3 B4
          go_wp2
          go_ret2
          exact FF.out
        · have d1 : decide (1 < g) = true := decide_eq_true (by omega)
          have d2 : 1 < g := by omega
          obtain ⟨k, hk⟩ : ∃ k, g / 2 = k := ⟨_, rfl⟩
          have kt : g.tdiv 2 = k := by rw [Int.tdiv_eq_ediv_of_nonneg (by omega)]; exact hk
          obtain ⟨m, hm⟩ : ∃ m, a + k = m := ⟨_, rfl⟩
          have m2 : m < z := by omega
          have m3 : a < m := by omega
          have w3 : wrap64 k = k := by unfold wrap64; omega
          have w4 : wrap64 m = m := by unfold wrap64; omega
          have w5 : IntKind.i64.wrap k = k := by rw [IntKind.wrap_i64]; omega
          have w6 : IntKind.i64.wrap m = m := by rw [IntKind.wrap_i64]; omega
          have AA := Lib.hid (AT.out wr m ⟨by omega, by omega⟩ L.out)
          have ge := GE.out m (by omega) (by omega)
          have MM : Hid (a < m ∧ m < z) := ⟨m3, m2⟩
          generalize atW b m = y at *
          by_cases q : r ≤ m
          · have d3 : decide (t ≤ y) = true := decide_eq_true (ge.2 q)
            have q' := ge.2 q
            have I2 : Hid (0 ≤ a ∧ a < r ∧ r ≤ m ∧ m ≤ 4611686018427387904) := ⟨B1, B2, q, by omega⟩
            clear B1 B2 B3 B4 B L q ge GE F hk m2 m3 stop
            go_wp2_with fail
            refine AA.out.mono ?_; rintro e w3 ⟨rfl, l⟩
            have L3 := Lib.hid l
            clear l AA
            go_wp2
            go_roundw
            case rel => exact ⟨a, m, rfl, rfl, I2, L3⟩
            case measure => have := MM.out; simp [intOf]; omega
          · have d3 : decide (t ≤ y) = false := decide_eq_false (fun h => q (ge.1 h))
            have q' : y < t := by
              by_cases e : t ≤ y
              · exact absurd (ge.1 e) q
              · omega
            have I2 : Hid (0 ≤ m ∧ m < r ∧ r ≤ z ∧ z ≤ 4611686018427387904) := ⟨by omega, by omega, B3, B4⟩
            clear B1 B2 B3 B4 B L q ge GE F hk m2 m3 stop
            go_wp2_with fail
            refine AA.out.mono ?_; rintro e w3 ⟨rfl, l⟩
            have L3 := Lib.hid l
            clear l AA
            go_wp2
            go_roundw
            case rel => exact ⟨m, z, rfl, rfl, I2, L3⟩
            case measure => have := MM.out; simp [intOf]; omega
    · have F : Hid (∀ w', Below w.heap.size w w' → WhenP12 w (whenN b t) (whenB b t) (.returned (.tuple #[.int .i64 0, .bool false])) w') := fun w' l => by
        rw [(when_no h h1).1, (when_no h h1).2]
        exact ⟨rfl, l⟩
      have lt : atW b 4611686018427387904 < t := by
        by_cases h2 : t ≤ 4611686018427387904
        · have := at_ge (m := 4611686018427387904) h h2 (by decide) (by decide)
          omega
        · omega
      generalize atW b 0 = g at *
      generalize atW b 4611686018427387904 = gt at *
      have h' : g < t := by omega
      have d : decide (t ≤ g) = false := decide_eq_false h
      have d2 : decide (gt < t) = true := decide_eq_true lt
      clear AT a0 h h1
      go_enter Try.func17, Try.ntmps17
      go_wp2_with fail
      refine (A0.out _ HB0.out).mono ?_; rintro e w1 ⟨rfl, l⟩
      have L1 := Lib.hid l
      clear l HB0
      go_wp2_with fail
      refine (AM.out _ L1.out).mono ?_; rintro e w2 ⟨rfl, l⟩
      have FF := Lib.hid (F.out _ l)
      clear F l L1
      go_wp2
      go_ret2
      exact FF.out
end Go.Proofs.Ytokhlagcflkocaa
