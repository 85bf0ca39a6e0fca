/- WallGoes: the walk. -/
import Derived.Test.YtokhlagcflkocaaWallG
import Derived.Test.YtokhlagcflkocaaFrame
import Derived.Deep.CutRange
set_option maxRecDepth 100000
namespace Go.Proofs.Ytokhlagcflkocaa
open Go.ChangeShapes Go.WideShapes Go.ChangeAt Go.RowKit WallM BigM

theorem goes12_no (w : World) (s : Int) (p : Option Addr) (n c : Nat) (p' : Option Addr) (n' c' : Nat) (hn : ¬ (0 ≤ s ∧ s ≤ 4611686018427387904)) :
    Calls Try.prog 3 #[.int .i64 s, .slice p n c, .slice p' n' c'] w fun e w' => e = .returned (.bool true) ∧ Below w.heap.size w w' := by
  have N := Lib.hid (fun w => pnew12_no w s hn)
  have R := Lib.hid (fun w => rnew12_no w s hn)
  have AL := Lib.hid alive12_any
  clear hn
  go_enter Try.func3, Try.ntmps3
  go_wp2_with fail
  refine (N.out w).mono ?_; rintro e w1 ⟨rfl, l1⟩
  have L1 := Lib.hid l1
  clear l1
  go_wp2_with fail
  refine (R.out w1).mono ?_; rintro e w2 ⟨rfl, rfl⟩
  go_wp2_with fail
  refine (AL.out _).mono ?_; rintro e w5 ⟨rfl, l5⟩
  have L5 := Lib.hid (L1.out.trans (l5.mono L1.out.size))
  go_wp2
  go_ret
  exact ⟨rfl, L5.out⟩

/-- Both walls, side by side. -/
structure GoW (w wr : World) (N M : Nat) (x y : Wl) : Prop where
  c : Wal wr N x
  r : RWal wr M y
  n : w.heap.size ≤ N
  m : w.heap.size ≤ M
  ne : M ≠ N
  low : Below w.heap.size w wr
theorem GoW.below {w wr w' : World} {N M : Nat} {x y : Wl} (g : GoW w wr N M x y) (b : Below wr.heap.size wr w') : GoW w w' N M x y := ⟨g.c.below b, g.r.below b, g.n, g.m, g.ne, g.low.trans (b.mono g.low.size)⟩
theorem GoW.drew {w wr : World} {N M : Nat} {x y : Wl} (g : GoW w wr N M x y) : GoW w wr.drew N M x y := g.below (Below.refl _ _).drew
theorem GoW.c0 {w wr : World} {N M : Nat} {x : Wl} {b s : Int} (g : GoW w wr N M x ⟨b, s⟩) : wr.cell? ⟨M, 0, none⟩ = some (.int .i64 b) := blk_cell (o := 0) g.r
theorem GoW.c1 {w wr : World} {N M : Nat} {x : Wl} {b s : Int} (g : GoW w wr N M x ⟨b, s⟩) : wr.cell? ⟨M, 1, none⟩ = some (.int .i64 s) := blk_cell (o := 1) g.r
theorem GoW.turnN {w wr w' : World} {N M : Nat} {x y z : Wl} (g : GoW w wr N M x y) (t : Turn N wr w') (c : Wal w' N z) : GoW w w' N M z y := ⟨c, t.rwal g.r g.ne, g.n, g.m, g.ne, t.below g.low g.n⟩
theorem GoW.turnM {w wr w' : World} {N M : Nat} {x y z : Wl} (g : GoW w wr N M x y) (t : Turn M wr w') (c : RWal w' M z) : GoW w w' N M x z := ⟨t.wal g.c (Ne.symm g.ne), c, g.n, g.m, g.ne, t.below g.low g.m⟩
theorem GoW.turnX {w wr w' : World} {N M X : Nat} {x y : Wl} (g : GoW w wr N M x y) (t : Turn X wr w') (nx : N ≠ X) (mx : M ≠ X) (hX : w.heap.size ≤ X) : GoW w w' N M x y := ⟨t.wal g.c nx, t.rwal g.r mx, g.n, g.m, g.ne, t.below g.low hX⟩

/-- A region's condition may be made stronger on the way. -/
theorem wpAnyH_stronger {P : Program} {md : Region.Mode} {ops : Array Oper} {Q : Exit → Act → World → Prop} {S S2 : World → Prop} (h : ∀ w, S2 w → S w) :
    ∀ (fuel : Nat) (listed : Array Bool) (a : Act) (w : World), wpAnyH P md ops Q S2 fuel listed a w → wpAnyH P md ops Q S fuel listed a w
  | 0, _, _, _, k => k
  | fuel + 1, _, _, _, k => ⟨k.1, fun i hi => wpOp_mono (fun a' w' h' => ⟨h _ h'.1, wpAnyH_stronger h fuel _ a' w' h'.2⟩) (k.2 i hi)⟩

/-- Which time is looked at. -/
theorem turn12_num {q r n : Nat} (h : r < n) (hq : (q : Int) < 40) (hr : (r : Int) < 4) : ∃ (j : Nat) (u : Int), (q : Int) + (r : Int) = u ∧ u.tmod (n : Int) = (j : Int) ∧ j < n ∧ (j : Int) < (n : Int) ∧ (0 : Int) ≤ (j : Int) ∧
    IntKind.i64.wrap u = u ∧ wrap64 u = u ∧ IntKind.i64.wrap (j : Int) = (j : Int) ∧ wrap64 (j : Int) = (j : Int) := by
  have jn : (q + r) % n < n := Nat.mod_lt _ (by omega)
  have jl : (q + r) % n ≤ q + r := Nat.mod_le _ _
  refine ⟨(q + r) % n, (q : Int) + (r : Int), rfl, ?_, jn, by omega, by omega, ?_, ?_, ?_, ?_⟩
  · rw [Int.tmod_eq_emod_of_nonneg (by omega), Int.natCast_emod, Int.natCast_add]
  · rw [IntKind.wrap_i64]; omega
  · unfold wrap64; omega
  · generalize (q + r) % n = j at *
    rw [IntKind.wrap_i64]; omega
  · generalize (q + r) % n = j at *
    unfold wrap64; omega

theorem turn12_not {r n : Nat} (h : r < n) : ¬ n = 0 ∧ (n == 0) = false ∧ ¬ (n : Int) = 0 ∧ ((n : Int) == 0) = false ∧ 0 < (n : Int) :=
  ⟨by omega, by rw [beq_eq_false_iff_ne]; omega, by omega, by rw [beq_eq_false_iff_ne]; omega, by omega⟩

theorem step_more (x : Wl) (d : Int) : x.steps ≤ (stepX x d).steps ∧ (stepX x d).steps ≤ x.steps + 1 := by
  by_cases h : inW (x.base + d)
  · rw [(step_yes h).2]; dsimp only; omega
  · rw [(step_no h).2]; omega

set_option maxHeartbeats 16000000 in
theorem goes12_ok (w : World) (s : Int) (p : Option Addr) (n c : Nat) (zs : List Int) (p' : Option Addr) (n' c' : Nat) (ts : List Int) (hp : Holds w p n c (valsI .i64 zs)) (hq : Holds w p' n' c' (valsI .i64 ts)) (hz : ∀ z ∈ zs, I64 z) (ht : ∀ z ∈ ts, I64 z) (h0 : 0 ≤ s) (h1 : s ≤ 4611686018427387904) :
    Calls Try.prog 3 #[.int .i64 s, .slice p n c, .slice p' n' c'] w fun e w' => e = .returned (.bool true) ∧ Below w.heap.size w w' := by
  have N := Lib.hid (fun w => pnew12_ok w s h0 h1)
  have R := Lib.hid (fun w => rnew12_ok w s h0 h1)
  have AL := Lib.hid alive12_any
  have HP := Lib.hid hp
  have HQ := Lib.hid hq
  have HZ := Lib.hid hz
  have HT := Lib.hid ht
  have cp := hp.cap
  have mx := hp.max
  have cq := hq.cap
  have mq := hq.max
  unfold maxLen at mx mq
  have nb : (n : Int) ≤ 9223372036854775807 := by omega
  have nq : (n' : Int) ≤ 9223372036854775807 := by omega
  have O0 : Hid (Wl.mk s 0).Ok := ⟨by show _ ≤ s; omega, h1⟩
  clear hp hq hz ht h0 h1 cp mx cq mq
  go_enter Try.func3, Try.ntmps3
  go_wp2_with fail
  refine (N.out w).mono ?_; rintro e w1 ⟨N1, rfl, c1, g1, l1⟩
  have L1 := Lib.hid l1
  have C1 := Lib.hid c1
  have G1 := Lib.hid g1
  clear l1 c1 g1
  go_wp2_with fail
  refine (R.out w1).mono ?_; rintro e w2 ⟨M, rfl, c2, g2, l2⟩
  have I0 : Hid (GoW w w2 N1 M ⟨s, 0⟩ ⟨s, 0⟩) := ⟨C1.out.below l2, c2, G1.out, Nat.le_trans L1.out.size g2, by have := C1.out.lt; omega, L1.out.trans (l2.mono L1.out.size)⟩
  clear c2 g2 l2 C1 L1 G1 N R
  go_wp2_with fail
  go_loopw [7, 11] (fun v i wr => ∃ (N1 q : Nat) (x : Wl), v = .pointer (some ⟨N1, 0, none⟩) ∧ i = .int .i64 (q : Nat) ∧ Hid (q ≤ n ∧ q ≤ 40 ∧ x.Ok ∧ 0 ≤ x.steps ∧ x.steps ≤ q) ∧ Hid (GoW w wr N1 M x x)) (fun _ i _ => 1000 - (intOf i).toNat)
  case atStart => exact ⟨N1, 0, _, rfl, rfl, ⟨Nat.zero_le _, by decide, O0.out, Int.le_refl _, Int.le_refl _⟩, I0.out⟩
  case round =>
    clear I0 O0
    obtain ⟨N1, q, x, rfl, rfl, B, I⟩ := hrel
    have q0 : (0 : Int) ≤ (q : Int) := by omega
    have qb : (q : Int) ≤ 40 := by have := B.out.2.1; omega
    by_cases stop : n ≤ q ∨ q = 40
    · have LW := Lib.hid I.out.low
      have stop' : ((n : Int) ≤ (q : Int) ∧ decide ((q : Int) < (n : Int)) = false) ∨ ((q : Int) < (n : Int) ∧ (q : Int) = 40) := by
        rcases stop with s | s
        · exact .inl ⟨by omega, decide_eq_false (by omega)⟩
        · by_cases s2 : n ≤ q
          · exact .inl ⟨by omega, decide_eq_false (by omega)⟩
          · exact .inr ⟨by omega, by omega⟩
      clear I B stop HP HQ HZ HT
      rcases stop' with ⟨s1, s2⟩ | ⟨s1, s2⟩
      all_goals
        go_wp2_with fail
        refine (AL.out wr).mono ?_; rintro e w9 ⟨rfl, l9⟩
        have L9 := Lib.hid (LW.out.trans (l9.mono LW.out.size))
        clear l9
        go_wp2
        go_ret
        exact ⟨rfl, L9.out⟩
    have h' : (q : Int) < (n : Int) := by omega
    have q39 : (q : Int) < 40 := by omega
    have qn : q < n := by omega
    have q40 : q < 40 := by omega
    obtain ⟨a, rfl, cz⟩ := HP.out.atI qn
    obtain ⟨z, hz⟩ : ∃ z, z = zs.getD q 0 := ⟨_, rfl⟩
    have iz : I64 z := by
      rw [hz]
      have lq : q < zs.length := by have := HP.out.len; rw [valsI_len] at this; omega
      rw [List.getD_eq_getElem?_getD, List.getElem?_eq_getElem lq]
      exact HZ.out _ (List.getElem_mem lq)
    rw [← hz] at cz
    have KT : Hid (∀ w', Below w.heap.size w w' → w'.cell? (a.add q) = some (.int .i64 z)) := fun w' b => (b.cell (World.block_lt_of_cell? _ _ cz)).trans cz
    have ok := B.out.2.2.1
    have s0 := B.out.2.2.2.1
    have s1 : x.steps ≤ 1000000 := by have := B.out.2.2.2.2; omega
    have CP : Hid (∀ w' N, GoW w w' N M x x → Calls Try.prog 11 #[.pointer (some ⟨N, 0, none⟩)] w' fun e w'' => ∃ N', e = .returned (.pointer (some ⟨N', 0, none⟩)) ∧ GoW w w'' N' M x x ∧ GoW w w'' N M x x ∧ N ≠ N' ∧ M ≠ N') := fun w' N g => by
      refine (pcopy12_any w' N x g.c).mono ?_
      rintro e w'' ⟨N', rfl, k, hn, l⟩
      have g' := g.below l
      have e1 : N ≠ N' := by have := g.c.lt; omega
      have e2 : M ≠ N' := by have := g.r.lt; omega
      exact ⟨N', rfl, ⟨k, g'.r, Nat.le_trans g.low.size hn, g.m, e2, g'.low⟩, g', e1, e2⟩
    have S1 : Hid (∀ w' N X, GoW w w' N M x x → GoW w w' X M x x → N ≠ X → M ≠ X → Calls Try.prog 12 #[.pointer (some ⟨X, 0, none⟩), .int .i64 (-1)] w' fun e w'' => ∃ k, e = .returned (.int .i64 k) ∧ GoW w w'' N M x x) := fun w' N X g g' e1 e2 => by
      refine (pstep12_any w' X x (-1) g'.c ok ⟨by decide, by decide⟩ s0 s1).mono ?_
      rintro e w'' ⟨rfl, -, t⟩
      exact ⟨_, rfl, g.turnX t e1 e2 g'.n⟩
    obtain ⟨y, hy⟩ : ∃ y, stepX x z = y := ⟨_, rfl⟩
    obtain ⟨E, hE⟩ : ∃ y, stepE x z = y := ⟨_, rfl⟩
    have A1 : Hid (∀ w' N, GoW w w' N M x x → Calls Try.prog 12 #[.pointer (some ⟨N, 0, none⟩), .int .i64 z] w' fun e w'' => e = .returned (.int .i64 E) ∧ GoW w w'' N M y x) := fun w' N g => by
      refine (pstep12_any w' N x z g.c ok iz s0 s1).mono ?_
      rintro e w'' ⟨rfl, k, t⟩
      rw [hy] at k
      rw [hE]
      exact ⟨rfl, g.turnN t k⟩
    have A2 : Hid (∀ w' N, GoW w w' N M y x → Calls Try.prog 13 #[.pointer (some ⟨M, 0, none⟩), .int .i64 z] w' fun e w'' => e = .returned (.int .i64 E) ∧ GoW w w'' N M y y) := fun w' N g => by
      refine (rstep12_any w' M x z g.r ok iz s0 s1).mono ?_
      rintro e w'' ⟨rfl, k, t⟩
      rw [hy] at k
      rw [hE]
      exact ⟨rfl, g.turnM t k⟩
    have oky := step_ok ok z
    have sm := step_more x z
    rw [hy] at oky sm
    have BB : Hid (q + 1 ≤ n ∧ q + 1 ≤ 40 ∧ y.Ok ∧ 0 ≤ y.steps ∧ y.steps ≤ ((q + 1 : Nat) : Int)) := ⟨qn, q40, oky, by omega, by have := B.out.2.2.2.2; omega⟩
    have A3 : Hid (∀ w' N, GoW w w' N M y y → Calls Try.prog 14 #[.pointer (some ⟨N, 0, none⟩)] w' fun e w'' => e = .returned (.int .i64 y.base) ∧ GoW w w'' N M y y) := fun w' N g => (pbase12_any w' N y g.c).mono fun e w'' ⟨k, l⟩ => ⟨k, g.below l⟩
    have A4 : Hid (∀ w' N, GoW w w' N M y y → Calls Try.prog 15 #[.pointer (some ⟨N, 0, none⟩)] w' fun e w'' => e = .returned (.int .i64 y.steps) ∧ GoW w w'' N M y y) := fun w' N g => (psteps12_any w' N y g.c).mono fun e w'' ⟨k, l⟩ => ⟨k, g.below l⟩
    obtain ⟨b, k⟩ := y
    dsimp only at A3 A4
    have v1 : (E != E) = false := by simp
    have v2 : (b != b) = false := by simp
    have v3 : (k != k) = false := by simp
    clear B stop hz cz qn q40 HP HZ hy hE oky sm s0 s1 ok iz
    go_wp2_with fail
    refine (CP.out wr N1 I.out).mono ?_; rintro e w5 ⟨X, rfl, gX, g5, e1, e2⟩
    have GX := Lib.hid gX
    have G5 := Lib.hid g5
    have E5 := Lib.hid (And.intro e1 e2)
    clear gX g5 e1 e2 I
    go_wp2_with fail
    refine (S1.out w5 N1 X G5.out GX.out E5.out.1 E5.out.2).mono ?_; rintro e w6 ⟨k1, rfl, g6⟩
    have G6 := Lib.hid g6
    clear g6 GX G5 E5 S1
    go_upto_if 58 with fail
    go_cut [7] from 42 to 139 (fun s wx => ∃ N3, s = .pointer (some ⟨N3, 0, none⟩) ∧ Hid (GoW w wx N3 M x x))
    case first =>
      by_cases r1 : q % 4 = 2
      · have r2 : (q : Int) % 4 = 2 := by omega
        have r3 : (q : Int).tmod 4 = 2 := by rw [Int.tmod_eq_emod_of_nonneg (by omega)]; exact r2
        clear r1
        go_wp2_with fail
        refine (CP.out w6 N1 G6.out).mono ?_; rintro e w7 ⟨N3, rfl, g7, -, -, -⟩
        have G7 := Lib.hid g7
        clear g7
        go_wp2_with fail
        go_meet
        exact ⟨N3, rfl, G7.out⟩
      · have r2 : ((q : Int) % 4 == 2) = false := by rw [beq_eq_false_iff_ne]; omega
        have r3 : ((q : Int).tmod 4 == 2) = false := by rw [Int.tmod_eq_emod_of_nonneg (by omega)]; exact r2
        have r4 : ¬ (q : Int).tmod 4 = 2 := by rw [Int.tmod_eq_emod_of_nonneg (by omega)]; omega
        clear r1
        go_wp2_with fail
        go_meet
        exact ⟨N1, rfl, G6.out⟩
    case rest =>
    obtain ⟨N3, rfl, I7⟩ := hcut
    have HG := I7.out
    clear I7 G6 CP
    go_upto_region 14 with (fail)
    replace HG := HG.drew
    /- the region: begin -/
    refine wp_region_held_drew (S := fun w' => w'.cell? (a.add q) = some (.int .i64 z)) (by kernel_rfl) (KT.out _ HG.low) (fun hHeld => ?_)
    refine wpAnyH_take (i := 0) (v := ?_) (by (simp only [List.getElem?_toArray, List.getElem?_cons_zero]; exact rfl)) (by kernel_rfl) (by kernel_rfl) (by kernel_rfl) (by exact fun _ _ _ h => h) (Or.inl ⟨by rfl, ?_⟩) (by assumption) ?_
    rotate_left
    · (intro w hSw; (try dsimp only at hSw); first | (go_simp; done) | (go_simp; with_reducible rfl))
    try simp only [Act.put, List.setIfInBounds_toArray, List.set_cons_zero, List.set_cons_succ]
    refine wpAnyH_take (i := 1) (v := ?_) (by (simp only [List.getElem?_toArray, List.getElem?_cons_zero, List.getElem?_cons_succ]; exact rfl)) (by kernel_rfl) (by kernel_rfl) (by kernel_rfl) (by exact fun _ _ _ h => h) (Or.inl ⟨by rfl, ?_⟩) (by assumption) ?_
    rotate_left
    · (intro w hSw; (try dsimp only at hSw); first | (go_simp; done) | (go_simp; with_reducible rfl))
    try simp only [Act.put, List.setIfInBounds_toArray, List.set_cons_zero, List.set_cons_succ]
    refine wpAnyH_take (i := 2) (v := ?_) (by (simp only [List.getElem?_toArray, List.getElem?_cons_zero, List.getElem?_cons_succ]; exact rfl)) (by kernel_rfl) (by kernel_rfl) (by kernel_rfl) (by exact fun _ _ _ h => h) (Or.inl ⟨by rfl, ?_⟩) (by assumption) ?_
    rotate_left
    · (intro w hSw; (try dsimp only at hSw); first | (go_simp; done) | (go_simp; with_reducible rfl))
    try simp only [Act.put, List.setIfInBounds_toArray, List.set_cons_zero, List.set_cons_succ]
    refine wpAnyH_take (i := 3) (v := ?_) (by (simp only [List.getElem?_toArray, List.getElem?_cons_zero, List.getElem?_cons_succ]; exact rfl)) (by kernel_rfl) (by kernel_rfl) (by kernel_rfl) (by exact fun _ _ _ h => h) (Or.inl ⟨by rfl, ?_⟩) (by assumption) ?_
    rotate_left
    · (intro w hSw; (try dsimp only at hSw); first | (go_simp; done) | (go_simp; with_reducible rfl))
    try simp only [Act.put, List.setIfInBounds_toArray, List.set_cons_zero, List.set_cons_succ]
    refine wpAnyH_take (i := 4) (v := ?_) (by (simp only [List.getElem?_toArray, List.getElem?_cons_zero, List.getElem?_cons_succ]; exact rfl)) (by kernel_rfl) (by kernel_rfl) (by kernel_rfl) (by exact fun _ _ _ h => h) (Or.inl ⟨by rfl, ?_⟩) (by assumption) ?_
    rotate_left
    · (intro w hSw; (try dsimp only at hSw); first | (go_simp; done) | (go_simp; with_reducible rfl))
    try simp only [Act.put, List.setIfInBounds_toArray, List.set_cons_zero, List.set_cons_succ]
    refine wpAnyH_take (i := 6) (v := ?_) (by (simp only [List.getElem?_toArray, List.getElem?_cons_zero, List.getElem?_cons_succ]; exact rfl)) (by kernel_rfl) (by kernel_rfl) (by kernel_rfl) (by exact fun _ _ _ h => h) (Or.inl ⟨by rfl, ?_⟩) (by assumption) ?_
    rotate_left
    · (intro w hSw; (try dsimp only at hSw); first | (go_simp; done) | (go_simp; with_reducible rfl))
    try simp only [Act.put, List.setIfInBounds_toArray, List.set_cons_zero, List.set_cons_succ]
    refine wpAnyH_take (i := 7) (v := ?_) (by (simp only [List.getElem?_toArray, List.getElem?_cons_zero, List.getElem?_cons_succ]; exact rfl)) (by kernel_rfl) (by kernel_rfl) (by kernel_rfl) (by exact fun _ _ _ h => h) (Or.inl ⟨by rfl, ?_⟩) (by assumption) ?_
    rotate_left
    · (intro w hSw; (try dsimp only at hSw); first | (go_simp; done) | (go_simp; with_reducible rfl))
    try simp only [Act.put, List.setIfInBounds_toArray, List.set_cons_zero, List.set_cons_succ]
    refine wpAnyH_take (i := 8) (v := ?_) (by (simp only [List.getElem?_toArray, List.getElem?_cons_zero, List.getElem?_cons_succ]; exact rfl)) (by kernel_rfl) (by kernel_rfl) (by kernel_rfl) (by exact fun _ _ _ h => h) (Or.inl ⟨by rfl, ?_⟩) (by assumption) ?_
    rotate_left
    · (intro w hSw; (try dsimp only at hSw); first | (go_simp; done) | (go_simp; with_reducible rfl))
    try simp only [Act.put, List.setIfInBounds_toArray, List.set_cons_zero, List.set_cons_succ]
    refine wpAnyH_take (i := 9) (v := ?_) (by (simp only [List.getElem?_toArray, List.getElem?_cons_zero, List.getElem?_cons_succ]; exact rfl)) (by kernel_rfl) (by kernel_rfl) (by kernel_rfl) (by exact fun _ _ _ h => h) (Or.inl ⟨by rfl, ?_⟩) (by assumption) ?_
    rotate_left
    · (intro w hSw; (try dsimp only at hSw); first | (go_simp; done) | (go_simp; with_reducible rfl))
    try simp only [Act.put, List.setIfInBounds_toArray, List.set_cons_zero, List.set_cons_succ]
    refine wpAnyH_take (i := 10) (v := ?_) (by (simp only [List.getElem?_toArray, List.getElem?_cons_zero, List.getElem?_cons_succ]; exact rfl)) (by kernel_rfl) (by kernel_rfl) (by kernel_rfl) (by exact fun _ _ _ h => h) (Or.inl ⟨by rfl, ?_⟩) (by assumption) ?_
    rotate_left
    · (intro w hSw; (try dsimp only at hSw); first | (go_simp; done) | (go_simp; with_reducible rfl))
    try simp only [Act.put, List.setIfInBounds_toArray, List.set_cons_zero, List.set_cons_succ]
    refine wpAnyH_ready (rs := [5]) (by kernel_rfl) (by simp) ?_
    refine AllReadyH.cons (by (simp only [List.getElem?_toArray, List.getElem?_cons_zero, List.getElem?_cons_succ]; exact rfl)) (fun K hK => ?_) AllReadyH.nil
    go_simp
    (go_at_call 12; refine (A1.out _ N3 HG).mono ?_; rintro e w8 ⟨rfl, HG⟩)
    go_wp2_with fail
    refine hK.out _ _ (KT.out _ HG.low) (fun hHeld => ?_)
    clear hK K
    try simp only [Act.put, List.setIfInBounds_toArray, List.set_cons_zero, List.set_cons_succ]
    refine wpAnyH_ready (rs := [11]) (by kernel_rfl) (by simp) ?_
    refine AllReadyH.cons (by (simp only [List.getElem?_toArray, List.getElem?_cons_zero, List.getElem?_cons_succ]; exact rfl)) (fun K hK => ?_) AllReadyH.nil
    go_simp
    (go_at_call 13; refine (A2.out _ N3 HG).mono ?_; rintro e w9 ⟨rfl, HG⟩)
    go_wp2_with fail
    refine hK.out _ _ (KT.out _ HG.low) (fun hHeld => ?_)
    clear hK K
    try simp only [Act.put, List.setIfInBounds_toArray, List.set_cons_zero, List.set_cons_succ]
    refine wpAnyH_stronger (S2 := fun w' => w'.cell? (a.add q) = some (.int .i64 z) ∧ w'.cell? ⟨M, 0, none⟩ = some (.int .i64 b) ∧ w'.cell? ⟨M, 1, none⟩ = some (.int .i64 k)) (fun _ h => h.1) _ _ _ _ ?_
    replace hHeld : (fun w' => w'.cell? (a.add q) = some (.int .i64 z) ∧ w'.cell? ⟨M, 0, none⟩ = some (.int .i64 b) ∧ w'.cell? ⟨M, 1, none⟩ = some (.int .i64 k)) w9 := ⟨KT.out _ HG.low, HG.c0, HG.c1⟩
    refine wpAnyH_take (i := 12) (v := ?_) (by (simp only [List.getElem?_toArray, List.getElem?_cons_zero, List.getElem?_cons_succ]; exact rfl)) (by kernel_rfl) (by kernel_rfl) (by kernel_rfl) (by exact fun _ _ _ h => h) (Or.inl ⟨by rfl, ?_⟩) (by assumption) ?_
    rotate_left
    · (intro w hSw; (try dsimp only at hSw); first | (go_simp; done) | (go_simp; with_reducible rfl))
    try simp only [Act.put, List.setIfInBounds_toArray, List.set_cons_zero, List.set_cons_succ]
    refine wpAnyH_take (i := 13) (v := ?_) (by (simp only [List.getElem?_toArray, List.getElem?_cons_zero, List.getElem?_cons_succ]; exact rfl)) (by kernel_rfl) (by kernel_rfl) (by kernel_rfl) (by exact fun _ _ _ h => h) (Or.inl ⟨by rfl, ?_⟩) (by assumption) ?_
    rotate_left
    · (intro w hSw; (try dsimp only at hSw); first | (go_simp; done) | (go_simp; with_reducible rfl))
    try simp only [Act.put, List.setIfInBounds_toArray, List.set_cons_zero, List.set_cons_succ]
    refine wpAnyH_take (i := 14) (v := ?_) (by (simp only [List.getElem?_toArray, List.getElem?_cons_zero, List.getElem?_cons_succ]; exact rfl)) (by kernel_rfl) (by kernel_rfl) (by kernel_rfl) (by exact fun _ _ _ h => h) (Or.inl ⟨by rfl, ?_⟩) (by assumption) ?_
    rotate_left
    · (intro w hSw; (try dsimp only at hSw); first | (go_simp; done) | (go_simp; with_reducible rfl))
    try simp only [Act.put, List.setIfInBounds_toArray, List.set_cons_zero, List.set_cons_succ]
    refine wpAnyH_take (i := 16) (v := ?_) (by (simp only [List.getElem?_toArray, List.getElem?_cons_zero, List.getElem?_cons_succ]; exact rfl)) (by kernel_rfl) (by kernel_rfl) (by kernel_rfl) (by exact fun _ _ _ h => h) (Or.inl ⟨by rfl, ?_⟩) (by assumption) ?_
    rotate_left
    · (intro w hSw; (try dsimp only at hSw); first | (go_simp; done) | (go_simp; with_reducible rfl))
    try simp only [Act.put, List.setIfInBounds_toArray, List.set_cons_zero, List.set_cons_succ]
    refine wpAnyH_take (i := 17) (v := ?_) (by (simp only [List.getElem?_toArray, List.getElem?_cons_zero, List.getElem?_cons_succ]; exact rfl)) (by kernel_rfl) (by kernel_rfl) (by kernel_rfl) (by exact fun _ _ _ h => h) (Or.inl ⟨by rfl, ?_⟩) (by assumption) ?_
    rotate_left
    · (intro w hSw; (try dsimp only at hSw); first | (go_simp; done) | (go_simp; with_reducible rfl))
    try simp only [Act.put, List.setIfInBounds_toArray, List.set_cons_zero, List.set_cons_succ]
    refine wpAnyH_take (i := 18) (v := ?_) (by (simp only [List.getElem?_toArray, List.getElem?_cons_zero, List.getElem?_cons_succ]; exact rfl)) (by kernel_rfl) (by kernel_rfl) (by kernel_rfl) (by exact fun _ _ _ h => h) (Or.inl ⟨by rfl, ?_⟩) (by assumption) ?_
    rotate_left
    · (intro w hSw; (try dsimp only at hSw); first | (go_simp; done) | (go_simp; with_reducible rfl))
    try simp only [Act.put, List.setIfInBounds_toArray, List.set_cons_zero, List.set_cons_succ]
    refine wpAnyH_take (i := 19) (v := ?_) (by (simp only [List.getElem?_toArray, List.getElem?_cons_zero, List.getElem?_cons_succ]; exact rfl)) (by kernel_rfl) (by kernel_rfl) (by kernel_rfl) (by exact fun _ _ _ h => h) (Or.inl ⟨by rfl, ?_⟩) (by assumption) ?_
    rotate_left
    · (intro w hSw; (try dsimp only at hSw); first | (go_simp; done) | (go_simp; with_reducible rfl))
    try simp only [Act.put, List.setIfInBounds_toArray, List.set_cons_zero, List.set_cons_succ]
    refine wpAnyH_ready (rs := [15]) (by kernel_rfl) (by simp) ?_
    refine AllReadyH.cons (by (simp only [List.getElem?_toArray, List.getElem?_cons_zero, List.getElem?_cons_succ]; exact rfl)) (fun K hK => ?_) AllReadyH.nil
    go_simp
    (go_at_call 14; refine (A3.out _ N3 HG).mono ?_; rintro e w10 ⟨rfl, HG⟩)
    go_wp2_with fail
    refine hK.out _ _ (⟨KT.out _ HG.low, HG.c0, HG.c1⟩) (fun hHeld => ?_)
    clear hK K
    try simp only [Act.put, List.setIfInBounds_toArray, List.set_cons_zero, List.set_cons_succ]
    refine wpAnyH_take (i := 20) (v := ?_) (by (simp only [List.getElem?_toArray, List.getElem?_cons_zero, List.getElem?_cons_succ]; exact rfl)) (by kernel_rfl) (by kernel_rfl) (by kernel_rfl) (by exact fun _ _ _ h => h) (Or.inl ⟨by rfl, ?_⟩) (by assumption) ?_
    rotate_left
    · (intro w hSw; (try dsimp only at hSw); first | (go_simp; done) | (go_simp; with_reducible rfl))
    try simp only [Act.put, List.setIfInBounds_toArray, List.set_cons_zero, List.set_cons_succ]
    refine wpAnyH_take (i := 21) (v := ?_) (by (simp only [List.getElem?_toArray, List.getElem?_cons_zero, List.getElem?_cons_succ]; exact rfl)) (by kernel_rfl) (by kernel_rfl) (by kernel_rfl) (by exact fun _ _ _ h => h) (Or.inl ⟨by rfl, ?_⟩) (by assumption) ?_
    rotate_left
    · (intro w hSw; (try dsimp only at hSw); first | (go_simp; done) | (go_simp; with_reducible rfl))
    try simp only [Act.put, List.setIfInBounds_toArray, List.set_cons_zero, List.set_cons_succ]
    refine wpAnyH_take (i := 22) (v := ?_) (by (simp only [List.getElem?_toArray, List.getElem?_cons_zero, List.getElem?_cons_succ]; exact rfl)) (by kernel_rfl) (by kernel_rfl) (by kernel_rfl) (by exact fun _ _ _ h => h) (Or.inl ⟨by rfl, ?_⟩) (by assumption) ?_
    rotate_left
    · (intro w hSw; (try dsimp only at hSw); first | (go_simp; done) | (go_simp; with_reducible rfl))
    try simp only [Act.put, List.setIfInBounds_toArray, List.set_cons_zero, List.set_cons_succ]
    refine wpAnyH_take (i := 23) (v := ?_) (by (simp only [List.getElem?_toArray, List.getElem?_cons_zero, List.getElem?_cons_succ]; exact rfl)) (by kernel_rfl) (by kernel_rfl) (by kernel_rfl) (by exact fun _ _ _ h => h) (Or.inl ⟨by rfl, ?_⟩) (by assumption) ?_
    rotate_left
    · (intro w hSw; (try dsimp only at hSw); first | (go_simp; done) | (go_simp; with_reducible rfl))
    try simp only [Act.put, List.setIfInBounds_toArray, List.set_cons_zero, List.set_cons_succ]
    refine wpAnyH_take (i := 25) (v := ?_) (by (simp only [List.getElem?_toArray, List.getElem?_cons_zero, List.getElem?_cons_succ]; exact rfl)) (by kernel_rfl) (by kernel_rfl) (by kernel_rfl) (by exact fun _ _ _ h => h) (Or.inl ⟨by rfl, ?_⟩) (by assumption) ?_
    rotate_left
    · (intro w hSw; (try dsimp only at hSw); first | (go_simp; done) | (go_simp; with_reducible rfl))
    try simp only [Act.put, List.setIfInBounds_toArray, List.set_cons_zero, List.set_cons_succ]
    refine wpAnyH_take (i := 26) (v := ?_) (by (simp only [List.getElem?_toArray, List.getElem?_cons_zero, List.getElem?_cons_succ]; exact rfl)) (by kernel_rfl) (by kernel_rfl) (by kernel_rfl) (by exact fun _ _ _ h => h) (Or.inl ⟨by rfl, ?_⟩) (by assumption) ?_
    rotate_left
    · (intro w hSw; (try dsimp only at hSw); first | (go_simp; done) | (go_simp; with_reducible rfl))
    try simp only [Act.put, List.setIfInBounds_toArray, List.set_cons_zero, List.set_cons_succ]
    refine wpAnyH_take (i := 27) (v := ?_) (by (simp only [List.getElem?_toArray, List.getElem?_cons_zero, List.getElem?_cons_succ]; exact rfl)) (by kernel_rfl) (by kernel_rfl) (by kernel_rfl) (by exact fun _ _ _ h => h) (Or.inl ⟨by rfl, ?_⟩) (by assumption) ?_
    rotate_left
    · (intro w hSw; (try dsimp only at hSw); first | (go_simp; done) | (go_simp; with_reducible rfl))
    try simp only [Act.put, List.setIfInBounds_toArray, List.set_cons_zero, List.set_cons_succ]
    refine wpAnyH_take (i := 28) (v := ?_) (by (simp only [List.getElem?_toArray, List.getElem?_cons_zero, List.getElem?_cons_succ]; exact rfl)) (by kernel_rfl) (by kernel_rfl) (by kernel_rfl) (by exact fun _ _ _ h => h) (Or.inl ⟨by rfl, ?_⟩) (by assumption) ?_
    rotate_left
    · (intro w hSw; (try dsimp only at hSw); first | (go_simp; done) | (go_simp; with_reducible rfl))
    try simp only [Act.put, List.setIfInBounds_toArray, List.set_cons_zero, List.set_cons_succ]
    refine wpAnyH_ready (rs := [24]) (by kernel_rfl) (by simp) ?_
    refine AllReadyH.cons (by (simp only [List.getElem?_toArray, List.getElem?_cons_zero, List.getElem?_cons_succ]; exact rfl)) (fun K hK => ?_) AllReadyH.nil
    go_simp
    (go_at_call 15; refine (A4.out _ N3 HG).mono ?_; rintro e w11 ⟨rfl, HG⟩)
    go_wp2_with fail
    refine hK.out _ _ (⟨KT.out _ HG.low, HG.c0, HG.c1⟩) (fun hHeld => ?_)
    clear hK K
    try simp only [Act.put, List.setIfInBounds_toArray, List.set_cons_zero, List.set_cons_succ]
    refine wpAnyH_take (i := 29) (v := ?_) (by (simp only [List.getElem?_toArray, List.getElem?_cons_zero, List.getElem?_cons_succ]; exact rfl)) (by kernel_rfl) (by kernel_rfl) (by kernel_rfl) (by exact fun _ _ _ h => h) (Or.inl ⟨by rfl, ?_⟩) (by assumption) ?_
    rotate_left
    · (intro w hSw; (try dsimp only at hSw); first | (go_simp; done) | (go_simp; with_reducible rfl))
    try simp only [Act.put, List.setIfInBounds_toArray, List.set_cons_zero, List.set_cons_succ]
    refine wpAnyH_take (i := 30) (v := ?_) (by (simp only [List.getElem?_toArray, List.getElem?_cons_zero, List.getElem?_cons_succ]; exact rfl)) (by kernel_rfl) (by kernel_rfl) (by kernel_rfl) (by exact fun _ _ _ h => h) (Or.inl ⟨by rfl, ?_⟩) (by assumption) ?_
    rotate_left
    · (intro w hSw; (try dsimp only at hSw); first | (go_simp; done) | (go_simp; with_reducible rfl))
    try simp only [Act.put, List.setIfInBounds_toArray, List.set_cons_zero, List.set_cons_succ]
    refine wpAnyH_done (by kernel_rfl) ?_ _
    /- the region: end -/
    have GG := Lib.hid HG
    have OY := Lib.hid BB.out.2.2.1
    clear HG KT A1 A2 A3 A4 hHeld v1 v2 v3 AL
    go_wp2_with fail
    go_loopw [13] (fun i wr => ∃ r : Nat, i = .int .i64 (r : Nat) ∧ Hid (r ≤ n' ∧ r ≤ 4) ∧ Hid (GoW w wr N3 M ⟨b, k⟩ ⟨b, k⟩)) (fun i _ => 1000 - (intOf i).toNat)
    case atStart => exact ⟨0, rfl, ⟨Nat.zero_le _, by decide⟩, GG.out⟩
    case round =>
      clear GG
      obtain ⟨r, rfl, C, J⟩ := hrel
      have r0 : (0 : Int) ≤ (r : Int) := by omega
      have rb : (r : Int) ≤ 4 := by have := C.out.2; omega
      by_cases stop : n' ≤ r ∨ r = 4
      · have stop' : ((n' : Int) ≤ (r : Int) ∧ decide ((r : Int) < (n' : Int)) = false) ∨ ((r : Int) < (n' : Int) ∧ (r : Int) = 4) := by
          rcases stop with s | s
          · exact .inl ⟨by omega, decide_eq_false (by omega)⟩
          · by_cases s2 : n' ≤ r
            · exact .inl ⟨by omega, decide_eq_false (by omega)⟩
            · exact .inr ⟨by omega, by omega⟩
        clear C stop HQ HT OY
        rcases stop' with ⟨s1, s2⟩ | ⟨s1, s2⟩
        all_goals
          go_wp2
          go_roundw
          case rel => exact ⟨N3, q + 1, _, rfl, by go_num, BB.out, J.out⟩
          case measure => simp [intOf]; omega
      have h2 : (r : Int) < (n' : Int) := by omega
      have r3 : (r : Int) < 4 := by omega
      have rn : r < n' := by omega
      have CC : Hid (r + 1 ≤ n' ∧ r + 1 ≤ 4) := ⟨rn, by omega⟩
      obtain ⟨j, u, hu, uj, jn, jb, j0, w1, x1, w2, x2⟩ := turn12_num (q := q) rn q39 r3
      obtain ⟨nz, nz2, nz3, nz4, nz5⟩ := turn12_not rn
      obtain ⟨a2, rfl, cz⟩ := (HQ.out.below J.out.low).atI jn
      obtain ⟨t, ht⟩ : ∃ t, t = ts.getD j 0 := ⟨_, rfl⟩
      have it : I64 t := by
        rw [ht]
        have lq : j < ts.length := by have := HQ.out.len; rw [valsI_len] at this; rw [this]; exact jn
        rw [List.getD_eq_getElem?_getD, List.getElem?_eq_getElem lq]
        exact HT.out _ (List.getElem_mem lq)
      rw [← ht] at cz
      have W1 : Hid (∀ w', GoW w w' N3 M ⟨b, k⟩ ⟨b, k⟩ → Calls Try.prog 16 #[.pointer (some ⟨N3, 0, none⟩), .int .i64 t] w' fun e w'' => e = .returned (.tuple #[.int .i64 (whenN b t), .bool (whenB b t)]) ∧ GoW w w'' N3 M ⟨b, k⟩ ⟨b, k⟩) := fun w' g => (pWhen12_any w' N3 ⟨b, k⟩ t g.c OY.out it).mono fun e w'' ⟨k, l⟩ => ⟨k, g.below l⟩
      have W2 : Hid (∀ w', GoW w w' N3 M ⟨b, k⟩ ⟨b, k⟩ → Calls Try.prog 17 #[.pointer (some ⟨M, 0, none⟩), .int .i64 t] w' fun e w'' => e = .returned (.tuple #[.int .i64 (whenN b t), .bool (whenB b t)]) ∧ GoW w w'' N3 M ⟨b, k⟩ ⟨b, k⟩) := fun w' g => (rWhen12_any w' M ⟨b, k⟩ t g.r OY.out).mono fun e w'' ⟨k, l⟩ => ⟨k, g.below l⟩
      have T1 : Hid (∀ w', GoW w w' N3 M ⟨b, k⟩ ⟨b, k⟩ → Calls Try.prog 18 #[.pointer (some ⟨N3, 0, none⟩), .int .i64 t] w' fun e w'' => e = .returned (.int .i64 (atW b t)) ∧ GoW w w'' N3 M ⟨b, k⟩ ⟨b, k⟩) := fun w' g => (pAt12_any w' N3 ⟨b, k⟩ t g.c OY.out).mono fun e w'' ⟨k, l⟩ => ⟨k, g.below l⟩
      have T2 : Hid (∀ w', GoW w w' N3 M ⟨b, k⟩ ⟨b, k⟩ → Calls Try.prog 19 #[.pointer (some ⟨M, 0, none⟩), .int .i64 t] w' fun e w'' => e = .returned (.int .i64 (atW b t)) ∧ GoW w w'' N3 M ⟨b, k⟩ ⟨b, k⟩) := fun w' g => (rAt12_any w' M ⟨b, k⟩ t g.r OY.out it).mono fun e w'' ⟨k, l⟩ => ⟨k, g.below l⟩
      generalize whenN b t = wn at *
      generalize whenB b t = wb at *
      generalize atW b t = av at *
      have v1 : (wn != wn) = false := by simp
      have v2 : (av != av) = false := by simp
      have v3 : (!(wb == wb)) = false := by simp
      have v4 : (wb != wb) = false := by simp
      clear stop C HQ HT OY BB jn ht it rn
      go_wp2_with fail
      refine (W1.out wr J.out).mono ?_; rintro e w12 ⟨rfl, g⟩
      have J1 := Lib.hid g
      clear g J W1
      go_wp2_with fail
      refine (W2.out w12 J1.out).mono ?_; rintro e w13 ⟨rfl, g⟩
      have J2 := Lib.hid g
      clear g J1 W2
      go_wp2_with fail
      refine (T1.out w13 J2.out).mono ?_; rintro e w14 ⟨rfl, g⟩
      have J3 := Lib.hid g
      clear g J2 T1
      go_wp2_with fail
      refine (T2.out w14 J3.out).mono ?_; rintro e w15 ⟨rfl, g⟩
      have J4 := Lib.hid g
      clear g J3 T2
      go_wp2
      go_roundw
      case rel => exact ⟨r + 1, by go_num, CC.out, J4.out⟩
      case measure => simp [intOf]; omega

theorem goes12_walk (w : World) (s : Int) (p : Option Addr) (n c : Nat) (zs : List Int) (p' : Option Addr) (n' c' : Nat) (ts : List Int) (hp : Holds w p n c (valsI .i64 zs)) (hq : Holds w p' n' c' (valsI .i64 ts)) (hz : ∀ z ∈ zs, I64 z) (ht : ∀ z ∈ ts, I64 z) :
    Calls Try.prog 3 #[.int .i64 s, .slice p n c, .slice p' n' c'] w fun e w' => e = .returned (.bool true) ∧ Below w.heap.size w w' := by
  by_cases g : 0 ≤ s ∧ s ≤ 4611686018427387904
  · exact goes12_ok w s p n c zs p' n' c' ts hp hq hz ht g.1 g.2
  · exact goes12_no w s p n c p' n' c' g
end Go.Proofs.Ytokhlagcflkocaa
