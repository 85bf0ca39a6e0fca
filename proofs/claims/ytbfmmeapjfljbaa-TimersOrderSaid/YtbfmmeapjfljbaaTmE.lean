/- Layer 14 (timers), the program's own: one that is due fires. -/
import Derived.Test.YtbfmmeapjfljbaaTmD
set_option maxRecDepth 100000
namespace Go.Proofs.Ytbfmmeapjfljbaa
open Go.ChangeShapes Go.WideShapes Go.ChangeAt Go.RowKit Go.Maps HeapM

def fdC (f : FdT) : Array Value := #[.int .u64 (f.id : Nat), .bool f.t.ab, .int .i64 f.t.at_, .int .i64 f.t.ev, .int .i64 f.late, .int .i64 f.mis]
def fdV (f : FdT) : Value := .agg #[.int .u64 (f.id : Nat), .bool f.t.ab, .int .i64 f.t.at_, .int .i64 f.t.ev, .int .i64 f.late, .int .i64 f.mis]
theorem sizeFd : (Try.prog.info? 35).map (·.size) = some 6 := by kernel_rfl
/-- One that fired is told. -/
theorem results_fd {fn : Func} {p : Tmp} (h : fn.results = #[.cell p 35]) (tmps : Array Value) (w : World) (N : Nat) (f : FdT)
    (hp : tmps.getD p undef = .pointer (some ⟨N, 0, none⟩)) (hg : w.heap[N]? = some (.cells (fdC f) 35 (0, 0))) :
    (results fn tmps).run Try.prog w = .ok (fdV f) w := by
  have hp' : tmps[p]?.getD undef = .pointer (some ⟨N, 0, none⟩) := by simpa using hp
  have hl : (loadVar 35 ⟨N, 0, none⟩).run Try.prog w = .ok (fdV f) w :=
    run_loadVar_row w N _ _ (fdC f) (0, 0) _ hg Try.underlying35 rfl sizeFd
  simp [results, h, hp', asAddr, hl]

/-- While one fires: its item's box, the result's cell, its timer, what is told of it. -/
structure FirS (w wx : World) (N b bi r bt : Nat) (R : Bool → Nat) (G : Bool → Nat → Prop) (s : TS) (D : DataW Unit) (xi xs : Nat) (k : Bool) (t e : Int) : Prop where
  tm : TmB wx N b R G s.l D s.ad s.ca
  low : Below w.heap.size w wx
  xi : wx.heap[bi]? = some (.cells #[.int .u64 (xi : Nat), .int .u64 (xs : Nat), .int .i64 t] 55 (0, 0))
  xr : wx.heap[r]? = some (.cells #[.int .u64 0, .bool false, .int .i64 0, .int .i64 0, .int .i64 0, .int .i64 0] 35 (0, 0))
  xt : wx.heap[bt]? = some (.cells #[.bool k, .int .i64 t, .int .i64 e] 25 (0, 0))
  nw : w.heap.size ≤ bi ∧ bi < r ∧ r < bt
theorem FirS.below {w wx wy : World} {N b bi r bt : Nat} {R : Bool → Nat} {G : Bool → Nat → Prop} {s : TS} {D : DataW Unit} {xi xs : Nat} {k : Bool} {t e : Int} (h : FirS w wx N b bi r bt R G s D xi xs k t e) (q : Below wx.heap.size wx wy) : FirS w wy N b bi r bt R G s D xi xs k t e :=
  ⟨h.tm.below q, h.low.trans (q.mono h.low.size), (q.block _ (Array.getElem?_eq_some_iff.1 h.xi).1).trans h.xi, (q.block _ (Array.getElem?_eq_some_iff.1 h.xr).1).trans h.xr, (q.block _ (Array.getElem?_eq_some_iff.1 h.xt).1).trans h.xt, h.nw⟩
/-- A result's cell is written. -/
def set6 (w : World) (r : Nat) (f : FdT) : World := (((((w.setCell ⟨r, 0, none⟩ (.int .u64 (f.id : Nat))).setCell ⟨r, 1, none⟩ (.bool f.t.ab)).setCell ⟨r, 2, none⟩ (.int .i64 f.t.at_)).setCell ⟨r, 3, none⟩ (.int .i64 f.t.ev)).setCell ⟨r, 4, none⟩ (.int .i64 f.late)).setCell ⟨r, 5, none⟩ (.int .i64 f.mis)
theorem set6_blk {w : World} {r : Nat} {f : FdT} {a0 a1 a2 a3 a4 a5 : Value} {T : TypeId} (h : w.heap[r]? = some (.cells #[a0, a1, a2, a3, a4, a5] T (0, 0))) : (set6 w r f).heap[r]? = some (.cells (fdC f) T (0, 0)) := by
  unfold set6 fdC
  have h0 : (w.setCell ⟨r, 0, none⟩ (.int .u64 (f.id : Nat))).heap[r]? = some (.cells #[.int .u64 (f.id : Nat), a1, a2, a3, a4, a5] T (0, 0)) := blk_set h
  generalize w.setCell ⟨r, 0, none⟩ (.int .u64 (f.id : Nat)) = w1 at *
  have h1 : (w1.setCell ⟨r, 1, none⟩ (.bool f.t.ab)).heap[r]? = some (.cells #[.int .u64 (f.id : Nat), .bool f.t.ab, a2, a3, a4, a5] T (0, 0)) := blk_set h0
  generalize w1.setCell ⟨r, 1, none⟩ (.bool f.t.ab) = w2 at *
  have h2 : (w2.setCell ⟨r, 2, none⟩ (.int .i64 f.t.at_)).heap[r]? = some (.cells #[.int .u64 (f.id : Nat), .bool f.t.ab, .int .i64 f.t.at_, a3, a4, a5] T (0, 0)) := blk_set h1
  generalize w2.setCell ⟨r, 2, none⟩ (.int .i64 f.t.at_) = w3 at *
  have h3 : (w3.setCell ⟨r, 3, none⟩ (.int .i64 f.t.ev)).heap[r]? = some (.cells #[.int .u64 (f.id : Nat), .bool f.t.ab, .int .i64 f.t.at_, .int .i64 f.t.ev, a4, a5] T (0, 0)) := blk_set h2
  generalize w3.setCell ⟨r, 3, none⟩ (.int .i64 f.t.ev) = w4 at *
  have h4 : (w4.setCell ⟨r, 4, none⟩ (.int .i64 f.late)).heap[r]? = some (.cells #[.int .u64 (f.id : Nat), .bool f.t.ab, .int .i64 f.t.at_, .int .i64 f.t.ev, .int .i64 f.late, a5] T (0, 0)) := blk_set h3
  exact blk_set h4
theorem set6_other (w : World) {r K : Nat} (f : FdT) (h : K ≠ r) : (set6 w r f).heap[K]? = w.heap[K]? := by
  have o : ∀ (w : World) (i : Nat) (v : Value), (w.setCell ⟨r, i, none⟩ v).heap[K]? = w.heap[K]? := fun w i v => Go.Deep.blk_setCell_other _ _ _ _ h
  unfold set6
  rw [o, o, o, o, o, o]
theorem set6_ft {F : Nat → Prop} {w w' : World} (h : FT F w w') {r : Nat} (hr : w.heap.size ≤ r) (f : FdT) : FT F w (set6 w' r f) := by
  unfold set6
  exact (((((h.setNew (a := ⟨r, 0, none⟩) hr _).setNew (a := ⟨r, 1, none⟩) hr _).setNew (a := ⟨r, 2, none⟩) hr _).setNew (a := ⟨r, 3, none⟩) hr _).setNew (a := ⟨r, 4, none⟩) hr _).setNew (a := ⟨r, 5, none⟩) hr _
theorem set6_size (w : World) (r : Nat) (f : FdT) : (set6 w r f).heap.size = w.heap.size := by unfold set6; simp
/-- What is told at the end. -/
theorem fire_tell {w wy w6 : World} {F : Nat → Prop} {N r bf : Nat} {s' : TS} {f : FdT} (lt : ∀ M, F M → M < w.heap.size) (low : Below w.heap.size w wy) (h : TmR wy F N s' w6) (hr : w.heap.size ≤ r ∧ r < bf)
    (xr : wy.heap[r]? = some (.cells #[.int .u64 0, .bool false, .int .i64 0, .int .i64 0, .int .i64 0, .int .i64 0] 35 (0, 0))) (xf : wy.heap[bf]? = some (.cells (fdC f) 35 (0, 0))) :
    w6.heap[r]? = some (.cells #[.int .u64 0, .bool false, .int .i64 0, .int .i64 0, .int .i64 0, .int .i64 0] 35 (0, 0)) ∧ w6.heap[bf]? = some (.cells (fdC f) 35 (0, 0)) ∧ TmR w F N s' (set6 w6 r f) := by
  obtain ⟨F6, h6, t6, n6⟩ := h
  have rl := (Array.getElem?_eq_some_iff.1 xr).1
  have bl := (Array.getElem?_eq_some_iff.1 xf).1
  have nr : ∀ M, F6 M → M ≠ r := fun M hM e => by
    rcases n6 M hM with q | q
    · have := lt M q; omega
    · omega
  refine ⟨(t6.keep r (fun q => by have := lt r q; omega) rl).trans xr, (t6.keep bf (fun q => by have := lt bf q; omega) bl).trans xf, ⟨F6, h6.keep fun M hM => set6_other w6 f (nr M hM), set6_ft ((FT.of_below low).same t6) hr.1 f, fun M hM => ?_⟩⟩
  rcases n6 M hM with q | q
  · exact .inl q
  · exact .inr (Nat.le_trans low.size q)

set_option maxHeartbeats 4000000 in
theorem pfireone14 (w : World) (F : Nat → Prop) (N : Nat) (s : TS) (h : TmP w F N s) (k : Bool) (now : Int) (h0 : 0 < (s.l k).length) (hd : (gt (s.l k) 0).t ≤ now) (hn : now ≤ topT) :
    Calls Try.prog 25 #[.pointer (some ⟨N, 0, none⟩), itV (gt (s.l k) 0), .int .i64 now] w fun r w' => r = .returned (fdV (fireI k (s.ev (gt (s.l k) 0).id) now (gt (s.l k) 0))) ∧ TmR w F N (s.putL k (stepL (s.ev (gt (s.l k) 0).id) now (s.l k))) w' := by
  obtain ⟨b, R, G, D, rfl, T, P, O⟩ := h
  obtain ⟨x, hx⟩ : ∃ x, gt (s.l k) 0 = x := ⟨_, rfl⟩
  have HX := Lib.hid hx
  have gx : x ∈ s.l k := by rw [← hx]; exact gt_mem h0
  have tm := O.tim k x gx
  have ix := O.ids k x gx
  have ev := O.evs x.id
  have sm := O.small
  have d64 : x.id < 18446744073709551616 := by omega
  have at0 := P.at_ k x gx (datT zeroTr)
  rw [hx] at hd ⊢
  obtain ⟨e, he⟩ : ∃ e, s.ev x.id = e := ⟨_, rfl⟩
  have HE := Lib.hid he
  rw [he] at ev at0 ⊢
  obtain ⟨xi, xs, xt⟩ := x
  unfold itV
  dsimp only at hd tm ix d64 at0 ⊢
  have A1 : Below w.heap.size w (w.alloc (.cells #[.int .u64 (xi : Nat), .int .u64 (xs : Nat), .int .i64 xt] 55)) := (Below.refl _ _).alloc (Nat.le_refl _) _
  have HT := Lib.hid T
  have LT := Lib.hid T.lt
  have AT := Lib.hid at0
  clear T
  go_enter Try.func25, Try.ntmps25
  go_upto_region 1 with (fail)
  have A2 : Below w.heap.size w ((w.alloc (.cells #[.int .u64 (xi : Nat), .int .u64 (xs : Nat), .int .i64 xt] 55)).alloc (.cells #[.int .u64 0, .bool false, .int .i64 0, .int .i64 0, .int .i64 0, .int .i64 0] 35)) := A1.alloc A1.size _
  have B1 : Hid (((w.alloc (.cells #[.int .u64 (xi : Nat), .int .u64 (xs : Nat), .int .i64 xt] 55)).alloc (.cells #[.int .u64 0, .bool false, .int .i64 0, .int .i64 0, .int .i64 0, .int .i64 0] 35)).heap[w.heap.size]? = some (.cells #[.int .u64 (xi : Nat), .int .u64 (xs : Nat), .int .i64 xt] 55 (0, 0))) := heap_alloc2_old w _ _
  have B2 : Hid (((w.alloc (.cells #[.int .u64 (xi : Nat), .int .u64 (xs : Nat), .int .i64 xt] 55)).alloc (.cells #[.int .u64 0, .bool false, .int .i64 0, .int .i64 0, .int .i64 0, .int .i64 0] 35)).heap[w.heap.size + 1]? = some (.cells #[.int .u64 0, .bool false, .int .i64 0, .int .i64 0, .int .i64 0, .int .i64 0] 35 (0, 0))) := heap_alloc2_new w _ _
  have H2 := Lib.hid (HT.out.below A2)
  have L2 := Lib.hid A2
  clear A1 A2
  obtain ⟨bi, hbi⟩ : ∃ b, w.heap.size = b := ⟨_, rfl⟩
  obtain ⟨r, hr⟩ : ∃ b, bi + 1 = b := ⟨_, rfl⟩
  have HI : Hid (w.heap.size = bi ∧ bi + 1 = r) := ⟨hbi, hr⟩
  rw [hbi, hr] at B2
  rw [hbi] at B1 ⊢
  rw [hr]
  generalize (w.alloc (.cells #[.int .u64 (xi : Nat), .int .u64 (xs : Nat), .int .i64 xt] 55)).alloc (.cells #[.int .u64 0, .bool false, .int .i64 0, .int .i64 0, .int .i64 0, .int .i64 0] 35) = v at *
  clear hbi hr
  go_cut [7] (fun p wx => ∃ bt, p = .pointer (some ⟨bt, 0, none⟩) ∧ Hid (FirS w wx N b bi r bt R G s D xi xs k xt e))
  case first =>
    have c2 := H2.out.c2
    have x0 := blk_cell (o := 0) B1.out
    simp only [List.getElem?_toArray, List.getElem?_cons_zero] at x0
    have LK := MapT.look1 (w := v.drew) (H2.out.mp) d64 AT.out
    have BZ : Below v.heap.size v (v.alloc (.cells #[.bool false, .int .i64 0, .int .i64 0] 25)) := (Below.refl _ _).alloc (Nat.le_refl _) _
    have c3 := (H2.out.below BZ).c2
    have x3 : (v.alloc (.cells #[.bool false, .int .i64 0, .int .i64 0] 25)).cell? ⟨bi, 0, none⟩ = some (.int .u64 (xi : Nat)) := blk_cell ((BZ.block bi (Array.getElem?_eq_some_iff.1 B1.out).1).trans B1.out)
    have LK3 := MapT.look1 (w := (v.alloc (.cells #[.bool false, .int .i64 0, .int .i64 0] 25)).drew) ((H2.out.below BZ).mp) d64 AT.out
    have FS : Hid (FirS w ((v.alloc (.cells #[.bool k, .int .i64 xt, .int .i64 e] 25)).drew) N b bi r v.heap.size R G s D xi xs k xt e) := by
      have BY : Below v.heap.size v (v.alloc (.cells #[.bool k, .int .i64 xt, .int .i64 e] 25)).drew := ((Below.refl _ _).alloc (Nat.le_refl _) _).drew
      exact ⟨H2.out.below BY, L2.out.trans (BY.mono L2.out.size), (BY.block _ (Array.getElem?_eq_some_iff.1 B1.out).1).trans B1.out, (BY.block _ (Array.getElem?_eq_some_iff.1 B2.out).1).trans B2.out, heap_alloc_new v _, ⟨by have := HI.out; omega, by have := HI.out; omega, (Array.getElem?_eq_some_iff.1 B2.out).1⟩⟩
    unfold trV at LK LK3
    dsimp only at LK LK3
    clear d64 at0 BZ
    go_wp2_with fail
    go_region
    all_goals (go_wp2_with fail; go_meet; exact ⟨_, rfl, FS.out⟩)
  obtain ⟨bt, rfl, F1⟩ := hcut
  clear H2 L2 B1 B2 HI AT at0 d64
  have x0 := blk_cell (o := 0) F1.out.xi
  have t0 := blk_cell (o := 0) F1.out.xt
  have t1 := blk_cell (o := 1) F1.out.xt
  have t2 := blk_cell (o := 2) F1.out.xt
  simp only [List.getElem?_toArray, List.getElem?_cons_zero, List.getElem?_cons_succ] at x0 t0 t1 t2
  obtain ⟨la, hla⟩ : ∃ la, now - xt = la := ⟨_, rfl⟩
  unfold topT at hn tm ev
  have w1 : wrap64 la = la := by unfold wrap64; omega
  have w2 : IntKind.i64.wrap la = la := by rw [IntKind.wrap_i64]; omega
  have HLA := Lib.hid hla
  go_upto_region 3 with (fail)
  have F2 : Hid (FirS w (wc.alloc (.cells #[.int .u64 (xi : Nat), .bool k, .int .i64 xt, .int .i64 e, .int .i64 la, .int .i64 0] 35)) N b bi r bt R G s D xi xs k xt e) := F1.out.below ((Below.refl _ _).alloc (Nat.le_refl _) _)
  have FB : Hid ((wc.alloc (.cells #[.int .u64 (xi : Nat), .bool k, .int .i64 xt, .int .i64 e, .int .i64 la, .int .i64 0] 35)).heap[wc.heap.size]? = some (.cells #[.int .u64 (xi : Nat), .bool k, .int .i64 xt, .int .i64 e, .int .i64 la, .int .i64 0] 35 (0, 0))) := heap_alloc_new _ _
  have BF : Hid (bt < wc.heap.size) := (Array.getElem?_eq_some_iff.1 F1.out.xt).1
  clear F1 x0 t0 t1 t2
  generalize wc.alloc (.cells #[.int .u64 (xi : Nat), .bool k, .int .i64 xt, .int .i64 e, .int .i64 la, .int .i64 0] 35) = v2 at *
  generalize wc.heap.size = bf at *
  have t0 := blk_cell (o := 0) F2.out.xt
  have t1 := blk_cell (o := 1) F2.out.xt
  have t2 := blk_cell (o := 2) F2.out.xt
  have y4 := blk_cell (o := 4) FB.out
  have y5 := blk_cell (o := 5) FB.out
  have z5 := blk_free (o := 5) FB.out
  simp only [List.getElem?_toArray, List.getElem?_cons_zero, List.getElem?_cons_succ] at t0 t1 t2 y4 y5
  go_upto_if 28 with fail
  go_cut [33] (fun _ wx => ∃ m, Hid (m = misI e now ⟨xi, xs, xt⟩) ∧ Hid (FirS w wx N b bi r bt R G s D xi xs k xt e) ∧ Hid (wx.heap[bf]? = some (.cells #[.int .u64 (xi : Nat), .bool k, .int .i64 xt, .int .i64 e, .int .i64 la, .int .i64 m] 35 (0, 0))))
  case first =>
    by_cases z : 0 < e
    · have z1 : decide (0 < e) = true := decide_eq_true z
      have z2 : (e == 0) = false := by rw [beq_eq_false_iff_ne]; omega
      have z3 : ¬ e = 0 := by omega
      obtain ⟨q, hq⟩ : ∃ q, la.tdiv e = q := ⟨_, rfl⟩
      have q1 : q = la / e := by rw [← hq]; exact Int.tdiv_eq_ediv_of_nonneg (by omega)
      have q2 : 0 ≤ q := by rw [q1]; exact Int.ediv_nonneg (by omega) (by omega)
      have q3 : q ≤ la := by rw [q1]; exact Int.ediv_le_self _ (by omega)
      have w3 : wrap64 q = q := by unfold wrap64; omega
      have w4 : IntKind.i64.wrap q = q := by rw [IntKind.wrap_i64]; omega
      have MQ : Hid (q = misI e now ⟨xi, xs, xt⟩) := by unfold Hid misI; rw [if_pos z, q1, ← HLA.out]
      have la0 : 0 ≤ la := by omega
      have FS : Hid (FirS w (v2.setCell ⟨bf, 5, none⟩ (.int .i64 q)) N b bi r bt R G s D xi xs k xt e) := by
        have o : ∀ K, K ≠ bf → (v2.setCell ⟨bf, 5, none⟩ (.int .i64 q)).heap[K]? = v2.heap[K]? := fun K hK => Go.Deep.blk_setCell_other _ _ _ _ hK
        have nw := F2.out.nw
        have BF := BF.out
        refine ⟨F2.out.tm.keep fun M hM => o M (by have := LT.out M hM; omega), F2.out.low.setCell (p := ⟨bf, 5, none⟩) (by show w.heap.size ≤ bf; omega) _, (o bi (by omega)).trans F2.out.xi, (o r (by omega)).trans F2.out.xr, (o bt (by omega)).trans F2.out.xt, nw⟩
      have FB2 : Hid ((v2.setCell ⟨bf, 5, none⟩ (.int .i64 q)).heap[bf]? = some (.cells #[.int .u64 (xi : Nat), .bool k, .int .i64 xt, .int .i64 e, .int .i64 la, .int .i64 q] 35 (0, 0))) := blk_set (o := 5) (u := .int .i64 q) FB.out
      clear q1 q3 hla
      go_wp2_with fail
      go_meet
      exact ⟨q, MQ.out, FS.out, FB2.out⟩
    · have z1 : decide (0 < e) = false := decide_eq_false z
      have MQ : Hid ((0 : Int) = misI e now ⟨xi, xs, xt⟩) := by unfold Hid misI; rw [if_neg z]
      go_wp2_with fail
      go_meet
      exact ⟨0, MQ.out, F2.out, FB.out⟩
  obtain ⟨m, MM, F3, FB3⟩ := hcut
  clear F2 FB t0 t1 t2 y4 y5 z5
  have t0 := blk_cell (o := 0) F3.out.xt
  have t1 := blk_cell (o := 1) F3.out.xt
  have t2 := blk_cell (o := 2) F3.out.xt
  have y5 := blk_cell (o := 5) FB3.out
  simp only [List.getElem?_toArray, List.getElem?_cons_zero, List.getElem?_cons_succ] at t0 t1 t2 y5
  have mm := mis_mul (e := e) (now := now) (x := ⟨xi, xs, xt⟩) ev.1 hd
  rw [← MM.out] at mm
  dsimp only at mm
  obtain ⟨p, hp⟩ : ∃ p, m * e = p := ⟨_, rfl⟩
  rw [hp] at mm
  have PL : Hid (place (s.l k) xi = some 0) := place_of (O.nod k) h0 (by rw [hx])
  have EF : Hid (fireI k e now ⟨xi, xs, xt⟩ = ⟨xi, ⟨k, xt, e⟩, la, m⟩) := by unfold Hid fireI; rw [← MM.out]; dsimp only; rw [HLA.out]
  have PO : Hid (TlD D s ∧ s.Ok) := ⟨P, O⟩
  have NW : Hid (w.heap.size ≤ r ∧ r < bf) := by have := F3.out.nw; have := BF.out; unfold Hid; omega
  have XSC : Hid (xs ≤ s.ca) := ix.2.2
  by_cases g : e = 0 ∨ 4611686018427387904 - (xt + p) < e
  · have NI : Hid (s.putL k (stepL e now (s.l k)) = ⟨updB s.l k (remL (s.l k) 0), s.ev, s.ad, s.ca⟩) := by
      have : nextI e now (gt (s.l k) 0) = none := by
        rw [hx]; unfold nextI; rw [← MM.out]; dsimp only; rw [hp]; exact if_pos g
      unfold Hid TS.putL stepL
      rw [this]
    have NX : Hid (∀ w', Calls Try.prog 32 #[.agg #[.bool k, .int .i64 xt, .int .i64 e], .int .i64 m] w' (NextP w' 0 false)) := fun w' => pnext14_no w' k xt e m p hp tm.1 mm.2.1 (by omega) ev.1 ev.2 g
    clear g mm tm hn hd ev hla w1 w2 hp h0 hx gx ix sm P O MM XSC
    go_wp2_with (first
      | (go_at_call 32; refine (NX.out _).mono ?_; rintro e w5 ⟨rfl, l5⟩; have F5 := Lib.hid (F3.out.below l5); have FB5 := Lib.hid ((l5.block _ (Array.getElem?_eq_some_iff.1 FB3.out).1).trans FB3.out);
          have x0 := blk_cell (o := 0) F5.out.xi; have t0 := blk_cell (o := 0) F5.out.xt; have t1 := blk_cell (o := 1) F5.out.xt; have t2 := blk_cell (o := 2) F5.out.xt;
          simp only [List.getElem?_toArray, List.getElem?_cons_zero, List.getElem?_cons_succ] at x0 t0 t1 t2; clear l5 F3 FB3 NX)
      | fail)
    refine (pdrop14 _ _ N s ⟨b, R, G, D, rfl, F5.out.tm, PO.out.1, PO.out.2⟩ k xi 0 xt e PL.out).mono ?_; rintro e6 w6 ⟨rfl, R6⟩
    have TL := Lib.hid (fire_tell (f := ⟨xi, ⟨k, xt, e⟩, la, m⟩) LT.out F5.out.low R6 NW.out F5.out.xr FB5.out)
    clear R6 F5 FB5 x0 t0 t1 t2
    have y0 := blk_cell (o := 0) TL.out.2.1
    have y1 := blk_cell (o := 1) TL.out.2.1
    have y2 := blk_cell (o := 2) TL.out.2.1
    have y3 := blk_cell (o := 3) TL.out.2.1
    have y4 := blk_cell (o := 4) TL.out.2.1
    have y5 := blk_cell (o := 5) TL.out.2.1
    have z0 := blk_cell (o := 0) TL.out.1
    have z1 := blk_cell (o := 1) TL.out.1
    have z2 := blk_cell (o := 2) TL.out.1
    have z3 := blk_cell (o := 3) TL.out.1
    have z4 := blk_cell (o := 4) TL.out.1
    have z5 := blk_cell (o := 5) TL.out.1
    have f0 := blk_free (o := 0) TL.out.1
    have f1 := blk_free (o := 1) TL.out.1
    have f2 := blk_free (o := 2) TL.out.1
    have f3 := blk_free (o := 3) TL.out.1
    have f4 := blk_free (o := 4) TL.out.1
    have f5 := blk_free (o := 5) TL.out.1
    unfold fdC at y0 y1 y2 y3 y4 y5
    simp only [List.getElem?_toArray, List.getElem?_cons_zero, List.getElem?_cons_succ] at y0 y1 y2 y3 y4 y5 z0 z1 z2 z3 z4 z5
    have BB := Lib.hid (set6_blk (f := ⟨xi, ⟨k, xt, e⟩, la, m⟩) TL.out.1)
    have RR := Lib.hid TL.out.2.2
    clear TL
    go_wp2
    (try simp only [Exit.inBlock, Exit.then])
    refine bodyPost_ret (results_fd rfl _ _ r ⟨xi, ⟨k, xt, e⟩, la, m⟩ rfl BB.out) rfl ?_
    rw [EF.out, NI.out]
    exact ⟨rfl, RR.out⟩
  · obtain ⟨vv, hvv⟩ : ∃ vv, xt + p + e = vv := ⟨_, rfl⟩
    have NI : Hid (s.putL k (stepL e now (s.l k)) = ⟨updB s.l k (setL (s.l k) 0 ⟨xi, xs, vv⟩), updN s.ev xi e, s.ad, s.ca⟩) := by
      have : nextI e now (gt (s.l k) 0) = some ⟨xi, xs, vv⟩ := by
        rw [hx]; unfold nextI; rw [← MM.out]; dsimp only; rw [hp, ← hvv]; exact if_neg g
      unfold Hid TS.putL stepL
      rw [this, ← he, updN_self]
    have g1 : e ≠ 0 := fun q => g (.inl q)
    have g2 : e ≤ 4611686018427387904 - (xt + p) := by have : ¬ 4611686018427387904 - (xt + p) < e := fun q => g (.inr q); omega
    have NX : Hid (∀ w', Calls Try.prog 32 #[.agg #[.bool k, .int .i64 xt, .int .i64 e], .int .i64 m] w' (NextP w' vv true)) := fun w' => pnext14_yes w' k xt e m p vv hp tm.1 mm.2.1 (by omega) ev.1 ev.2 g1 g2 hvv
    have VB : Hid (0 ≤ vv ∧ vv ≤ topT ∧ 0 ≤ e ∧ e ≤ topT) := by unfold Hid topT; omega
    clear g g1 g2 hvv mm tm hn hd ev hla w1 w2 hp h0 hx gx ix sm P O MM
    go_wp2_with (first
      | (go_at_call 32; refine (NX.out _).mono ?_; rintro e w5 ⟨rfl, l5⟩; have F5 := Lib.hid (F3.out.below l5); have FB5 := Lib.hid ((l5.block _ (Array.getElem?_eq_some_iff.1 FB3.out).1).trans FB3.out);
          have x0 := blk_cell (o := 0) F5.out.xi; have x1 := blk_cell (o := 1) F5.out.xi; have t0 := blk_cell (o := 0) F5.out.xt; have t1 := blk_cell (o := 1) F5.out.xt; have t2 := blk_cell (o := 2) F5.out.xt; have g1 := blk_free (o := 1) F5.out.xt;
          have x6 : (w5.setCell ⟨bt, 1, none⟩ (.int .i64 vv)).cell? ⟨bi, 1, none⟩ = some (.int .u64 (xs : Nat)) := blk_cell ((Go.Deep.blk_setCell_other _ _ _ _ (show bi ≠ bt by have := F5.out.nw; omega)).trans F5.out.xi);
          simp only [List.getElem?_toArray, List.getElem?_cons_zero, List.getElem?_cons_succ] at x0 x1 t0 t1 t2; clear l5 F3 FB3 NX)
      | fail)
    have T6 : TmP (w5.setCell ⟨bt, 1, none⟩ (.int .i64 vv)) (FF N b G) N s := ⟨b, R, G, D, rfl, F5.out.tm.keep fun M hM => Go.Deep.blk_setCell_other _ _ _ _ (show M ≠ bt by have := LT.out M hM; have := F5.out.nw; omega), PO.out.1, PO.out.2⟩
    have low6 : Below w.heap.size w (w5.setCell ⟨bt, 1, none⟩ (.int .i64 vv)) := F5.out.low.setCell (p := ⟨bt, 1, none⟩) (by show w.heap.size ≤ bt; have := F5.out.nw; omega) _
    have xr6 : (w5.setCell ⟨bt, 1, none⟩ (.int .i64 vv)).heap[r]? = _ := (Go.Deep.blk_setCell_other _ _ _ _ (show r ≠ bt by have := F5.out.nw; omega)).trans F5.out.xr
    have xf6 : (w5.setCell ⟨bt, 1, none⟩ (.int .i64 vv)).heap[bf]? = _ := (Go.Deep.blk_setCell_other _ _ _ _ (show bf ≠ bt by have := BF.out; omega)).trans FB5.out
    refine (pset14 _ _ N s T6 k xi xs 0 vv e PL.out VB.out.1 VB.out.2.1 VB.out.2.2.1 VB.out.2.2.2 XSC.out).mono ?_; rintro e6 w6 ⟨rfl, R6⟩
    have TL := Lib.hid (fire_tell (f := ⟨xi, ⟨k, xt, e⟩, la, m⟩) LT.out low6 R6 NW.out xr6 xf6)
    clear R6 F5 FB5 x0 x1 t0 t1 t2 x6 g1 T6 low6 xr6 xf6
    have y0 := blk_cell (o := 0) TL.out.2.1
    have y1 := blk_cell (o := 1) TL.out.2.1
    have y2 := blk_cell (o := 2) TL.out.2.1
    have y3 := blk_cell (o := 3) TL.out.2.1
    have y4 := blk_cell (o := 4) TL.out.2.1
    have y5 := blk_cell (o := 5) TL.out.2.1
    have z0 := blk_cell (o := 0) TL.out.1
    have z1 := blk_cell (o := 1) TL.out.1
    have z2 := blk_cell (o := 2) TL.out.1
    have z3 := blk_cell (o := 3) TL.out.1
    have z4 := blk_cell (o := 4) TL.out.1
    have z5 := blk_cell (o := 5) TL.out.1
    have f0 := blk_free (o := 0) TL.out.1
    have f1 := blk_free (o := 1) TL.out.1
    have f2 := blk_free (o := 2) TL.out.1
    have f3 := blk_free (o := 3) TL.out.1
    have f4 := blk_free (o := 4) TL.out.1
    have f5 := blk_free (o := 5) TL.out.1
    unfold fdC at y0 y1 y2 y3 y4 y5
    simp only [List.getElem?_toArray, List.getElem?_cons_zero, List.getElem?_cons_succ] at y0 y1 y2 y3 y4 y5 z0 z1 z2 z3 z4 z5
    have BB := Lib.hid (set6_blk (f := ⟨xi, ⟨k, xt, e⟩, la, m⟩) TL.out.1)
    have RR := Lib.hid TL.out.2.2
    clear TL
    go_wp2
    (try simp only [Exit.inBlock, Exit.then])
    refine bodyPost_ret (results_fd rfl _ _ r ⟨xi, ⟨k, xt, e⟩, la, m⟩ rfl BB.out) rfl ?_
    rw [EF.out, NI.out]
    exact ⟨rfl, RR.out⟩
end Go.Proofs.Ytbfmmeapjfljbaa
