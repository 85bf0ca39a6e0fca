/- Layer 13 (heap), the document's own: Remove, Pop. -/
import Derived.Test.YtlfbenlojiiknaaHeapF
set_option maxRecDepth 100000
namespace Go.Proofs.Ytlfbenlojiiknaa
open Go.ChangeShapes Go.WideShapes Go.ChangeAt Go.RowKit HeapM

theorem sizeItm : (Try.prog.info? 38).map (·.size) = some 3 := by kernel_rfl
/-- An item and one more are told. -/
theorem results_itm {fn : Func} {p u : Tmp} (h : fn.results = #[.cell p 38, .tmp u]) (tmps : Array Value) (w : World) (N : Nat) (x : It)
    (hp : tmps.getD p undef = .pointer (some ⟨N, 0, none⟩)) (hg : w.heap[N]? = some (.cells (itC x) 38 (0, 0))) :
    (results fn tmps).run Try.prog w = .ok (.tuple #[itV x, tmps.getD u undef]) w := by
  have hp' : tmps[p]?.getD undef = .pointer (some ⟨N, 0, none⟩) := by simpa using hp
  have hl : (loadVar 38 ⟨N, 0, none⟩).run Try.prog w = .ok (itV x) w :=
    run_loadVar_row w N _ _ _ (0, 0) _ hg Try.underlying38 rfl sizeItm
  simp [results, h, hp', asAddr, hl]
theorem blk_itm {w : World} {N : Nat} {x y z : Value} {T : TypeId} (h : w.heap[N]? = some (.cells #[x, y, z] T (0, 0))) (a b c : Value) :
    (((w.setCell ⟨N, 0, none⟩ a).setCell ⟨N, 1, none⟩ b).setCell ⟨N, 2, none⟩ c).heap[N]? = some (.cells #[a, b, c] T (0, 0)) := by
  have h1 : (w.setCell ⟨N, 0, none⟩ a).heap[N]? = some (.cells #[a, y, z] T (0, 0)) := blk_set h
  have h2 : ((w.setCell ⟨N, 0, none⟩ a).setCell ⟨N, 1, none⟩ b).heap[N]? = some (.cells #[a, b, z] T (0, 0)) := blk_set h1
  exact blk_set h2
theorem three_far (w : World) {N M : Nat} (h : M ≠ N) (a b c : Value) : (((w.setCell ⟨N, 0, none⟩ a).setCell ⟨N, 1, none⟩ b).setCell ⟨N, 2, none⟩ c).heap[M]? = w.heap[M]? :=
  (Go.Deep.blk_setCell_other _ _ _ _ h).trans ((Go.Deep.blk_setCell_other _ _ _ _ h).trans (Go.Deep.blk_setCell_other _ _ _ _ h))
theorem HTurn.setNew {M o N : Nat} {p : Option Addr} {w w' : World} (h : HTurn M p w w') (hN : w.heap.size ≤ N) (v : Value) : HTurn M p w (w'.setCell ⟨N, o, none⟩ v) :=
  ⟨fun K h1 h2 h3 => (Below.heap_setCell w' ⟨N, o, none⟩ v K (show K ≠ N by omega)).trans (h.keep K h1 h2 h3), fun B h1 h2 h3 => (h.low B h1 h2 h3).setCell (show B ≤ N by omega) v, by have := h.size; simpa using this⟩

/-- What Remove tells, and what it makes. -/
def remE (l : List It) (d : Nat) : Int := if (place l d).isSome then 0 else 6
def remX (l : List It) (d : Nat) : It := match place l d with | some k => gt l k | none => zeroI
def remR (l : List It) (d : Nat) : List It := match place l d with | some k => remL l k | none => l
theorem rem_none {l : List It} {d : Nat} (h : place l d = none) : remE l d = 6 ∧ remX l d = zeroI ∧ remR l d = l := by unfold remE remX remR; rw [h]; exact ⟨rfl, rfl, rfl⟩
theorem rem_some {l : List It} {d k : Nat} (h : place l d = some k) : remE l d = 0 ∧ remX l d = gt l k ∧ remR l d = remL l k := by unfold remE remX remR; rw [h]; exact ⟨rfl, rfl, rfl⟩
def RRemP (w : World) (M : Nat) (p : Option Addr) (sz : Int) (l : List It) (x : It) (n : Int) (e : Ending) (w' : World) : Prop := e = .returned (.tuple #[itV x, .int .i64 n]) ∧ RHpP w M p sz l w'

theorem own_take {w : World} {T : TypeId} {B n c m : Nat} {a : Addr} {l : List It} (h : OwnI w T B (some a) n c l) (hm : m ≤ n) : OwnI w T B (some a) m c (l.take m) := by
  have hl := h.1
  rw [cellsI_len] at hl
  have ln : l.length = n := by omega
  have ct : ∀ (l : List It) (m : Nat), cellsI (l.take m) = (cellsI l).take (m * 3) := by
    intro l
    induction l with
    | nil => intro m; simp [cellsI]
    | cons x xs ih =>
      intro m
      cases m with
      | zero => simp [cellsI]
      | succ m => rw [List.take_succ_cons, cellsI_cons, cellsI_cons, ih, show (m + 1) * 3 = m * 3 + 1 + 1 + 1 by omega]; rfl
  refine ⟨by rw [cellsI_len, List.length_take]; omega, ?_⟩
  rcases h.2 with ⟨e, -⟩ | ⟨g, cap, cur, e, hb, hg, h1, h2, h3, h4⟩
  · injection e with e1 _ _; cases e1
  · injection e with e1 _ e3
    injection e1 with e1
    subst e1 e3
    exact .inr ⟨g, c, cur, rfl, hb, hg, by omega, h2, h3, by rw [ct, ← h4, List.take_take]; congr 1; omega⟩

/-- The result cell is written. -/
theorem tell_item {w wr : World} {M c : Nat} {a : Addr} {sz : Int} {m : List It} {r : Nat} (hp : RHp wr M (some a) c sz m) (nr : w.heap.size ≤ r) (nm : M < w.heap.size ∧ a.block < w.heap.size) (t : HTurn M (some a) w wr) (u0 u1 u2 : Value) :
    RHpP w M (some a) sz m (((wr.setCell ⟨r, 0, none⟩ u0).setCell ⟨r, 1, none⟩ u1).setCell ⟨r, 2, none⟩ u2) := by
  refine ⟨some a, c, ⟨?_, ?_, hp.far, hp.fit⟩, ((t.setNew nr _).setNew nr _).setNew nr _, .inl rfl⟩
  · rw [three_far _ (by omega)]; exact hp.b
  · exact hp.o.keep fun a' ha => by injection ha with ha; rw [← ha]; exact three_far _ (by omega) _ _ _
/-- What stands when an item was taken out: the heap, and three new blocks. -/
structure RemS (w wr : World) (M : Nat) (a : Addr) (c : Nat) (sz : Int) (m : List It) (r b7 b9 : Nat) (x y : It) : Prop where
  hp : RHp wr M (some a) c sz m
  r0 : wr.heap[r]? = some (.cells #[.int .u64 0, .int .u64 0, .int .i64 0] 38 (0, 0))
  x7 : wr.heap[b7]? = some (.cells (itC x) 38 (0, 0))
  y9 : wr.heap[b9]? = some (.cells (itC y) 38 (0, 0))
  nr : w.heap.size ≤ r ∧ w.heap.size ≤ b7 ∧ w.heap.size ≤ b9
  nm : M < w.heap.size ∧ a.block < w.heap.size
  t : HTurn M (some a) w wr
theorem RemS.turn {w wr w' : World} {M c : Nat} {a : Addr} {sz : Int} {m m' : List It} {r b7 b9 : Nat} {x y : It} (s : RemS w wr M a c sz m r b7 b9 x y) (t : Turn a.block wr w') (h : RHp w' M (some a) c sz m') : RemS w w' M a c sz m' r b7 b9 x y := by
  have nr := s.nr
  have nm := s.nm
  have k : ∀ N o, w.heap.size ≤ N → wr.heap[N]? = some o → w'.heap[N]? = some o := fun N o hN hg => (t.keep N (by omega) (Array.getElem?_eq_some_iff.1 hg).1).trans hg
  exact ⟨h, k _ _ nr.1 s.r0, k _ _ nr.2.1 s.x7, k _ _ nr.2.2 s.y9, nr, nm, s.t.trans (HTurn.of_turn t) (.inl rfl)⟩
theorem RemS.drew {w wr : World} {M c : Nat} {a : Addr} {sz : Int} {m : List It} {r b7 b9 : Nat} {x y : It} (s : RemS w wr M a c sz m r b7 b9 x y) : RemS w wr.drew M a c sz m r b7 b9 x y := s.turn (Turn.of_below (Below.refl _ _).drew) (s.hp.below (Below.refl _ _).drew)

set_option maxHeartbeats 4000000 in
theorem rremove13_any (w : World) (M : Nat) (p : Option Addr) (c : Nat) (sz : Int) (l : List It) (d : Nat) (h : RHp w M p c sz l) :
    Calls Try.prog 18 #[.pointer (some ⟨M, 0, none⟩), .int .u64 (d : Nat)] w (RRemP w M p sz (remR l d) (remX l d) (remE l d)) := by
  have AL : Below w.heap.size w (w.alloc (.cells #[.int .u64 0, .int .u64 0, .int .i64 0] 38)) := (Below.refl _ _).alloc (Nat.le_refl _) _
  have BR : Hid ((w.alloc (.cells #[.int .u64 0, .int .u64 0, .int .i64 0] 38)).heap[w.heap.size]? = some (.cells #[.int .u64 0, .int .u64 0, .int .i64 0] 38 (0, 0))) := heap_alloc_new _ _
  have H1 := Lib.hid (h.below AL)
  have PL := Lib.hid (rplace13_any _ M p c sz l d (h.below AL))
  have L1 := Lib.hid AL
  have fit := h.fit
  have H0 := Lib.hid h
  clear h AL
  cases hp : place l d with
  | none =>
    have F : Hid (∀ w', Below w.heap.size w w' → RRemP w M p sz (remR l d) (remX l d) (remE l d) (.returned (.tuple #[itV zeroI, .int .i64 6])) w') := fun w' b => by
      rw [(rem_none hp).1, (rem_none hp).2.1, (rem_none hp).2.2]
      exact ⟨rfl, RHpP.same H0.out b⟩
    rw [placeI_none hp] at PL
    have r0 := blk_cell (o := 0) BR.out
    have r1 := blk_cell (o := 1) BR.out
    have r2 := blk_cell (o := 2) BR.out
    have f0 := blk_free (o := 0) BR.out
    have f1 := blk_free (o := 1) BR.out
    have f2 := blk_free (o := 2) BR.out
    simp only [List.getElem?_toArray, List.getElem?_cons_zero, List.getElem?_cons_succ] at r0 r1 r2
    clear hp H1 fit H0
    go_enter Try.func18, Try.ntmps18
    go_wp2_with fail
    refine PL.out.mono ?_; rintro e w1 ⟨rfl, rfl⟩
    go_wp2
    refine bodyPost_ret (results_itm rfl _ _ w.heap.size zeroI rfl BR.out) rfl ?_
    exact F.out _ L1.out
  | some k =>
    have pk := place_some hp
    obtain ⟨a, rfl⟩ := H0.out.row (by omega)
    have F : Hid (∀ w', RHpP w M (some a) sz (remL l k) w' → RRemP w M (some a) sz (remR l d) (remX l d) (remE l d) (.returned (.tuple #[itV (gt l k), .int .i64 0])) w') := fun w' b => by
      rw [(rem_some hp).1, (rem_some hp).2.1, (rem_some hp).2.2]
      exact ⟨rfl, b⟩
    rw [placeI_some hp] at PL
    obtain ⟨n, hn⟩ : ∃ n, l.length = n := ⟨_, rfl⟩
    have HN := Lib.hid hn
    rw [hn] at fit
    have kn : k < n := by have := pk.1; omega
    obtain ⟨m, hm⟩ : ∃ m, n = m + 1 := ⟨n - 1, by omega⟩
    have HM := Lib.hid hm
    obtain ⟨x, hx⟩ : ∃ x, gt l k = x := ⟨_, rfl⟩
    obtain ⟨y, hy⟩ : ∃ y, gt l m = y := ⟨_, rfl⟩
    rw [hx] at F
    have k0 : (0 : Int) ≤ (k : Int) := by omega
    have kI : (k : Int) < (n : Int) := by omega
    have m0 : (0 : Int) ≤ (m : Int) := by omega
    have mI : (m : Int) < (n : Int) := by omega
    have KL : Hid (k < l.length) := pk.1
    have ML : Hid (m < l.length) := by unfold Hid; omega
    have NM : Hid (M < w.heap.size ∧ a.block < w.heap.size ∧ a.block ≠ M) := ⟨(Array.getElem?_eq_some_iff.1 H0.out.b).1, H0.out.o.lt, H0.out.far a rfl⟩
    -- the worlds of the three boxes
    have A2 : Below (w.alloc (.cells #[.int .u64 0, .int .u64 0, .int .i64 0] 38)).heap.size (w.alloc (.cells #[.int .u64 0, .int .u64 0, .int .i64 0] 38)) ((w.alloc (.cells #[.int .u64 0, .int .u64 0, .int .i64 0] 38)).alloc (.cells (itC x) 38)) := (Below.refl _ _).alloc (Nat.le_refl _) _
    have X2 : Hid (((w.alloc (.cells #[.int .u64 0, .int .u64 0, .int .i64 0] 38)).alloc (.cells (itC x) 38)).heap[(w.alloc (.cells #[.int .u64 0, .int .u64 0, .int .i64 0] 38)).heap.size]? = some (.cells (itC x) 38 (0, 0))) := heap_alloc_new _ _
    have c0 := blk_cell (o := 0) H1.out.b
    rw [hn] at c0
    simp only [List.getElem?_toArray, List.getElem?_cons_zero] at c0
    obtain ⟨q1, q2, q3⟩ := own_at H1.out.o KL.out
    rw [hx] at q1 q2 q3
    have XY : Hid (gt l k = x ∧ gt l m = y) := ⟨hx, hy⟩
    have u1 : (n : Int) - 1 = (m : Int) := by omega
    have u2 : wrap64 (m : Int) = (m : Int) := by unfold wrap64; omega
    have u3 : IntKind.i64.wrap (m : Int) = (m : Int) := by rw [IntKind.wrap_i64]; omega
    obtain ⟨xi, xs, xt⟩ := x
    unfold itC at A2 X2
    dsimp only at A2 X2 q1 q2 q3
    generalize hW1 : w.alloc (.cells #[.int .u64 0, .int .u64 0, .int .i64 0] 38) = w1 at *
    clear hp hn pk hx hy hm
    go_enter Try.func18, Try.ntmps18
    go_wp2_with fail
    refine PL.out.mono ?_; rintro e wz ⟨rfl, rfl⟩
    have W1 : Hid (w1.heap.size = w.heap.size + 1 ∧ Below w.heap.size w w1) := ⟨by rw [← hW1]; simp, L1.out⟩
    clear hW1 PL
    go_upto_region 5 with (fail)
    have H2 := Lib.hid (H1.out.below A2)
    have R2 : Hid ((w1.alloc (.cells #[.int .u64 (xi : Nat), .int .u64 (xs : Nat), .int .i64 xt] 38)).heap[w.heap.size]? = some (.cells #[.int .u64 0, .int .u64 0, .int .i64 0] 38 (0, 0))) := (A2.block _ (Array.getElem?_eq_some_iff.1 BR.out).1).trans BR.out
    have W2 : Hid ((w1.alloc (.cells #[.int .u64 (xi : Nat), .int .u64 (xs : Nat), .int .i64 xt] 38)).heap.size = w1.heap.size + 1 ∧ Below w.heap.size w (w1.alloc (.cells #[.int .u64 (xi : Nat), .int .u64 (xs : Nat), .int .i64 xt] 38))) := ⟨by simp, W1.out.2.trans (A2.mono W1.out.2.size)⟩
    clear A2 H1 BR c0 q1 q2 q3 L1
    generalize w1.alloc (.cells #[.int .u64 (xi : Nat), .int .u64 (xs : Nat), .int .i64 xt] 38) = w2 at *
    have A3 : Below w2.heap.size w2 (w2.alloc (.cells (itC y) 38)) := (Below.refl _ _).alloc (Nat.le_refl _) _
    have Y3 : Hid ((w2.alloc (.cells (itC y) 38)).heap[w2.heap.size]? = some (.cells (itC y) 38 (0, 0))) := heap_alloc_new _ _
    have c0 := blk_cell (o := 0) H2.out.b
    rw [HN.out] at c0
    simp only [List.getElem?_toArray, List.getElem?_cons_zero] at c0
    obtain ⟨q1, q2, q3⟩ := own_at H2.out.o ML.out
    rw [XY.out.2] at q1 q2 q3
    have S3 : Hid (RemS w (w2.alloc (.cells (itC y) 38)) M a c sz l w.heap.size w1.heap.size w2.heap.size ⟨xi, xs, xt⟩ y) :=
      ⟨H2.out.below A3, (A3.block _ (Array.getElem?_eq_some_iff.1 R2.out).1).trans R2.out, (A3.block _ (Array.getElem?_eq_some_iff.1 X2.out).1).trans X2.out, Y3.out, ⟨Nat.le_refl _, by have := W1.out.1; omega, by have := W1.out.1; have := W2.out.1; omega⟩, ⟨NM.out.1, NM.out.2.1⟩, HTurn.of_below (W2.out.2.trans (A3.mono W2.out.2.size))⟩
    obtain ⟨yi, ys, yt⟩ := y
    unfold itC at A3 Y3 S3
    dsimp only at A3 Y3 S3 q1 q2 q3
    go_upto_region 7 with (fail)
    have MC : Hid (m ≤ c) := by have := H2.out.o.holds.cap; have := HN.out; have := HM.out; unfold Hid; omega
    clear H2 R2 X2 A3 Y3 c0 q1 q2 q3
    generalize w2.alloc (.cells #[.int .u64 (yi : Nat), .int .u64 (ys : Nat), .int .i64 yt] 38) = w3 at *
    clear W1 W2
    generalize w1.heap.size = b7 at *
    generalize w2.heap.size = b9 at *
    generalize w.heap.size = r at S3 ⊢
    have c0 := blk_cell (o := 0) S3.out.hp.b
    have g0 := blk_free (o := 0) S3.out.hp.b
    rw [HN.out] at c0
    simp only [List.getElem?_toArray, List.getElem?_cons_zero] at c0
    have mc : (m : Int) ≤ (c : Int) := by have := MC.out; omega
    have S4 : Hid (RemS w (w3.setCell ⟨M, 0, none⟩ (.slice (some a) m c)) M a c sz (l.take m) r b7 b9 ⟨xi, xs, xt⟩ ⟨yi, ys, yt⟩) := by
      have s := S3.out
      have nr := s.nr
      have nm := s.nm
      have tl : (l.take m).length = m := by rw [List.length_take]; have := HN.out; have := HM.out; omega
      have ot := own_take s.hp.o (m := m) (by have := HN.out; have := HM.out; omega)
      refine ⟨⟨?_, ?_, s.hp.far, by have := s.hp.fit; rw [tl]; have := HN.out; have := HM.out; omega⟩, ?_, ?_, ?_, nr, nm, s.t.set _⟩
      · rw [tl]; exact blk_set s.hp.b
      · rw [tl]
        exact ot.keep fun a' ha => by injection ha with ha; rw [← ha]; exact Go.Deep.blk_setCell_other _ _ _ _ NM.out.2.2
      · exact (Go.Deep.blk_setCell_other _ _ _ _ (show r ≠ M by omega)).trans s.r0
      · exact (Go.Deep.blk_setCell_other _ _ _ _ (show b7 ≠ M by omega)).trans s.x7
      · exact (Go.Deep.blk_setCell_other _ _ _ _ (show b9 ≠ M by omega)).trans s.y9
    go_upto_region 8 with (fail)
    clear c0 g0 S3
    generalize w3.setCell ⟨M, 0, none⟩ (.slice (some a) m c) = w4 at *
    by_cases km : k < m
    · have d1 : (k : Int) < (m : Int) := by omega
      have d2 : decide ((k : Int) < (m : Int)) = true := decide_eq_true d1
      have RE : Hid (remL l k = settleL ((l.take m).set k ⟨yi, ys, yt⟩) k) := by
        unfold Hid remL
        rw [HN.out, HM.out, show m + 1 - 1 = m by omega, if_pos km, XY.out.2]
      have TL : Hid ((l.take m).length = m) := by unfold Hid; rw [List.length_take]; have := HN.out; have := HM.out; omega
      have KT : Hid (k < (l.take m).length) := by unfold Hid; rw [TL.out]; exact km
      have c0 := blk_cell (o := 0) S4.out.hp.b
      rw [TL.out] at c0
      simp only [List.getElem?_toArray, List.getElem?_cons_zero] at c0
      obtain ⟨q1, q2, q3⟩ := own_at S4.out.hp.o KT.out
      obtain ⟨f0, f1, f2⟩ := own_free S4.out.hp.o k
      obtain ⟨s1, s2⟩ := set3_mid q2 q3 (.int .u64 (yi : Nat)) (.int .u64 (ys : Nat))
      have y0 := blk_cell (o := 0) S4.out.y9
      have y1 := blk_cell (o := 1) S4.out.y9
      have y2 := blk_cell (o := 2) S4.out.y9
      unfold itC at y0 y1 y2
      simp only [List.getElem?_toArray, List.getElem?_cons_zero, List.getElem?_cons_succ] at y0 y1 y2
      have HS := Lib.hid (S4.out.hp.set KT.out ⟨yi, ys, yt⟩)
      have S5 := Lib.hid ((S4.out.turn (set3_turn S4.out.hp.o k ⟨yi, ys, yt⟩ (Turn.of_below (Below.refl _ _))) HS.out).drew)
      have KM : Hid (k < ((l.take m).set k ⟨yi, ys, yt⟩).length) := by unfold Hid; rw [List.length_set]; exact KT.out
      unfold set3 at S5
      dsimp only at S5
      clear HS S4 km
      go_wp2_with fail
      go_region
      clear c0 q1 q2 q3 f0 f1 f2 s1 s2 y0 y1 y2
      generalize ((((w4.setCell (a.add (k * 3)) (.int .u64 (yi : Nat))).setCell ⟨(a.add (k * 3)).block, (a.add (k * 3)).off + 1, none⟩ (.int .u64 (ys : Nat))).setCell ⟨(a.add (k * 3)).block, (a.add (k * 3)).off + 2, none⟩ (.int .i64 yt)).drew) = v at *
      generalize (l.take m).set k ⟨yi, ys, yt⟩ = l2 at *
      have UP := Lib.hid (rup13_any v M a c sz l2 k S5.out.hp KM.out)
      obtain ⟨ub, hub⟩ : ∃ b, upB l2 k = b := ⟨_, rfl⟩
      have HU := Lib.hid hub
      rw [hub] at UP
      clear hub
      go_wp2_with fail
      refine UP.out.mono ?_; rintro e v2 ⟨rfl, r2, t2⟩
      have S6 := Lib.hid (S5.out.turn t2 r2)
      clear r2 t2 UP S5
      cases ub
      · rw [(settle_down HU.out).2] at S6
        rw [(settle_down HU.out).1] at RE
        have DN := Lib.hid (rdown13_any v2 M a c sz l2 k S6.out.hp KM.out)
        go_wp2_with fail
        refine DN.out.mono ?_; rintro e v3 ⟨rfl, r3, t3⟩
        have S7 := Lib.hid (S6.out.turn t3 r3)
        clear r3 t3 DN S6
        have x0 := blk_cell (o := 0) S7.out.x7
        have x1 := blk_cell (o := 1) S7.out.x7
        have x2 := blk_cell (o := 2) S7.out.x7
        have r0 := blk_cell (o := 0) S7.out.r0
        have r1 := blk_cell (o := 1) S7.out.r0
        have r2 := blk_cell (o := 2) S7.out.r0
        have f0 := blk_free (o := 0) S7.out.r0
        have f1 := blk_free (o := 1) S7.out.r0
        have f2 := blk_free (o := 2) S7.out.r0
        unfold itC at x0 x1 x2
        simp only [List.getElem?_toArray, List.getElem?_cons_zero, List.getElem?_cons_succ] at x0 x1 x2 r0 r1 r2
        have GG := Lib.hid (F.out _ (by rw [RE.out]; exact tell_item S7.out.hp S7.out.nr.1 S7.out.nm S7.out.t (.int .u64 (xi : Nat)) (.int .u64 (xs : Nat)) (.int .i64 xt)))
        have BB := Lib.hid (blk_itm S7.out.r0 (.int .u64 (xi : Nat)) (.int .u64 (xs : Nat)) (.int .i64 xt))
        clear F
        go_wp2
        refine bodyPost_ret (results_itm rfl _ _ r ⟨xi, xs, xt⟩ rfl BB.out) rfl ?_
        exact GG.out
      · rw [settle_up HU.out] at RE
        have x0 := blk_cell (o := 0) S6.out.x7
        have x1 := blk_cell (o := 1) S6.out.x7
        have x2 := blk_cell (o := 2) S6.out.x7
        have r0 := blk_cell (o := 0) S6.out.r0
        have r1 := blk_cell (o := 1) S6.out.r0
        have r2 := blk_cell (o := 2) S6.out.r0
        have f0 := blk_free (o := 0) S6.out.r0
        have f1 := blk_free (o := 1) S6.out.r0
        have f2 := blk_free (o := 2) S6.out.r0
        unfold itC at x0 x1 x2
        simp only [List.getElem?_toArray, List.getElem?_cons_zero, List.getElem?_cons_succ] at x0 x1 x2 r0 r1 r2
        have GG := Lib.hid (F.out _ (by rw [RE.out]; exact tell_item S6.out.hp S6.out.nr.1 S6.out.nm S6.out.t (.int .u64 (xi : Nat)) (.int .u64 (xs : Nat)) (.int .i64 xt)))
        have BB := Lib.hid (blk_itm S6.out.r0 (.int .u64 (xi : Nat)) (.int .u64 (xs : Nat)) (.int .i64 xt))
        clear F
        go_wp2
        refine bodyPost_ret (results_itm rfl _ _ r ⟨xi, xs, xt⟩ rfl BB.out) rfl ?_
        exact GG.out
    · have d1 : (m : Int) ≤ (k : Int) := by omega
      have d2 : decide ((k : Int) < (m : Int)) = false := decide_eq_false (by omega)
      have RE : Hid (remL l k = l.take m) := by
        unfold Hid remL
        rw [HN.out, HM.out, show m + 1 - 1 = m by omega, if_neg km]
      clear km
      have x0 := blk_cell (o := 0) S4.out.x7
      have x1 := blk_cell (o := 1) S4.out.x7
      have x2 := blk_cell (o := 2) S4.out.x7
      have r0 := blk_cell (o := 0) S4.out.r0
      have r1 := blk_cell (o := 1) S4.out.r0
      have r2 := blk_cell (o := 2) S4.out.r0
      have f0 := blk_free (o := 0) S4.out.r0
      have f1 := blk_free (o := 1) S4.out.r0
      have f2 := blk_free (o := 2) S4.out.r0
      unfold itC at x0 x1 x2
      simp only [List.getElem?_toArray, List.getElem?_cons_zero, List.getElem?_cons_succ] at x0 x1 x2 r0 r1 r2
      have GG := Lib.hid (F.out _ (by rw [RE.out]; exact tell_item S4.out.hp S4.out.nr.1 S4.out.nm S4.out.t (.int .u64 (xi : Nat)) (.int .u64 (xs : Nat)) (.int .i64 xt)))
      have BB := Lib.hid (blk_itm S4.out.r0 (.int .u64 (xi : Nat)) (.int .u64 (xs : Nat)) (.int .i64 xt))
      clear F
      go_wp2
      refine bodyPost_ret (results_itm rfl _ _ r ⟨xi, xs, xt⟩ rfl BB.out) rfl ?_
      exact GG.out

theorem addr_zero (a : Addr) : a.add 0 = a := by unfold Addr.add; rw [if_pos rfl]
theorem place_first {x : It} {l : List It} : place (x :: l) x.id = some 0 := by
  unfold place
  rw [List.findIdx?_cons]
  simp
theorem place_zero {l : List It} (h : 0 < l.length) : place l (gt l 0).id = some 0 := by
  cases l with
  | nil => simp at h
  | cons x xs => exact place_first
/-- What Pop tells, and what it makes. -/
def popE (l : List It) : Int := if l.length = 0 then 6 else 0
def popX (l : List It) : It := if l.length = 0 then zeroI else gt l 0
def popR (l : List It) : List It := if l.length = 0 then l else remL l 0
theorem pop_none {l : List It} (h : l.length = 0) : popE l = 6 ∧ popX l = zeroI ∧ popR l = l := by unfold popE popX popR; rw [if_pos h, if_pos h, if_pos h]; exact ⟨rfl, rfl, rfl⟩
theorem pop_some {l : List It} (h : 0 < l.length) : popE l = 0 ∧ popX l = gt l 0 ∧ popR l = remL l 0 := by unfold popE popX popR; rw [if_neg (by omega), if_neg (by omega), if_neg (by omega)]; exact ⟨rfl, rfl, rfl⟩

set_option maxHeartbeats 1000000 in
theorem rpop13_any (w : World) (M : Nat) (p : Option Addr) (c : Nat) (sz : Int) (l : List It) (h : RHp w M p c sz l) :
    Calls Try.prog 20 #[.pointer (some ⟨M, 0, none⟩)] w (RRemP w M p sz (popR l) (popX l) (popE l)) := by
  have AL : Below w.heap.size w (w.alloc (.cells #[.int .u64 0, .int .u64 0, .int .i64 0] 38)) := (Below.refl _ _).alloc (Nat.le_refl _) _
  have BR : Hid ((w.alloc (.cells #[.int .u64 0, .int .u64 0, .int .i64 0] 38)).heap[w.heap.size]? = some (.cells #[.int .u64 0, .int .u64 0, .int .i64 0] 38 (0, 0))) := heap_alloc_new _ _
  have H1 := Lib.hid (h.below AL)
  have L1 := Lib.hid AL
  have H0 := Lib.hid h
  have c0 := blk_cell (o := 0) H1.out.b
  simp only [List.getElem?_toArray, List.getElem?_cons_zero] at c0
  have r0 := blk_cell (o := 0) BR.out
  have r1 := blk_cell (o := 1) BR.out
  have r2 := blk_cell (o := 2) BR.out
  have f0 := blk_free (o := 0) BR.out
  have f1 := blk_free (o := 1) BR.out
  have f2 := blk_free (o := 2) BR.out
  simp only [List.getElem?_toArray, List.getElem?_cons_zero, List.getElem?_cons_succ] at r0 r1 r2
  have NM : Hid (M < w.heap.size) := (Array.getElem?_eq_some_iff.1 H0.out.b).1
  clear h AL
  obtain ⟨n, hn⟩ : ∃ n, l.length = n := ⟨_, rfl⟩
  rw [hn] at c0
  by_cases z : n = 0
  · have F : Hid (∀ w', Below w.heap.size w w' → RRemP w M p sz (popR l) (popX l) (popE l) (.returned (.tuple #[itV zeroI, .int .i64 6])) w') := fun w' b => by
      rw [(pop_none (by omega)).1, (pop_none (by omega)).2.1, (pop_none (by omega)).2.2]
      exact ⟨rfl, RHpP.same H0.out b⟩
    subst z
    clear hn H1 H0
    go_enter Try.func20, Try.ntmps20
    go_wp2
    refine bodyPost_ret (results_itm rfl _ _ w.heap.size zeroI rfl BR.out) rfl ?_
    exact F.out _ L1.out
  · have pos : 0 < l.length := by omega
    obtain ⟨a, rfl⟩ := H0.out.row pos
    have F : Hid (∀ w', RHpP w M (some a) sz (remL l 0) w' → RRemP w M (some a) sz (popR l) (popX l) (popE l) (.returned (.tuple #[itV (gt l 0), .int .i64 0])) w') := fun w' b => by
      rw [(pop_some pos).1, (pop_some pos).2.1, (pop_some pos).2.2]
      exact ⟨rfl, b⟩
    have RM := rremove13_any _ M (some a) c sz l (gt l 0).id H1.out
    rw [(rem_some (place_zero pos)).1, (rem_some (place_zero pos)).2.1, (rem_some (place_zero pos)).2.2] at RM
    have n0 : 0 < n := by omega
    have nI : (0 : Int) < (n : Int) := by omega
    have nz : ((n : Int) == 0) = false := by rw [beq_eq_false_iff_ne]; omega
    have nz2 : (n == 0) = false := by rw [beq_eq_false_iff_ne]; omega
    obtain ⟨q1, q2, q3⟩ := own_at H1.out.o (k := 0) pos
    rw [Nat.zero_mul, addr_zero] at q1
    have q1' : (w.alloc (.cells #[.int .u64 0, .int .u64 0, .int .i64 0] 38)).cell? (a.add 0) = some (.int .u64 ((gt l 0).id : Nat)) := by rw [addr_zero]; exact q1
    obtain ⟨x, hx⟩ : ∃ x, gt l 0 = x := ⟨_, rfl⟩
    rw [hx] at RM F q1 q1'
    have RR := Lib.hid RM
    have AB : Hid (a.block < w.heap.size) := H0.out.o.lt
    obtain ⟨xi, xs, xt⟩ := x
    unfold RRemP itV at RR
    dsimp only at RR q1 q1'
    clear RM hn hx q2 q3 pos
    go_enter Try.func20, Try.ntmps20
    go_wp2_with fail
    refine RR.out.mono ?_; rintro e w2 ⟨rfl, p', c', hp', ht, hpp⟩
    have nr : w.heap.size ≠ M := by have := NM.out; omega
    have R2 : Hid (w2.heap[w.heap.size]? = some (.cells #[.int .u64 0, .int .u64 0, .int .i64 0] 38 (0, 0))) := (ht.keep _ nr (fun a' ha => by injection ha with ha; rw [← ha]; have := AB.out; omega) (Array.getElem?_eq_some_iff.1 BR.out).1).trans BR.out
    have S1 : (w.alloc (.cells #[.int .u64 0, .int .u64 0, .int .i64 0] 38)).heap.size = w.heap.size + 1 := by simp
    have GG : Hid (RHpP w M (some a) sz (remL l 0) (((w2.setCell ⟨w.heap.size, 0, none⟩ (.int .u64 (xi : Nat))).setCell ⟨w.heap.size, 1, none⟩ (.int .u64 (xs : Nat))).setCell ⟨w.heap.size, 2, none⟩ (.int .i64 xt))) := by
      have hw : HTurn M (some a) w w2 := (HTurn.of_below L1.out).trans ht (.inl rfl)
      refine ⟨p', c', ⟨?_, ?_, hp'.far, hp'.fit⟩, ((hw.setNew (Nat.le_refl _) _).setNew (Nat.le_refl _) _).setNew (Nat.le_refl _) _, ?_⟩
      · rw [three_far _ (Ne.symm nr)]; exact hp'.b
      · refine hp'.o.keep fun a' ha => three_far _ ?_ _ _ _
        rcases hpp with e | e
        · rw [e] at ha; injection ha with ha; rw [← ha]; have := AB.out; omega
        · have := e a' ha; omega
      · rcases hpp with e | e
        · exact .inl e
        · exact .inr fun a' ha => by have := e a' ha; omega
    have BB := Lib.hid (blk_itm R2.out (.int .u64 (xi : Nat)) (.int .u64 (xs : Nat)) (.int .i64 xt))
    have g0 := blk_cell (o := 0) R2.out
    have g1 := blk_cell (o := 1) R2.out
    have g2 := blk_cell (o := 2) R2.out
    have e0 := blk_free (o := 0) R2.out
    have e1 := blk_free (o := 1) R2.out
    have e2 := blk_free (o := 2) R2.out
    simp only [List.getElem?_toArray, List.getElem?_cons_zero, List.getElem?_cons_succ] at g0 g1 g2
    have FF := Lib.hid (F.out _ GG.out)
    clear F GG hp' ht hpp R2 S1 RR
    go_wp2
    refine bodyPost_ret (results_itm rfl _ _ w.heap.size ⟨xi, xs, xt⟩ rfl BB.out) rfl ?_
    exact FF.out
end Go.Proofs.Ytlfbenlojiiknaa
