/- Layer 14 (timers), the program's own: next, find. -/
import Derived.Test.YtbfmmeapjfljbaaTmB
set_option maxRecDepth 100000
namespace Go.Proofs.Ytbfmmeapjfljbaa
open Go.ChangeShapes Go.WideShapes Go.ChangeAt Go.RowKit Go.Maps HeapM

def NextP (w : World) (v : Int) (y : Bool) (e : Ending) (w' : World) : Prop := e = .returned (.tuple #[.int .i64 v, .bool y]) ∧ Below w.heap.size w w'
set_option maxHeartbeats 2000000 in
theorem pnext14_no (w : World) (k : Bool) (a e m p : Int) (hp : m * e = p) (a0 : 0 ≤ a) (p0 : 0 ≤ p) (ap : a + p ≤ 4611686018427387904) (e0 : 0 ≤ e) (e1 : e ≤ 4611686018427387904) (g : e = 0 ∨ 4611686018427387904 - (a + p) < e) :
    Calls Try.prog 32 #[.agg #[.bool k, .int .i64 a, .int .i64 e], .int .i64 m] w (NextP w 0 false) := by
  have B := Lib.hid ((Below.refl w.heap.size w).alloc (Nat.le_refl _) (.cells #[.bool k, .int .i64 a, .int .i64 e] 25))
  have w1 : wrap64 p = p := by unfold wrap64; omega
  have w2 : IntKind.i64.wrap p = p := by rw [IntKind.wrap_i64]; omega
  obtain ⟨q, hq⟩ : ∃ q, a + p = q := ⟨_, rfl⟩
  have w3 : wrap64 q = q := by unfold wrap64; omega
  have w4 : IntKind.i64.wrap q = q := by rw [IntKind.wrap_i64]; omega
  obtain ⟨r, hr⟩ : ∃ r, 4611686018427387904 - q = r := ⟨_, rfl⟩
  have w5 : wrap64 r = r := by unfold wrap64; omega
  have w6 : IntKind.i64.wrap r = r := by rw [IntKind.wrap_i64]; omega
  by_cases z : e = 0
  · subst z
    clear g e0 e1
    go_enter Try.func32, Try.ntmps32
    go_wp2
    go_ret2
    exact ⟨rfl, B.out⟩
  · have z1 : (e == 0) = false := by rw [beq_eq_false_iff_ne]; exact z
    have g1 : r < e := by
      rcases g with g | g
      · exact absurd g z
      · omega
    have g2 : decide (r < e) = true := decide_eq_true g1
    clear g e0 e1 ap a0 p0
    go_enter Try.func32, Try.ntmps32
    go_wp2
    go_ret2
    exact ⟨rfl, B.out⟩
set_option maxHeartbeats 2000000 in
theorem pnext14_yes (w : World) (k : Bool) (a e m p v : Int) (hp : m * e = p) (a0 : 0 ≤ a) (p0 : 0 ≤ p) (ap : a + p ≤ 4611686018427387904) (e0 : 0 ≤ e) (e1 : e ≤ 4611686018427387904) (z : e ≠ 0) (g : e ≤ 4611686018427387904 - (a + p)) (hv : a + p + e = v) :
    Calls Try.prog 32 #[.agg #[.bool k, .int .i64 a, .int .i64 e], .int .i64 m] w (NextP w v true) := by
  have B := Lib.hid ((Below.refl w.heap.size w).alloc (Nat.le_refl _) (.cells #[.bool k, .int .i64 a, .int .i64 e] 25))
  have w1 : wrap64 p = p := by unfold wrap64; omega
  have w2 : IntKind.i64.wrap p = p := by rw [IntKind.wrap_i64]; omega
  obtain ⟨q, hq⟩ : ∃ q, a + p = q := ⟨_, rfl⟩
  have w3 : wrap64 q = q := by unfold wrap64; omega
  have w4 : IntKind.i64.wrap q = q := by rw [IntKind.wrap_i64]; omega
  obtain ⟨r, hr⟩ : ∃ r, 4611686018427387904 - q = r := ⟨_, rfl⟩
  have w5 : wrap64 r = r := by unfold wrap64; omega
  have w6 : IntKind.i64.wrap r = r := by rw [IntKind.wrap_i64]; omega
  have hv' : q + e = v := by omega
  have w7 : wrap64 v = v := by unfold wrap64; omega
  have w8 : IntKind.i64.wrap v = v := by rw [IntKind.wrap_i64]; omega
  have z1 : (e == 0) = false := by rw [beq_eq_false_iff_ne]; exact z
  have g2 : decide (r < e) = false := decide_eq_false (by omega)
  have g3 : e ≤ r := by omega
  clear g e0 e1 ap a0 p0 hv
  go_enter Try.func32, Try.ntmps32
  go_wp2
  go_ret2
  exact ⟨rfl, B.out⟩

theorem sizeTr : (Try.prog.info? 25).map (·.size) = some 3 := by kernel_rfl
/-- A timer's cell and another one are told. -/
theorem results_tr {fn : Func} {p u : Tmp} (h : fn.results = #[.cell p 25, .tmp u]) (tmps : Array Value) (w : World) (N : Nat) (x y z : Value)
    (hp : tmps.getD p undef = .pointer (some ⟨N, 0, none⟩)) (hg : w.heap[N]? = some (.cells #[x, y, z] 25 (0, 0))) :
    (results fn tmps).run Try.prog w = .ok (.tuple #[.agg #[x, y, z], tmps.getD u undef]) w := by
  have hp' : tmps[p]?.getD undef = .pointer (some ⟨N, 0, none⟩) := by simpa using hp
  have hl : (loadVar 25 ⟨N, 0, none⟩).run Try.prog w = .ok (.agg #[x, y, z]) w :=
    run_loadVar_row w N _ _ #[x, y, z] (0, 0) _ hg Try.underlying25 rfl sizeTr
  simp [results, h, hp', asAddr, hl]

def FindP (w : World) (t : Tr) (er : Int) (e : Ending) (w' : World) : Prop := e = .returned (.tuple #[trV t, .int .i64 er]) ∧ Below w.heap.size w w'
section
variable {w : World} {N b : Nat} {R : Bool → Nat} {G : Bool → Nat → Prop} {L : Bool → List It} {D : DataW Unit} {ad ca : Nat}
set_option maxHeartbeats 2000000 in
theorem pfind14 (h : TmB w N b R G L D ad ca) {d : Nat} (hd : d < 18446744073709551616) (t : Tr) (B : Bool) (er : Int) (hk : D.atKey (kq d) (datT zeroTr) = datT t) (hB : Maps.has D (kq d) = B) (hE : (B = true ∧ er = 0) ∨ (B = false ∧ er = 6 ∧ t = zeroTr)) :
    Calls Try.prog 20 #[.pointer (some ⟨N, 0, none⟩), .int .u64 (d : Nat)] w (FindP w t er) := by
  have AL : Below w.heap.size w (w.alloc (.cells #[.bool false, .int .i64 0, .int .i64 0] 25)) := (Below.refl _ _).alloc (Nat.le_refl _) _
  have BR : Hid ((w.alloc (.cells #[.bool false, .int .i64 0, .int .i64 0] 25)).heap[w.heap.size]? = some (.cells #[.bool false, .int .i64 0, .int .i64 0] 25 (0, 0))) := heap_alloc_new _ _
  have H1 := Lib.hid (h.below AL)
  have L1 := Lib.hid AL
  have M := Lib.hid (pmade14 H1.out)
  have SZ : Hid (w.heap.size < (w.alloc (.cells #[.bool false, .int .i64 0, .int .i64 0] 25)).heap.size) := by unfold Hid; simp
  clear h AL
  go_enter Try.func20, Try.ntmps20
  go_wp2_with fail
  refine M.out.mono ?_; rintro e w1 ⟨rfl, rfl⟩
  clear M
  obtain ⟨r, hr⟩ : ∃ r, w.heap.size = r := ⟨_, rfl⟩
  have HR := Lib.hid hr
  rw [hr] at BR SZ ⊢
  clear hr
  generalize w.alloc (.cells #[.bool false, .int .i64 0, .int .i64 0] 25) = v at *
  have c2 := H1.out.c2
  have LK := H1.out.mp.look hd hk hB
  obtain ⟨ab, at_, ev⟩ := t
  unfold trV at LK
  dsimp only at LK
  clear hk hB
  go_upto_region 4 with (fail)
  have B2 : Hid ((v.alloc (.cells #[.bool ab, .int .i64 at_, .int .i64 ev] 25)).heap[r]? = some (.cells #[.bool false, .int .i64 0, .int .i64 0] 25 (0, 0))) := (((Below.refl v.heap.size v).alloc (Nat.le_refl _) _).block r SZ.out).trans BR.out
  have X2 : Hid ((v.alloc (.cells #[.bool ab, .int .i64 at_, .int .i64 ev] 25)).heap[v.heap.size]? = some (.cells #[.bool ab, .int .i64 at_, .int .i64 ev] 25 (0, 0))) := heap_alloc_new _ _
  have L2 : Hid (Below w.heap.size w (v.alloc (.cells #[.bool ab, .int .i64 at_, .int .i64 ev] 25))) := L1.out.alloc L1.out.size _
  generalize v.alloc (.cells #[.bool ab, .int .i64 at_, .int .i64 ev] 25) = u at *
  generalize v.heap.size = g at *
  clear c2 LK BR SZ H1 L1
  have z0 := blk_cell (o := 0) B2.out
  have z1 := blk_cell (o := 1) B2.out
  have z2 := blk_cell (o := 2) B2.out
  have f0 := blk_free (o := 0) B2.out
  have f1 := blk_free (o := 1) B2.out
  have f2 := blk_free (o := 2) B2.out
  have x0 := blk_cell (o := 0) X2.out
  have x1 := blk_cell (o := 1) X2.out
  have x2 := blk_cell (o := 2) X2.out
  simp only [List.getElem?_toArray, List.getElem?_cons_zero, List.getElem?_cons_succ] at x0 x1 x2 z0 z1 z2
  have BB := Lib.hid (blk_itm B2.out (.bool ab) (.int .i64 at_) (.int .i64 ev))
  have LL : Hid (Below w.heap.size w (((u.setCell ⟨r, 0, none⟩ (.bool ab)).setCell ⟨r, 1, none⟩ (.int .i64 at_)).setCell ⟨r, 2, none⟩ (.int .i64 ev))) := ((L2.out.setCell (p := ⟨r, 0, none⟩) (by rw [← HR.out]; exact Nat.le_refl _) _).setCell (p := ⟨r, 1, none⟩) (by rw [← HR.out]; exact Nat.le_refl _) _).setCell (p := ⟨r, 2, none⟩) (by rw [← HR.out]; exact Nat.le_refl _) _
  rcases hE with ⟨rfl, rfl⟩ | ⟨rfl, rfl, e⟩
  · go_wp2
    (try simp only [Exit.inBlock, Exit.then])
    refine bodyPost_ret (results_tr rfl _ _ r _ _ _ rfl BB.out) rfl ?_
    exact ⟨rfl, LL.out⟩
  · unfold zeroTr at e
    injection e with e1 e2 e3
    subst e1 e2 e3
    go_wp2
    (try simp only [Exit.inBlock, Exit.then])
    refine bodyPost_ret (results_tr rfl _ _ r _ _ _ rfl BB.out) rfl ?_
    exact ⟨rfl, LL.out⟩
end
end Go.Proofs.Ytbfmmeapjfljbaa
