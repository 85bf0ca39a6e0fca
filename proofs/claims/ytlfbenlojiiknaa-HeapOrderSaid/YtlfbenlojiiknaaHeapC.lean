/- Layer 13 (heap), the document's own: an item goes up. -/
import Derived.Test.YtlfbenlojiiknaaHeapB
set_option maxRecDepth 100000
namespace Go.Proofs.Ytlfbenlojiiknaa
open Go.ChangeShapes Go.WideShapes Go.ChangeAt Go.RowKit HeapM

/-- An item written behind a pointer, as the walk does it. -/
def set3 (w : World) (a : Addr) (k : Nat) (x : It) : World :=
  ((w.setCell (a.add (k * 3)) (.int .u64 (x.id : Nat))).setCell ⟨(a.add (k * 3)).block, (a.add (k * 3)).off + 1, none⟩ (.int .u64 (x.seq : Nat))).setCell ⟨(a.add (k * 3)).block, (a.add (k * 3)).off + 2, none⟩ (.int .i64 x.t)
theorem own_base0 {w : World} {T : TypeId} {B n c : Nat} {a : Addr} {l : List It} (h : OwnI w T B (some a) n c l) : a = ⟨a.block, 0, none⟩ ∧ ∃ cur, w.heap[a.block]? = some (.cells cur T (0, 0)) := by
  rcases h.2 with ⟨e, -⟩ | ⟨g, cap, cur, e, hb, hg, r⟩
  · injection e with e1 _ _; cases e1
  · injection e with e1 _ _
    injection e1 with e1
    subst e1
    exact ⟨rfl, cur, hg⟩
theorem set3_own {w : World} {T : TypeId} {B n c k : Nat} {a : Addr} {l : List It} (h : OwnI w T B (some a) n c l) (hk : k < n) (x : It) : OwnI (set3 w a k x) T B (some a) n c (l.set k x) := by
  obtain ⟨e, -⟩ := own_base0 h
  unfold set3
  obtain ⟨g, o, f⟩ := a
  injection e with _ e1 e2
  subst e1 e2
  rw [add_zero']
  exact h.store hk x
theorem set3_other (w : World) (a : Addr) (k : Nat) (x : It) {N : Nat} (h : N ≠ a.block) : (set3 w a k x).heap[N]? = w.heap[N]? := by
  unfold set3
  have e := add_block a (k * 3)
  rw [Go.Deep.blk_setCell_other _ _ _ _ (by rw [e]; exact h), Go.Deep.blk_setCell_other _ _ _ _ (by rw [e]; exact h), Go.Deep.blk_setCell_other _ _ _ _ (by rw [e]; exact h)]
theorem set3_turn {W w : World} {T : TypeId} {B n c : Nat} {a : Addr} {l : List It} (h : OwnI w T B (some a) n c l) (k : Nat) (x : It) (t : Turn a.block W w) : Turn a.block W (set3 w a k x) := by
  obtain ⟨e, -⟩ := own_base0 h
  unfold set3
  obtain ⟨g, o, f⟩ := a
  injection e with _ e1 e2
  subst e1 e2
  rw [add_zero']
  exact ((t.set _).set _).set _
theorem own_free {w : World} {T : TypeId} {B n c : Nat} {a : Addr} {l : List It} (h : OwnI w T B (some a) n c l) (k : Nat) : w.frozen? (a.add (k * 3)) = false ∧ w.frozen? ⟨(a.add (k * 3)).block, (a.add (k * 3)).off + 1, none⟩ = false ∧ w.frozen? ⟨(a.add (k * 3)).block, (a.add (k * 3)).off + 2, none⟩ = false := by
  obtain ⟨e, cur, hg⟩ := own_base0 h
  obtain ⟨g, o, f⟩ := a
  injection e with _ e1 e2
  subst e1 e2
  rw [add_zero']
  exact ⟨blk_free hg, blk_free hg, blk_free hg⟩
theorem own_at {w : World} {T : TypeId} {B n c k : Nat} {a : Addr} {l : List It} (h : OwnI w T B (some a) n c l) (hk : k < n) : w.cell? (a.add (k * 3)) = some (.int .u64 ((gt l k).id : Nat)) ∧ w.cell? ⟨(a.add (k * 3)).block, (a.add (k * 3)).off + 1, none⟩ = some (.int .u64 ((gt l k).seq : Nat)) ∧ w.cell? ⟨(a.add (k * 3)).block, (a.add (k * 3)).off + 2, none⟩ = some (.int .i64 (gt l k).t) := by
  obtain ⟨a', e, c1, c2, c3⟩ := h.holds.at hk
  injection e with e
  subst e
  exact ⟨c1, c2, c3⟩

theorem set3_mid {w : World} {a : Addr} {k : Nat} {u1 u2 : Value} (h1 : w.cell? ⟨(a.add (k * 3)).block, (a.add (k * 3)).off + 1, none⟩ = some u1) (h2 : w.cell? ⟨(a.add (k * 3)).block, (a.add (k * 3)).off + 2, none⟩ = some u2) (v0 v1 : Value) :
    (w.setCell (a.add (k * 3)) v0).cell? ⟨(a.add (k * 3)).block, (a.add (k * 3)).off + 1, none⟩ = some u1 ∧ ((w.setCell (a.add (k * 3)) v0).setCell ⟨(a.add (k * 3)).block, (a.add (k * 3)).off + 1, none⟩ v1).cell? ⟨(a.add (k * 3)).block, (a.add (k * 3)).off + 2, none⟩ = some u2 := by
  have n1 : a.add (k * 3) ≠ ⟨(a.add (k * 3)).block, (a.add (k * 3)).off + 1, none⟩ := fun e => by
    have := congrArg Addr.off e
    simp at this
  have n2 : a.add (k * 3) ≠ ⟨(a.add (k * 3)).block, (a.add (k * 3)).off + 2, none⟩ := fun e => by
    have := congrArg Addr.off e
    simp at this
  have n3 : (⟨(a.add (k * 3)).block, (a.add (k * 3)).off + 1, none⟩ : Addr) ≠ ⟨(a.add (k * 3)).block, (a.add (k * 3)).off + 2, none⟩ := fun e => by
    have := congrArg Addr.off e
    simp at this
  refine ⟨?_, ?_⟩
  · rw [World.cell?_setCell_other _ _ _ _ n1]; exact h1
  · rw [World.cell?_setCell_other _ _ _ _ n3, World.cell?_setCell_other _ _ _ _ n2]; exact h2

/-- Both items of a region, and the row's own pointer. -/
def UpC (M n c : Nat) (a : Addr) (k q : Nat) (x y : It) (w : World) : Prop :=
  w.cell? ⟨M, 0, none⟩ = some (.slice (some a) n c) ∧ w.cell? (a.add (k * 3)) = some (.int .u64 (x.id : Nat)) ∧ w.cell? ⟨(a.add (k * 3)).block, (a.add (k * 3)).off + 1, none⟩ = some (.int .u64 (x.seq : Nat)) ∧ w.cell? ⟨(a.add (k * 3)).block, (a.add (k * 3)).off + 2, none⟩ = some (.int .i64 x.t) ∧
  w.cell? (a.add (q * 3)) = some (.int .u64 (y.id : Nat)) ∧ w.cell? ⟨(a.add (q * 3)).block, (a.add (q * 3)).off + 1, none⟩ = some (.int .u64 (y.seq : Nat)) ∧ w.cell? ⟨(a.add (q * 3)).block, (a.add (q * 3)).off + 2, none⟩ = some (.int .i64 y.t)
theorem RHp.up {w : World} {M c : Nat} {a : Addr} {sz : Int} {l : List It} (h : RHp w M (some a) c sz l) {k q : Nat} (hk : k < l.length) (hq : q < l.length) : UpC M l.length c a k q (gt l k) (gt l q) w := by
  have c0 := blk_cell (o := 0) h.b
  have x := own_at h.o hk
  have y := own_at h.o hq
  exact ⟨c0, x.1, x.2.1, x.2.2, y.1, y.2.1, y.2.2⟩

structure UpS (w wr : World) (M : Nat) (a : Addr) (c : Nat) (sz : Int) (l : List It) (k : Nat) (l' : List It) (k' : Nat) (did : Bool) : Prop where
  hp : RHp wr M (some a) c sz l'
  len : l'.length = l.length
  kl : k' < l.length
  res : upL l' k' = upL l k
  st : (did = false ∧ l' = l ∧ k' = k) ∨ (did = true ∧ upB l k = true)
  t : Turn a.block w wr

theorem RHp.set {w : World} {M c k : Nat} {a : Addr} {sz : Int} {l : List It} (h : RHp w M (some a) c sz l) (hk : k < l.length) (x : It) : RHp (set3 w a k x) M (some a) c sz (l.set k x) :=
  ⟨by rw [set3_other _ _ _ _ (Ne.symm (h.far a rfl)), List.length_set]; exact h.b, by rw [List.length_set]; exact set3_own h.o hk x, h.far, by rw [List.length_set]; exact h.fit⟩
/-- It goes up; whether it did. -/
def RUpP (w : World) (M : Nat) (a : Addr) (c : Nat) (sz : Int) (l : List It) (b : Bool) (e : Ending) (w' : World) : Prop := e = .returned (.bool b) ∧ RHp w' M (some a) c sz l ∧ Turn a.block w w'

set_option maxHeartbeats 4000000 in
theorem rup13_any (w : World) (M : Nat) (a : Addr) (c : Nat) (sz : Int) (l : List It) (k : Nat) (h : RHp w M (some a) c sz l) (hk : k < l.length) :
    Calls Try.prog 35 #[.pointer (some ⟨M, 0, none⟩), .int .i64 (k : Nat)] w (RUpP w M a c sz (upL l k) (upB l k)) := by
  have I0 : Hid (UpS w w M a c sz l k l k false) := ⟨h, rfl, hk, rfl, .inl ⟨rfl, rfl, rfl⟩, Turn.of_below (Below.refl _ _)⟩
  have fit := h.fit
  obtain ⟨n, hn⟩ : ∃ n, l.length = n := ⟨_, rfl⟩
  have HN := Lib.hid hn
  rw [hn] at fit
  have nb : (n : Int) ≤ 1048576 := by omega
  have AH := Lib.hid rahead13_any
  clear h hk hn fit
  go_enter Try.func35, Try.ntmps35
  go_wp2
  go_loopw [1, 5] (fun kk dd wr => ∃ (k' : Nat) (l' : List It) (did : Bool), kk = .int .i64 (k' : Nat) ∧ dd = .bool did ∧ Hid (UpS w wr M a c sz l k l' k' did)) (fun kk _ _ => (intOf kk).toNat)
  case atStart => exact ⟨k, l, false, rfl, rfl, I0.out⟩
  case round =>
    clear I0
    obtain ⟨j, l', did, rfl, rfl, I⟩ := hrel
    have j0 : (0 : Int) ≤ (j : Int) := by omega
    have jn : (j : Int) < (n : Int) := by have := I.out.kl; have := HN.out; omega
    by_cases z : j = 0
    · subst z
      have F : Hid (RUpP w M a c sz (upL l k) (upB l k) (.returned (.bool did)) wr) := by
        have r := I.out.res
        rw [upL_zero] at r
        refine ⟨?_, by rw [← r]; exact I.out.hp, I.out.t⟩
        rcases I.out.st with ⟨e1, e2, e3⟩ | ⟨e1, e2⟩
        · rw [e1, ← e3]; rfl
        · rw [e1, e2]
      clear I
      go_wp2
      go_ret
      exact F.out
    · have jp : 0 < j := by omega
      have jp' : (0 : Int) < (j : Int) := by omega
      obtain ⟨q, hq⟩ : ∃ q, par j = q := ⟨_, rfl⟩
      have qj : q < j := by rw [← hq]; exact par_lt jp
      obtain ⟨u, hu⟩ : ∃ u, (j : Int) - 1 = u := ⟨_, rfl⟩
      have uq : u.tdiv 4 = (q : Int) := by rw [Int.tdiv_eq_ediv_of_nonneg (by omega), ← hu, ← hq]; unfold par; omega
      have w1 : wrap64 u = u := by unfold wrap64; omega
      have w2 : IntKind.i64.wrap u = u := by rw [IntKind.wrap_i64]; omega
      have w3 : wrap64 (q : Int) = (q : Int) := by unfold wrap64; omega
      have w4 : IntKind.i64.wrap (q : Int) = (q : Int) := by rw [IntKind.wrap_i64]; omega
      have q0 : (0 : Int) ≤ (q : Int) := by omega
      have qn : (q : Int) < (n : Int) := by omega
      have JL : Hid (j < l'.length) := by have := I.out.kl; have := I.out.len; unfold Hid; omega
      have QL : Hid (q < l'.length) := by have := JL.out; unfold Hid; omega
      have LN : Hid (l'.length = n) := by unfold Hid; rw [I.out.len]; exact HN.out
      obtain ⟨x, hx⟩ : ∃ x, gt l' j = x := ⟨_, rfl⟩
      obtain ⟨y, hy⟩ : ∃ y, gt l' q = y := ⟨_, rfl⟩
      have XY : Hid (gt l' j = x ∧ gt l' q = y ∧ par j = q ∧ 0 < j) := ⟨hx, hy, hq, jp⟩
      have KC : Hid (∀ w', Below wr.heap.size wr w' → UpC M n c a j q x y w') := fun w' b => by
        have r := (I.out.hp.below b).up JL.out QL.out
        rw [hx, hy, LN.out] at r
        exact r
      obtain ⟨g, hg⟩ : ∃ g, ahd x y = g := ⟨_, rfl⟩
      have HG := Lib.hid hg
      have AA : Hid (∀ w', Below wr.heap.size wr w' → Calls Try.prog 48 #[itV x, itV y] w' fun e w'' => e = .returned (.bool g) ∧ Below wr.heap.size wr w'') := fun w' b => (AH.out w' x y).mono fun e w'' ⟨e1, l1⟩ => ⟨by rw [e1, hg], b.trans (l1.mono b.size)⟩
      obtain ⟨xi, xs, xt⟩ := x
      obtain ⟨yi, ys, yt⟩ := y
      unfold itV at AA
      unfold UpC at KC
      dsimp only at AA KC
      have HB0 : Below wr.heap.size wr wr := Below.refl _ _
      clear z hq hx hy hg AH jp
      go_wp2_with fail
      go_region_held3 (fun w' => w'.cell? ⟨M, 0, none⟩ = some (.slice (some a) n c) ∧ w'.cell? (a.add (j * 3)) = some (.int .u64 (xi : Nat)) ∧ w'.cell? ⟨(a.add (j * 3)).block, (a.add (j * 3)).off + 1, none⟩ = some (.int .u64 (xs : Nat)) ∧ w'.cell? ⟨(a.add (j * 3)).block, (a.add (j * 3)).off + 2, none⟩ = some (.int .i64 xt) ∧
          w'.cell? (a.add (q * 3)) = some (.int .u64 (yi : Nat)) ∧ w'.cell? ⟨(a.add (q * 3)).block, (a.add (q * 3)).off + 1, none⟩ = some (.int .u64 (ys : Nat)) ∧ w'.cell? ⟨(a.add (q * 3)).block, (a.add (q * 3)).off + 2, none⟩ = some (.int .i64 yt))
        (first | exact KC.out _ HB0 | exact KC.out _ HB0.drew)
        (first
          | (go_at_call 48; refine (AA.out _ (by first | exact HB0 | exact HB0.drew)).mono ?_; rintro e w5 ⟨rfl, HB0⟩))
      have L5 := Lib.hid HB0
      clear HB0 AA
      cases g
      · have F : Hid (RUpP w M a c sz (upL l k) (upB l k) (.returned (.bool did)) w5) := by
          have s : ahd (gt l' j) (gt l' (par j)) = false := by rw [XY.out.2.2.1, XY.out.1, XY.out.2.1]; exact HG.out
          have r := I.out.res
          rw [upL_stop s] at r
          refine ⟨?_, by rw [← r]; exact I.out.hp.below L5.out, I.out.t.trans (Turn.of_below L5.out)⟩
          rcases I.out.st with ⟨e1, e2, e3⟩ | ⟨e1, e2⟩
          · rw [e1]
            have : upB l k = false := by
              unfold upB
              rw [← e2, ← e3, s, Bool.and_false]
            rw [this]
          · rw [e1, e2]
        clear I KC HG
        go_wp2
        go_ret
        exact F.out
      · have s : ahd (gt l' j) (gt l' (par j)) = true := by rw [XY.out.2.2.1, XY.out.1, XY.out.2.1]; exact HG.out
        have hp5 := Lib.hid (I.out.hp.below L5.out)
        have R := KC.out _ L5.out
        obtain ⟨r0, r1, r2, r3, r4, r5, r6⟩ := R
        have SS := Lib.hid s
        clear s HG KC
        go_upto_region 7 with (fail)
        have AL : Below w5.heap.size w5 (w5.alloc (.cells #[.int .u64 (xi : Nat), .int .u64 (xs : Nat), .int .i64 xt] 38)) := (Below.refl _ _).alloc (Nat.le_refl _) _
        have BX : Hid ((w5.alloc (.cells #[.int .u64 (xi : Nat), .int .u64 (xs : Nat), .int .i64 xt] 38)).heap[w5.heap.size]? = some (.cells #[.int .u64 (xi : Nat), .int .u64 (xs : Nat), .int .i64 xt] 38 (0, 0))) := heap_alloc_new _ _
        have hp6 := Lib.hid (hp5.out.below AL)
        have L6 := Lib.hid (L5.out.trans (AL.mono L5.out.size))
        have NX : Hid (a.block ≠ w5.heap.size ∧ M ≠ w5.heap.size) := by
          have e := hp5.out.o.lt
          have f := (Array.getElem?_eq_some_iff.1 hp5.out.b).1
          unfold Hid
          omega
        generalize w5.alloc (.cells #[.int .u64 (xi : Nat), .int .u64 (xs : Nat), .int .i64 xt] 38) = w6 at *
        generalize w5.heap.size = bx at *
        clear r0 r1 r2 r3 r4 r5 r6 AL hp5 L5
        have UC := hp6.out.up JL.out QL.out
        rw [XY.out.1, XY.out.2.1, LN.out] at UC
        unfold UpC at UC
        dsimp only at UC
        obtain ⟨r0, r1, r2, r3, r4, r5, r6⟩ := UC
        obtain ⟨f0, f1, f2⟩ := own_free hp6.out.o j
        obtain ⟨s1, s2⟩ := set3_mid r2 r3 (.int .u64 (yi : Nat)) (.int .u64 (ys : Nat))
        have H7 : Hid (RHp ((((w6.setCell (a.add (j * 3)) (.int .u64 (yi : Nat))).setCell ⟨(a.add (j * 3)).block, (a.add (j * 3)).off + 1, none⟩ (.int .u64 (ys : Nat))).setCell ⟨(a.add (j * 3)).block, (a.add (j * 3)).off + 2, none⟩ (.int .i64 yt)).drew) M (some a) c sz (l'.set j ⟨yi, ys, yt⟩)) := (hp6.out.set JL.out ⟨yi, ys, yt⟩).below (Below.refl _ _).drew
        have B7 : Hid (((((w6.setCell (a.add (j * 3)) (.int .u64 (yi : Nat))).setCell ⟨(a.add (j * 3)).block, (a.add (j * 3)).off + 1, none⟩ (.int .u64 (ys : Nat))).setCell ⟨(a.add (j * 3)).block, (a.add (j * 3)).off + 2, none⟩ (.int .i64 yt)).drew).heap[bx]? = some (.cells #[.int .u64 (xi : Nat), .int .u64 (xs : Nat), .int .i64 xt] 38 (0, 0))) := (set3_other w6 a j ⟨yi, ys, yt⟩ (Ne.symm NX.out.1)).trans BX.out
        have T7 : Hid (Turn a.block w ((((w6.setCell (a.add (j * 3)) (.int .u64 (yi : Nat))).setCell ⟨(a.add (j * 3)).block, (a.add (j * 3)).off + 1, none⟩ (.int .u64 (ys : Nat))).setCell ⟨(a.add (j * 3)).block, (a.add (j * 3)).off + 2, none⟩ (.int .i64 yt)).drew)) := (set3_turn hp6.out.o j ⟨yi, ys, yt⟩ (I.out.t.trans (Turn.of_below L6.out))).drew
        go_region
        generalize ((((w6.setCell (a.add (j * 3)) (.int .u64 (yi : Nat))).setCell ⟨(a.add (j * 3)).block, (a.add (j * 3)).off + 1, none⟩ (.int .u64 (ys : Nat))).setCell ⟨(a.add (j * 3)).block, (a.add (j * 3)).off + 2, none⟩ (.int .i64 yt)).drew) = w7 at *
        clear r0 r1 r2 r3 r4 r5 r6 f0 f1 f2 s1 s2 hp6 L6 BX
        have Q7 : Hid (q < (l'.set j ⟨yi, ys, yt⟩).length) := by unfold Hid; rw [List.length_set]; exact QL.out
        obtain ⟨l2, hl2⟩ : ∃ l2, l'.set j ⟨yi, ys, yt⟩ = l2 := ⟨_, rfl⟩
        have SW : Hid (l2.set q ⟨xi, xs, xt⟩ = sw l' j q) := by unfold Hid sw; rw [XY.out.1, XY.out.2.1, hl2]
        have L2 : Hid (l2.length = n) := by unfold Hid; rw [← hl2, List.length_set]; exact LN.out
        rw [hl2] at H7 Q7
        clear hl2
        have c0 := blk_cell (o := 0) H7.out.b
        rw [L2.out] at c0
        simp only [List.getElem?_toArray, List.getElem?_cons_zero] at c0
        have x0 := blk_cell (o := 0) B7.out
        have x1 := blk_cell (o := 1) B7.out
        have x2 := blk_cell (o := 2) B7.out
        simp only [List.getElem?_toArray, List.getElem?_cons_zero, List.getElem?_cons_succ] at x0 x1 x2
        obtain ⟨q1, q2, q3⟩ := own_at H7.out.o Q7.out
        obtain ⟨f0, f1, f2⟩ := own_free H7.out.o q
        obtain ⟨s1, s2⟩ := set3_mid q2 q3 (.int .u64 (xi : Nat)) (.int .u64 (xs : Nat))
        have H8 : Hid (RHp ((((w7.setCell (a.add (q * 3)) (.int .u64 (xi : Nat))).setCell ⟨(a.add (q * 3)).block, (a.add (q * 3)).off + 1, none⟩ (.int .u64 (xs : Nat))).setCell ⟨(a.add (q * 3)).block, (a.add (q * 3)).off + 2, none⟩ (.int .i64 xt)).drew) M (some a) c sz (sw l' j q)) := by
          have r := (H7.out.set Q7.out ⟨xi, xs, xt⟩).below (Below.refl _ _).drew
          rw [SW.out] at r
          exact r
        have T8 : Hid (Turn a.block w ((((w7.setCell (a.add (q * 3)) (.int .u64 (xi : Nat))).setCell ⟨(a.add (q * 3)).block, (a.add (q * 3)).off + 1, none⟩ (.int .u64 (xs : Nat))).setCell ⟨(a.add (q * 3)).block, (a.add (q * 3)).off + 2, none⟩ (.int .i64 xt)).drew)) := (set3_turn H7.out.o q ⟨xi, xs, xt⟩ T7.out).drew
        go_wp2_with fail
        go_region
        generalize ((((w7.setCell (a.add (q * 3)) (.int .u64 (xi : Nat))).setCell ⟨(a.add (q * 3)).block, (a.add (q * 3)).off + 1, none⟩ (.int .u64 (xs : Nat))).setCell ⟨(a.add (q * 3)).block, (a.add (q * 3)).off + 2, none⟩ (.int .i64 xt)).drew) = w8 at *
        have NS : Hid (UpS w w8 M a c sz l k (sw l' j q) q true) := by
          refine ⟨H8.out, by rw [sw_len]; exact I.out.len, by have := QL.out; have := I.out.len; omega, ?_, .inr ⟨rfl, ?_⟩, T8.out⟩
          · rw [← I.out.res, upL_go XY.out.2.2.2 SS.out, XY.out.2.2.1]
          · rcases I.out.st with ⟨-, e2, e3⟩ | ⟨-, e2⟩
            · unfold upB
              rw [← e2, ← e3, SS.out, Bool.and_true]
              exact decide_eq_true XY.out.2.2.2
            · exact e2
        clear c0 x0 x1 x2 q1 q2 q3 f0 f1 f2 s1 s2 H8 T8 H7 B7 T7 I SW L2 Q7 LN XY SS
        go_wp2
        go_roundw
        case rel => exact ⟨q, sw l' j q, true, rfl, rfl, NS⟩
        case measure => simp [intOf]; omega
end Go.Proofs.Ytlfbenlojiiknaa
