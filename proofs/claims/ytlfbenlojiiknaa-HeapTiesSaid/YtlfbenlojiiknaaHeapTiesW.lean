/- HeapTies: the walk. -/
import Derived.Test.YtlfbenlojiiknaaHeapAheadW
import Derived.Deep.CutBlock
import Derived.Deep.CutRange
set_option maxRecDepth 100000
namespace Go.Proofs.Ytlfbenlojiiknaa
open Go.ChangeShapes Go.WideShapes Go.ChangeAt Go.RowKit HeapM

theorem pushR_mem {sz : Int} {l : List It} {x y : It} (h : y ∈ pushR sz l x) : y = x ∨ y ∈ l := by
  unfold pushR at h
  split at h
  · exact .inr h
  · split at h
    · exact .inr h
    · exact mem_push.1 h
theorem pop_first {l : List It} (h : 0 < l.length) : popX l = gt l 0 ∧ popE l = 0 ∧ popR l = remL l 0 := by
  unfold popX popE popR
  rw [if_neg (by omega), if_neg (by omega), if_neg (by omega)]
  exact ⟨rfl, rfl, rfl⟩
theorem rem_after {l : List It} (hp : Heap l) (nd : Nod l) (h : 0 < l.length) : ∀ x ∈ remL l 0, x ∈ l ∧ ahd (gt l 0) x = true := by
  intro x hx
  have := (mem_rem nd h).1 hx
  exact ⟨this.1, hp.ahead this.1 fun e => this.2 (by rw [e])⟩

/-- The first loop: what was pushed. -/
structure TieP (C : HCode) (w wr : World) (N : Nat) (t : Int) : Prop where
  out : ∃ L, HAt C w wr N 40 L ∧ Heap L ∧ ∀ x ∈ L, x.t = t
/-- The second loop: what is left, and the last one that was told. -/
structure TieS (C : HCode) (w wr : World) (N b m : Nat) (L : List It) (y : It) (t : Int) (some? : Bool) : Prop where
  out : ∃ F, C.Hq wr F N 40 L ∧ (∀ M, F M → w.heap.size ≤ M) ∧ ¬ F b
  box : wr.heap[b]? = some (.cells (itC y) 34 (0, 0))
  new : w.heap.size ≤ b
  low : Below w.heap.size w wr
  heap : Heap L
  len : L.length = m
  one : ∀ x ∈ L, x.t = t
  last : some? = true → y.t = t ∧ ∀ x ∈ L, ahd y x = true

section
variable {C : HCode} {w wr : World} {N b m : Nat} {L : List It} {y : It} {t : Int} {s : Bool}
theorem TieP.push (h : TieP C w wr N t) (d q : Nat) (hd : d < 18446744073709551616) (hq : q < 18446744073709551616) (ht : I64 t) : Calls Try.prog 12 #[.pointer (some ⟨N, 0, none⟩), .agg #[.int .u64 (d : Nat), .int .u64 (q : Nat), .int .i64 t]] wr fun e w' => (∃ g, e = .returned (.int .i64 g)) ∧ TieP C w w' N t := by
  obtain ⟨L, h1, h2, h3⟩ := h.out
  refine (h1.push ⟨d, q, t⟩ ⟨hd, hq, ht.1, ht.2⟩).mono fun e w' ⟨a, k⟩ => ⟨⟨_, a⟩, ⟨_, k, pushR_heap _ h2, fun x hx => ?_⟩⟩
  rcases pushR_mem hx with e | e
  · rw [e]
  · exact h3 x e
theorem TieP.len (h : TieP C w wr N t) : Calls Try.prog 13 #[.pointer (some ⟨N, 0, none⟩)] wr fun e w' => ∃ m : Nat, m ≤ 40 ∧ e = .returned (.int .i64 (m : Nat)) ∧ TieS C w (w'.alloc (.cells #[.int .u64 0, .int .u64 0, .int .i64 0] 34)) N w'.heap.size m (Classical.choose h.out) zeroI t false := by
  obtain ⟨h1, h2, h3⟩ := Classical.choose_spec h.out
  generalize Classical.choose h.out = L at *
  obtain ⟨F, q1, q2⟩ := h1.out
  refine (C.len q1).mono fun e w' ⟨a, l⟩ => ⟨L.length, (C.fit q1).1, a, ?_⟩
  have q3 := C.below q1 l
  have A : Below w'.heap.size w' (w'.alloc (.cells #[.int .u64 0, .int .u64 0, .int .i64 0] 34)) := (Below.refl _ _).alloc (Nat.le_refl _) _
  have lw := h1.low.trans (l.mono h1.low.size)
  exact ⟨⟨F, C.below q3 A, q2, fun f => Nat.lt_irrefl _ (C.lt q3 _ f)⟩, heap_alloc_new _ _, lw.size, lw.trans (A.mono lw.size), h2, rfl, h3, fun h => by simp at h⟩
theorem TieS.pop (h : TieS C w wr N b m L y t s) (hm : 0 < m) : Calls Try.prog 19 #[.pointer (some ⟨N, 0, none⟩)] wr fun e w' => e = .returned (.tuple #[itV (gt L 0), .int .i64 0]) ∧ TieS C w w' N b (m - 1) (remL L 0) y t s := by
  obtain ⟨F, q1, q2, q3⟩ := h.out
  have L0 : 0 < L.length := by rw [h.len]; exact hm
  have bl := (Array.getElem?_eq_some_iff.1 h.box).1
  refine (C.pop q1).mono fun e w' ⟨a, F', k, f, n⟩ => ?_
  rw [(pop_first L0).1, (pop_first L0).2.1] at a
  rw [(pop_first L0).2.2] at k
  have A := rem_after h.heap (C.nod q1) L0
  refine ⟨a, ⟨F', k, fun M hM => ?_, fun hb => ?_⟩, (f.keep b q3 bl).trans h.box, h.new, h.low.trans (f.low _ q2 h.low.size), rem_heap 0 h.heap, by rw [rem_len L0, h.len], fun x hx => h.one x (A x hx).1, fun z => ⟨(h.last z).1, fun x hx => (h.last z).2 x (A x hx).1⟩⟩
  · rcases n M hM with e | e
    · exact q2 M e
    · exact Nat.le_trans h.low.size e
  · rcases n b hb with e | e
    · exact q3 e
    · omega
theorem TieS.empty (h : TieS C w wr N b 0 L y t s) : Calls Try.prog 19 #[.pointer (some ⟨N, 0, none⟩)] wr fun e w' => e = .returned (.tuple #[.agg #[.int .u64 0, .int .u64 0, .int .i64 0], .int .i64 6]) ∧ Below w.heap.size w w' := by
  obtain ⟨F, q1, q2, q3⟩ := h.out
  have L0 : L = [] := List.length_eq_zero_iff.1 h.len
  subst L0
  exact (C.pop q1).mono fun e w' ⟨a, F', k, f, n⟩ => ⟨a, h.low.trans (f.low _ q2 h.low.size)⟩
theorem TieS.below {w' : World} (h : TieS C w wr N b m L y t s) (k : Below wr.heap.size wr w') : TieS C w w' N b m L y t s := by
  obtain ⟨F, q1, q2, q3⟩ := h.out
  exact ⟨⟨F, C.below q1 k, q2, q3⟩, (k.block _ (Array.getElem?_eq_some_iff.1 h.box).1).trans h.box, h.new, h.low.trans (k.mono h.low.size), h.heap, h.len, h.one, h.last⟩
theorem TieS.store (h : TieS C w wr N b m L y t s) (x : It) (hx : x.t = t ∧ ∀ z ∈ L, ahd x z = true) : TieS C w (((wr.setCell ⟨b, 0, none⟩ (.int .u64 (x.id : Nat))).setCell ⟨b, 1, none⟩ (.int .u64 (x.seq : Nat))).setCell ⟨b, 2, none⟩ (.int .i64 x.t)) N b m L x t true := by
  obtain ⟨F, q1, q2, q3⟩ := h.out
  have T := (((Turn.of_below (N := b) (Below.refl wr.heap.size wr)).set (o := 0) (.int .u64 (x.id : Nat))).set (o := 1) (.int .u64 (x.seq : Nat))).set (o := 2) (.int .i64 x.t)
  refine ⟨⟨F, C.keep q1 fun M hM => T.keep M (fun e => q3 (by rw [← e]; exact hM)) (C.lt q1 M hM), q2, q3⟩, blk_set (blk_set (blk_set h.box)), h.new, T.below h.low h.new, h.heap, h.len, h.one, fun _ => hx⟩
end

set_option maxHeartbeats 4000000 in
theorem ties13_walk (C : HCode) (w : World) (p : Option Addr) (n c : Nat) (ds : List Nat) (hp : Holds w p n c (valsN .u64 ds)) (hd : ∀ d ∈ ds, d < 18446744073709551616) (t : Int) (ht : I64 t) :
    Calls Try.prog 5 #[.slice p n c, .int .i64 t] w fun e w' => e = .returned (.bool true) ∧ Below w.heap.size w w' := by
  have NW : Hid (Calls Try.prog 9 #[.int .i64 40] w fun e w' => ∃ N, e = .returned (.tuple #[.pointer (some ⟨N, 0, none⟩), .int .i64 0]) ∧ HAt C w w' N 40 []) := C.new w w (Below.refl _ _) 40 (by decide) (by decide)
  have AW := Lib.hid (awake13_any C)
  have HP := Lib.hid hp
  have HD := Lib.hid hd
  have HT := Lib.hid ht
  have nb : (n : Int) ≤ 9223372036854775807 := by have := hp.cap; have := hp.max; unfold maxLen at this; omega
  clear hp hd ht
  go_enter Try.func5, Try.ntmps5
  go_wp2_with fail
  refine NW.out.mono ?_; rintro e w1 ⟨N, rfl, h⟩
  have H := Lib.hid h
  clear h NW
  go_wp2_with fail
  refine (AW.out w1).mono ?_; rintro e w2 ⟨rfl, l⟩
  have P := Lib.hid (show TieP C w w2 N t from ⟨[], H.out.below l, Heap.nil, fun x hx => by simp at hx⟩)
  clear l H AW
  go_upto_block 0 with fail
  go_cut [7, 8] from 28 to 42 (fun _ _ wx => Hid (TieP C w wx N t))
  case first =>
    go_wp2_with fail
    go_loopw [28] (fun i wr => ∃ q : Nat, i = .int .i64 (q : Nat) ∧ Hid (q ≤ n ∧ q ≤ 40) ∧ Hid (TieP C w wr N t)) (fun i _ => 1000 - (intOf i).toNat)
    case atStart => exact ⟨0, rfl, ⟨Nat.zero_le _, by decide⟩, P.out⟩
    case round =>
      clear P
      obtain ⟨q, rfl, hb, I⟩ := hrel
      have q0 : (0 : Int) ≤ (q : Int) := by omega
      have qb : (q : Int) ≤ 40 := by have := hb.out.2; omega
      have stop : (n ≤ q) ∨ (q < n ∧ q = 40) ∨ (q < n ∧ q < 40) := by have := hb.out; omega
      rcases stop with z | ⟨z, z'⟩ | ⟨z, z'⟩
      · have z1 : (n : Int) ≤ (q : Int) := by omega
        have z2 : decide ((q : Int) < (n : Int)) = false := decide_eq_false (by omega)
        clear hb z HP HD HT
        go_wp2_with fail
        go_meet
        exact I.out
      · have h' : (q : Int) < (n : Int) := by omega
        have z3 : ((q : Int) == 40) = true := by rw [z']; rfl
        have z4 : (q == 40) = true := by rw [z']; rfl
        have z5 : decide (q = 40) = true := by rw [z']; rfl
        obtain ⟨L, hL, -⟩ := I.out.out
        obtain ⟨a, rfl, cz⟩ := (HP.out.below hL.low).atN z
        clear hb z z' HP HD HT hL
        go_wp2_with fail
        go_meet
        exact I.out
      · have h' : (q : Int) < (n : Int) := by omega
        have q40 : (q : Int) < 40 := by omega
        have z3 : ((q : Int) == 40) = false := by rw [beq_eq_false_iff_ne]; omega
        have z4 : (q == 40) = false := by rw [beq_eq_false_iff_ne]; omega
        have z5 : decide (q = 40) = false := decide_eq_false (by omega)
        obtain ⟨L, hL, -⟩ := I.out.out
        obtain ⟨a, rfl, cz⟩ := (HP.out.below hL.low).atN z
        clear hL
        have dm : ds.getD q 0 < 18446744073709551616 := by
          by_cases g : q < ds.length
          · rw [List.getD_eq_getElem?_getD, List.getElem?_eq_getElem g]
            exact HD.out _ (List.getElem_mem g)
          · rw [List.getD_eq_getElem?_getD, List.getElem?_eq_none (by omega)]
            decide
        obtain ⟨d, hdd⟩ : ∃ d, ds.getD q 0 = d := ⟨_, rfl⟩
        rw [hdd] at cz dm
        obtain ⟨s, hs⟩ : ∃ s, d % 5 = s := ⟨_, rfl⟩
        have sm : s < 18446744073709551616 := by omega
        have t1 : ((d : Nat) : Int).tmod 5 = (s : Nat) := by rw [← hs]; rfl
        have t2 : ((d : Nat) : Int) % 5 = (s : Nat) := by rw [← hs]; rfl
        have t3 : IntKind.u64.wrap ((s : Nat) : Int) = (s : Nat) := by rw [IntKind.wrap_u64]; omega
        have PU := Lib.hid (I.out.push d s dm sm HT.out)
        have NB : Hid (q + 1 ≤ n ∧ q + 1 ≤ 40) := by unfold Hid; omega
        clear hb z z' HP HD HT hdd hs dm sm I L
        go_wp2_with fail
        refine PU.out.mono ?_; rintro e w5 ⟨⟨g, rfl⟩, h⟩
        have I := Lib.hid h
        clear h PU
        go_wp2_with fail
        go_round
        case rel => exact ⟨q + 1, by go_num, NB, I⟩
        case measure => simp [intOf]; omega
  case rest =>
  have P := Lib.hid hcut.out
  clear HP HD nb
  go_wp2_with fail
  refine (P.out.len).mono ?_; rintro e w5 ⟨m, hm, rfl, h⟩
  generalize Classical.choose P.out.out = L at h
  have S := Lib.hid h
  have MM := Lib.hid hm
  have m0 : (0 : Int) ≤ (m : Int) := by omega
  have m40 : (m : Int) ≤ 40 := by omega
  clear h P hm hcut
  go_upto_region 12 with fail
  generalize w5.alloc (.cells #[.int .u64 0, .int .u64 0, .int .i64 0] 34) = w6 at *
  generalize w5.heap.size = b at *
  go_wp2_with fail
  go_loopw [47] (fun i wr => ∃ (q : Nat) (L : List It) (y : It), i = .int .i64 (q : Nat) ∧ Hid (q ≤ m) ∧ Hid (TieS C w wr N b (m - q) L y t (decide (0 < q)))) (fun i _ => 1000 - (intOf i).toNat)
  case atStart => exact ⟨0, L, zeroI, rfl, Nat.zero_le _, S.out⟩
  case round =>
    clear S
    obtain ⟨q, L, y, rfl, hq, S⟩ := hrel
    have q0 : (0 : Int) ≤ (q : Int) := by omega
    by_cases stop : m ≤ q
    · have e : m = q := by have := hq.out; omega
      subst e
      have z1 : decide ((m : Int) < (m : Int)) = false := decide_eq_false (by omega)
      have E := Lib.hid (by have h := S.out; rw [Nat.sub_self] at h; exact h.empty)
      clear S hq stop
      go_wp2_with fail
      refine E.out.mono ?_; rintro e w7 ⟨rfl, l⟩
      have LL := Lib.hid l
      clear l E
      go_wp2
      go_ret
      exact ⟨rfl, LL.out.trans ((Below.refl _ _).alloc LL.out.size _)⟩
    have h' : (q : Int) < (m : Int) := by omega
    have q40 : (q : Int) < 40 := by omega
    have PO := Lib.hid (S.out.pop (by omega))
    have FS := Lib.hid (rem_after S.out.heap (by obtain ⟨F, q1, -, -⟩ := S.out.out; exact C.nod q1) (by rw [S.out.len]; omega))
    have XM : Hid ((gt L 0).t = t ∧ (decide (0 < q) = true → y.t = t ∧ ahd y (gt L 0) = true)) := by
      have g := gt_mem (l := L) (k := 0) (by rw [S.out.len]; omega)
      exact ⟨S.out.one _ g, fun z => ⟨(S.out.last z).1, (S.out.last z).2 _ g⟩⟩
    generalize gt L 0 = x at *
    obtain ⟨xi, xs, xt⟩ := x
    obtain ⟨yi, ys, yt⟩ := y
    unfold itV at PO
    dsimp only at PO XM
    obtain ⟨e1, e2⟩ := XM.out
    subst e1
    have sw : (q = 0 ∧ decide (0 < q) = false) ∨ (0 < q ∧ decide (0 < q) = true ∧ ys < xs) ∨ (0 < q ∧ decide (0 < q) = true ∧ ys = xs ∧ yi < xi) := by
      by_cases z : q = 0
      · exact .inl ⟨z, by rw [z]; rfl⟩
      · have z' : decide (0 < q) = true := decide_eq_true (by omega)
        obtain ⟨e3, e4⟩ := e2 z'
        rw [ahd_iff] at e4
        dsimp only at e4 e3
        rcases e4 with h | ⟨_, h | ⟨h, h'⟩⟩
        · omega
        · exact .inr (.inl ⟨by omega, z', h⟩)
        · exact .inr (.inr ⟨by omega, z', h, h'⟩)
    have SWH := Lib.hid sw
    clear sw e2 XM S
    go_wp2_with fail
    refine PO.out.mono ?_; rintro e w7 ⟨rfl, h⟩
    have S := Lib.hid h
    clear h PO
    have AB : Below w7.heap.size w7 (w7.alloc (.cells #[.int .u64 (xi : Nat), .int .u64 (xs : Nat), .int .i64 xt] 34)) := (Below.refl _ _).alloc (Nat.le_refl _) _
    have BX : Hid ((w7.alloc (.cells #[.int .u64 (xi : Nat), .int .u64 (xs : Nat), .int .i64 xt] 34)).heap[w7.heap.size]? = some (.cells (itC ⟨xi, xs, xt⟩) 34 (0, 0))) := heap_alloc_new _ _
    have NE : Hid (b < w7.heap.size) := (Array.getElem?_eq_some_iff.1 S.out.box).1
    replace S := Lib.hid (S.out.below AB)
    clear AB
    go_upto_region 16 with fail
    generalize w7.alloc (.cells #[.int .u64 (xi : Nat), .int .u64 (xs : Nat), .int .i64 xt] 34) = w8 at *
    generalize w7.heap.size = bx at *
    have k0 := blk_cell (o := 0) BX.out
    have k1 := blk_cell (o := 1) BX.out
    have k2 := blk_cell (o := 2) BX.out
    have j0 := blk_cell (o := 0) S.out.box
    have j1 := blk_cell (o := 1) S.out.box
    have j2 := blk_cell (o := 2) S.out.box
    simp only [itC, List.getElem?_toArray, List.getElem?_cons_zero, List.getElem?_cons_succ] at k0 k1 k2 j0 j1 j2
    have tt : (xt != xt) = false := by simp
    go_cut [87] (fun o wx => o = .bool false ∧ wx = w8)
    case first =>
      rcases SWH.out with ⟨z, -⟩ | ⟨z, -, z'⟩ | ⟨z, -, z', z''⟩
      · have f1 : decide (0 < (q : Int)) = false := decide_eq_false (by omega)
        have f2 : ¬ 0 < (q : Int) := by omega
        have f3 : (q : Int) ≤ 0 := by omega
        clear z
        go_wp2_with fail
        go_meet
        exact ⟨rfl, rfl⟩
      · have f1 : decide (0 < (q : Int)) = true := decide_eq_true (by omega)
        have f2 : 0 < (q : Int) := by omega
        have f4 : decide ((xs : Int) < (ys : Int)) = false := decide_eq_false (by omega)
        have f5 : ((xs : Int) == (ys : Int)) = false := by rw [beq_eq_false_iff_ne]; omega
        have f6 : ¬ (xs : Int) < (ys : Int) := by omega
        have f7 : ¬ (xs : Int) = (ys : Int) := by omega
        clear z z'
        go_wp2_with fail
        go_meet
        exact ⟨rfl, rfl⟩
      · have f1 : decide (0 < (q : Int)) = true := decide_eq_true (by omega)
        have f2 : 0 < (q : Int) := by omega
        have f4 : decide ((xs : Int) < (ys : Int)) = false := decide_eq_false (by omega)
        have f5 : ((xs : Int) == (ys : Int)) = true := by rw [beq_iff_eq]; omega
        have f6 : ¬ (xs : Int) < (ys : Int) := by omega
        have f7 : decide ((xi : Int) ≤ (yi : Int)) = false := decide_eq_false (by omega)
        have f8 : ¬ (xi : Int) ≤ (yi : Int) := by omega
        clear z z' z''
        go_wp2_with fail
        go_meet
        exact ⟨rfl, rfl⟩
    case rest =>
    obtain ⟨rfl, rfl⟩ := hcut
    clear SWH tt
    have fr0 := blk_free (o := 0) S.out.box
    have fr1 := blk_free (o := 1) S.out.box
    have fr2 := blk_free (o := 2) S.out.box
    have S2 : Hid (TieS C w (((wc.setCell ⟨b, 0, none⟩ (.int .u64 (xi : Nat))).setCell ⟨b, 1, none⟩ (.int .u64 (xs : Nat))).setCell ⟨b, 2, none⟩ (.int .i64 xt)) N b (m - (q + 1)) (remL L 0) ⟨xi, xs, xt⟩ xt (decide (0 < q + 1))) := by
      have e : decide (0 < q + 1) = true := decide_eq_true (by omega)
      rw [e, ← Nat.sub_sub]
      exact S.out.store ⟨xi, xs, xt⟩ ⟨rfl, fun z hz => (FS.out z hz).2⟩
    have Q2 : Hid (q + 1 ≤ m) := by unfold Hid; omega
    clear S FS hq stop BX NE
    go_wp2_with fail
    go_round
    case rel => exact ⟨q + 1, _, _, by go_num, Q2, S2⟩
    case measure => simp [intOf]; omega
end Go.Proofs.Ytlfbenlojiiknaa
