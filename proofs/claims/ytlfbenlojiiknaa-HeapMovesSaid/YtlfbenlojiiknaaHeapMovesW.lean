/- HeapMoves: the walk. -/
import Derived.Test.YtlfbenlojiiknaaHeapMovesM
import Derived.Test.YtlfbenlojiiknaaFrameH
import Derived.Test.YtlfbenlojiiknaaEqual
import Derived.Test.YtlfbenlojiiknaaMask
import Derived.Deep.CutBlock
import Derived.Deep.CutRange
set_option maxRecDepth 100000
namespace Go.Proofs.Ytlfbenlojiiknaa
open Go.ChangeShapes Go.WideShapes Go.ChangeAt Go.RowKit HeapM

/-- Two heaps, the one the other's items moved by d. -/
structure Mov (C : HCode) (w : World) (B0 : Nat) (v wr : World) (N M : Nat) (d : Int) (L : List It) : Prop where
  two : Two C w B0 v wr N M 60 L (L.map (shift d))
  heap : Heap L
  small : ∀ x ∈ L, 0 ≤ x.t ∧ x.t ≤ 1099511627775

/-! ### Both heaps are asked for the same: what they tell, and what they are then -/
section
variable {C : HCode} {w : World} {B0 : Nat} {v : World} {N M : Nat} {d : Int} {L : List It}
theorem mov_push (hL : Heap L) (hs : ∀ x ∈ L, 0 ≤ x.t ∧ x.t ≤ 1099511627775) (x : It) (hx : ItOk x) (hy : ItOk (shift d x)) (h0 : 0 ≤ x.t ∧ x.t ≤ 1099511627775) : ∃ (r : Int) (L1 : List It),
    (∀ wr, Two C w B0 v wr N M 60 L (L.map (shift d)) → Calls Try.prog 12 #[.pointer (some ⟨N, 0, none⟩), itV x] wr fun e w' => e = .returned (.int .i64 r) ∧ Two C w B0 v w' N M 60 L1 (L.map (shift d))) ∧
    ∀ wr, Two C w B0 v wr N M 60 L1 (L.map (shift d)) → Calls Try.prog 12 #[.pointer (some ⟨M, 0, none⟩), itV (shift d x)] wr fun e w' => e = .returned (.int .i64 r) ∧ Mov C w B0 v w' N M d L1 := by
  refine ⟨pushE 60 L x, pushR 60 L x, fun wr h => h.push x hx, fun wr h => (h.swap.push (shift d x) hy).mono fun e w' ⟨a, k⟩ => ?_⟩
  rw [show ((60 : Nat) : Int) = 60 from rfl, pushE_shift] at a
  rw [show ((60 : Nat) : Int) = 60 from rfl, pushR_shift] at k
  refine ⟨a, k.swap, pushR_heap _ hL, fun y hm => ?_⟩
  rcases pushR_in hm with z | z
  · rw [z]; exact h0
  · exact hs y z
theorem mov_set (hL : Heap L) (hn : Nod L) (hs : ∀ x ∈ L, 0 ≤ x.t ∧ x.t ≤ 1099511627775) (x : It) (hx : ItOk x) (hy : ItOk (shift d x)) (h0 : 0 ≤ x.t ∧ x.t ≤ 1099511627775) : ∃ (r : Int) (L1 : List It),
    (∀ wr, Two C w B0 v wr N M 60 L (L.map (shift d)) → Calls Try.prog 15 #[.pointer (some ⟨N, 0, none⟩), itV x] wr fun e w' => e = .returned (.int .i64 r) ∧ Two C w B0 v w' N M 60 L1 (L.map (shift d))) ∧
    ∀ wr, Two C w B0 v wr N M 60 L1 (L.map (shift d)) → Calls Try.prog 15 #[.pointer (some ⟨M, 0, none⟩), itV (shift d x)] wr fun e w' => e = .returned (.int .i64 r) ∧ Mov C w B0 v w' N M d L1 := by
  refine ⟨setE L x, setR L x, fun wr h => h.set x hx, fun wr h => (h.swap.set (shift d x) hy).mono fun e w' ⟨a, k⟩ => ?_⟩
  rw [setE_shift] at a
  rw [setR_shift] at k
  refine ⟨a, k.swap, setR_heap _ hL, fun y hm => ?_⟩
  rcases setR_mem hn hm with z | z
  · rw [z]; exact h0
  · exact hs y z
theorem mov_remove (hL : Heap L) (hn : Nod L) (hs : ∀ x ∈ L, 0 ≤ x.t ∧ x.t ≤ 1099511627775) (i : Nat) (hi : i < 18446744073709551616) : ∃ (r : Int) (x y : It) (L1 : List It),
    (∀ wr, Two C w B0 v wr N M 60 L (L.map (shift d)) → Calls Try.prog 17 #[.pointer (some ⟨N, 0, none⟩), .int .u64 (i : Nat)] wr fun e w' => e = .returned (.tuple #[itV x, .int .i64 r]) ∧ Two C w B0 v w' N M 60 L1 (L.map (shift d))) ∧
    ∀ wr, Two C w B0 v wr N M 60 L1 (L.map (shift d)) → Calls Try.prog 17 #[.pointer (some ⟨M, 0, none⟩), .int .u64 (i : Nat)] wr fun e w' => e = .returned (.tuple #[itV y, .int .i64 r]) ∧ Mov C w B0 v w' N M d L1 := by
  refine ⟨remE L i, remX L i, remX (L.map (shift d)) i, remR L i, fun wr h => h.remove i hi, fun wr h => (h.swap.remove i hi).mono fun e w' ⟨a, k⟩ => ?_⟩
  rw [remE_shift] at a
  rw [remR_shift] at k
  exact ⟨a, k.swap, remR_heap _ hL, fun y hm => hs y (remR_mem hn hm)⟩
theorem mov_pop (hL : Heap L) (hn : Nod L) (hs : ∀ x ∈ L, 0 ≤ x.t ∧ x.t ≤ 1099511627775) : ∃ (r : Int) (x y : It) (L1 : List It), x.id = y.id ∧
    (∀ wr, Two C w B0 v wr N M 60 L (L.map (shift d)) → Calls Try.prog 19 #[.pointer (some ⟨N, 0, none⟩)] wr fun e w' => e = .returned (.tuple #[itV x, .int .i64 r]) ∧ Two C w B0 v w' N M 60 L1 (L.map (shift d))) ∧
    ∀ B1 v1 wr, Two C w B1 v1 wr N M 60 L1 (L.map (shift d)) → Calls Try.prog 19 #[.pointer (some ⟨M, 0, none⟩)] wr fun e w' => e = .returned (.tuple #[itV y, .int .i64 r]) ∧ Mov C w B1 v1 w' N M d L1 := by
  refine ⟨popE L, popX L, popX (L.map (shift d)), popR L, (popX_id d L).symm, fun wr h => h.pop, fun _ _ wr h => h.swap.pop.mono fun e w' ⟨a, k⟩ => ?_⟩
  rw [popE_shift] at a
  rw [popR_shift] at k
  exact ⟨a, k.swap, popR_heap hL, fun y hm => hs y (popR_mem hn hm)⟩
theorem Mov.again {wr : World} (h : Mov C w B0 v wr N M d L) : Mov C w wr.heap.size wr wr N M d L := ⟨h.two.start (Below.refl _ _), h.heap, h.small⟩
theorem Mov.below {wr w' : World} (h : Mov C w B0 v wr N M d L) (k : Below wr.heap.size wr w') : Mov C w B0 v w' N M d L := ⟨h.two.below k, h.heap, h.small⟩
/-- Boxes that were there before the calls. -/
theorem Two.cells {A B : List It} {sz : Nat} {wr : World} (h : Two C w B0 v wr N M sz A B) {K o : Nat} {cs : Array Value} {T : TypeId} (h0 : B0 ≤ K) (hK : v.heap[K]? = some (.cells cs T (0, 0))) : wr.cell? ⟨K, o, none⟩ = cs[o]? :=
  blk_cell ((h.keep K h0 (Array.getElem?_eq_some_iff.1 hK).1).trans hK)
end

attribute [local go_sem ↓] neqI_eq
set_option maxHeartbeats 8000000 in
theorem moves13_walk (C : HCode) (w : World) (p : Option Addr) (n c : Nat) (l : List Ac) (hp : HoldsH w p n c l) (hl : ∀ i, i < n → I64 (l.getD i zeroA).what ∧ ItOk (l.getD i zeroA).x) (d : Int) (hd : -2147483648 ≤ d ∧ d ≤ 2147483647) :
    Calls Try.prog 7 #[.slice p n c, .int .i32 d] w fun e w' => e = .returned (.bool true) ∧ Below w.heap.size w w' := by
  have NW : Hid (Calls Try.prog 9 #[.int .i64 60] w fun e w' => ∃ N, e = .returned (.tuple #[.pointer (some ⟨N, 0, none⟩), .int .i64 0]) ∧ HAt C w w' N 60 []) := C.new w w (Below.refl _ _) 60 (by decide) (by decide)
  have NW2 : Hid (∀ wr N, HAt C w wr N 60 [] → Calls Try.prog 9 #[.int .i64 60] wr fun e w' => ∃ M, e = .returned (.tuple #[.pointer (some ⟨M, 0, none⟩), .int .i64 0]) ∧ Two C w w'.heap.size w' w' N M 60 [] []) := fun wr N h => h.second (by decide) (by decide)
  have AW := Lib.hid (awake13_any C)
  have HP := Lib.hid hp
  have HL := Lib.hid hl
  have HD := Lib.hid hd
  have nb : (n : Int) ≤ 9223372036854775807 := by have := hp.cap; have := hp.max; unfold maxLen at this; omega
  clear hp hl hd
  go_enter Try.func7, Try.ntmps7
  go_wp2_with fail
  refine NW.out.mono ?_; rintro e w1 ⟨N, rfl, h⟩
  have H := Lib.hid h
  clear h NW
  go_wp2_with fail
  refine (NW2.out w1 N H.out).mono ?_; rintro e w2 ⟨M, rfl, h⟩
  clear H NW2
  have H := Lib.hid h
  clear h
  go_wp2_with fail
  refine (AW.out w2).mono ?_; rintro e w3 ⟨rfl, lo⟩
  have I0 : Hid (Mov C w w3.heap.size w3 w3 N M d []) := ⟨(H.out.below lo).start (Below.refl _ _), Heap.nil, fun x hx => by simp at hx⟩
  clear lo H AW
  go_upto_block 0 with fail
  go_cut [9, 10, 11, 12, 13, 14, 15, 16, 17, 18, 19, 20] from 49 to 146 (fun _ _ _ _ _ _ _ _ _ _ _ _ wx => ∃ L, Hid (Mov C w wx.heap.size wx wx N M d L))
  case first =>
    go_wp2_with fail
    go_loopw [49] (fun i wr => ∃ (q : Nat) (L : List It), i = .int .i64 (q : Nat) ∧ Hid (q ≤ n ∧ q ≤ 80) ∧ Hid (Mov C w wr.heap.size wr wr N M d L)) (fun i _ => 1000 - (intOf i).toNat)
    case atStart => exact ⟨0, [], rfl, ⟨Nat.zero_le _, by decide⟩, I0.out⟩
    case round =>
      clear I0
      obtain ⟨q, L, rfl, hb, I⟩ := hrel
      have q0 : (0 : Int) ≤ (q : Int) := by omega
      have qb : (q : Int) ≤ 80 := by have := hb.out.2; omega
      by_cases z : n ≤ q
      · have z1 : (n : Int) ≤ (q : Int) := by omega
        have z2 : decide ((q : Int) < (n : Int)) = false := decide_eq_false (by omega)
        clear hb z HP HL HD
        go_wp2_with fail
        go_meet
        exact ⟨L, I⟩
      have h' : (q : Int) < (n : Int) := by omega
      have qn : q < n := by omega
      obtain ⟨a, rfl, c0, c1, c2, c3⟩ := (HP.out.below I.out.two.low).at qn
      have OK := HL.out q qn
      generalize l.getD q zeroA = ac at *
      obtain ⟨k, xi, xs, xt⟩ := ac
      dsimp only at c0 c1 c2 c3 OK
      have LT : Below wr.heap.size wr (wr.alloc (.cells #[.int .i64 k, .int .u64 (xi : Nat), .int .u64 (xs : Nat), .int .i64 xt] 37)) := (Below.refl _ _).alloc (Nat.le_refl _) _
      by_cases q80 : q = 80
      · have z3 : ((q : Int) == 80) = true := by rw [q80]; rfl
        have z4 : (q == 80) = true := by rw [q80]; rfl
        have z5 : decide (q = 80) = true := by rw [q80]; rfl
        have I2 : Hid (Mov C w _ _ _ N M d L) := ⟨(I.out.two.below LT).start (Below.refl _ _), I.out.heap, I.out.small⟩
        clear hb z q80 HP HL HD I LT
        go_wp2_with fail
        go_meet
        exact ⟨L, I2⟩
      have q79 : (q : Int) < 80 := by have := hb.out.2; omega
      have z3 : ((q : Int) == 80) = false := by rw [beq_eq_false_iff_ne]; omega
      have z4 : (q == 80) = false := by rw [beq_eq_false_iff_ne]; omega
      have z5 : decide (q = 80) = false := decide_eq_false q80
      have NB : Hid (q + 1 ≤ n ∧ q + 1 ≤ 80) := by have := hb.out.2; unfold Hid; omega
      clear hb z q80 HP HL LT
      have b0 := blk_cell (o := 0) (heap_alloc_new wr (.cells #[.int .i64 k, .int .u64 (xi : Nat), .int .u64 (xs : Nat), .int .i64 xt] 37))
      have b1 := blk_cell (o := 1) (heap_alloc_new wr (.cells #[.int .i64 k, .int .u64 (xi : Nat), .int .u64 (xs : Nat), .int .i64 xt] 37))
      have b2 := blk_cell (o := 2) (heap_alloc_new wr (.cells #[.int .i64 k, .int .u64 (xi : Nat), .int .u64 (xs : Nat), .int .i64 xt] 37))
      have b3 := blk_cell (o := 3) (heap_alloc_new wr (.cells #[.int .i64 k, .int .u64 (xi : Nat), .int .u64 (xs : Nat), .int .i64 xt] 37))
      simp only [List.getElem?_toArray, List.getElem?_cons_zero, List.getElem?_cons_succ] at b0 b1 b2 b3
      go_upto_region 10 with fail
      have g0 : 0 ≤ bits .and .i64 xt 1099511627775 ∧ bits .and .i64 xt 1099511627775 ≤ 1099511627775 := mask_low xt 1099511627775 (by decide)
      clear b0 b1 b2 b3
      generalize bits .and .i64 xt 1099511627775 = g at *
      have AX : Hid ((wr.alloc (.cells #[.int .i64 k, .int .u64 (xi : Nat), .int .u64 (xs : Nat), .int .i64 g] 37)).heap[wr.heap.size]? = some (.cells #[.int .i64 k, .int .u64 (xi : Nat), .int .u64 (xs : Nat), .int .i64 g] 37 (0, 0))) := heap_alloc_new _ _
      have L1 : Hid (Below wr.heap.size wr (wr.alloc (.cells #[.int .i64 k, .int .u64 (xi : Nat), .int .u64 (xs : Nat), .int .i64 g] 37))) := (Below.refl _ _).alloc (Nat.le_refl _) _
      generalize wr.alloc (.cells #[.int .i64 k, .int .u64 (xi : Nat), .int .u64 (xs : Nat), .int .i64 g] 37) = v1 at *
      have BX : Hid (wr.heap.size < v1.heap.size) := (Array.getElem?_eq_some_iff.1 AX.out).1
      obtain ⟨bx, hbx⟩ : ∃ b, wr.heap.size = b := ⟨_, rfl⟩
      simp only [hbx] at AX BX L1 ⊢
      have b0 := blk_cell (o := 0) AX.out
      have b1 := blk_cell (o := 1) AX.out
      have b2 := blk_cell (o := 2) AX.out
      have b3 := blk_cell (o := 3) AX.out
      simp only [List.getElem?_toArray, List.getElem?_cons_zero, List.getElem?_cons_succ] at b0 b1 b2 b3
      obtain ⟨gd, hgd⟩ : ∃ x, g + d = x := ⟨_, rfl⟩
      have d0 := HD.out
      have dm : d ≤ 2147483647 := d0.2
      have t1 : IntKind.i64.wrap gd = gd := by rw [IntKind.wrap_i64]; omega
      have t2 : wrap64 gd = gd := by unfold wrap64; omega
      have t3 : IntKind.i64.wrap d = d := by rw [IntKind.wrap_i64]; omega
      have t4 : wrap64 d = d := by unfold wrap64; omega
      have X1 : ItOk ⟨xi, xs, g⟩ := ⟨OK.2.a, OK.2.b, by simp only; omega, by simp only; omega⟩
      have X2 : ItOk (shift d ⟨xi, xs, g⟩) := ⟨OK.2.a, OK.2.b, by simp only [shift]; omega, by simp only [shift]; omega⟩
      have SX : (⟨xi, xs, gd⟩ : It) = shift d ⟨xi, xs, g⟩ := by rw [← hgd]; rfl
      go_upto_region 12 with fail
      clear b0 b1 b2 b3 t1 t2 t3 t4 d0 dm
      have AY : Hid ((v1.alloc (.cells #[.int .u64 (xi : Nat), .int .u64 (xs : Nat), .int .i64 gd] 34)).heap[v1.heap.size]? = some (.cells #[.int .u64 (xi : Nat), .int .u64 (xs : Nat), .int .i64 gd] 34 (0, 0))) := heap_alloc_new _ _
      have AL : Below v1.heap.size v1 (v1.alloc (.cells #[.int .u64 (xi : Nat), .int .u64 (xs : Nat), .int .i64 gd] 34)) := (Below.refl _ _).alloc (Nat.le_refl _) _
      replace AX := Lib.hid ((AL.block _ BX.out).trans AX.out)
      have LB : Below wr.heap.size wr (v1.alloc (.cells #[.int .u64 (xi : Nat), .int .u64 (xs : Nat), .int .i64 gd] 34)) := by rw [hbx]; exact L1.out.trans (AL.mono (Nat.le_of_lt BX.out))
      generalize v1.alloc (.cells #[.int .u64 (xi : Nat), .int .u64 (xs : Nat), .int .i64 gd] 34) = v0 at *
      obtain ⟨by', hby⟩ : ∃ b, v1.heap.size = b := ⟨_, rfl⟩
      simp only [hby] at AY BX ⊢
      have MV : Hid (Mov C w bx v0 v0 N M d L) := ⟨by rw [← hbx]; exact I.out.two.start LB, I.out.heap, I.out.small⟩
      have ND := I.out.two.fit.2
      have KC : Hid (∀ w' A B, Two C w bx v0 w' N M 60 A B → (w'.cell? ⟨bx, 0, none⟩ = some (.int .i64 k) ∧ w'.cell? ⟨bx, 1, none⟩ = some (.int .u64 (xi : Nat)) ∧ w'.cell? ⟨bx, 2, none⟩ = some (.int .u64 (xs : Nat)) ∧ w'.cell? ⟨bx, 3, none⟩ = some (.int .i64 g)) ∧
          (w'.cell? ⟨by', 0, none⟩ = some (.int .u64 (xi : Nat)) ∧ w'.cell? ⟨by', 1, none⟩ = some (.int .u64 (xs : Nat)) ∧ w'.cell? ⟨by', 2, none⟩ = some (.int .i64 gd))) := fun w' A B h =>
        ⟨⟨h.cells (Nat.le_refl _) AX.out, h.cells (Nat.le_refl _) AX.out, h.cells (Nat.le_refl _) AX.out, h.cells (Nat.le_refl _) AX.out⟩, h.cells (Nat.le_of_lt BX.out) AY.out, h.cells (Nat.le_of_lt BX.out) AY.out, h.cells (Nat.le_of_lt BX.out) AY.out⟩
      have CPU := Lib.hid (mov_push (C := C) (w := w) (B0 := bx) (v := v0) (N := N) (M := M) (d := d) I.out.heap I.out.small ⟨xi, xs, g⟩ X1 X2 g0)
      have CSE := Lib.hid (mov_set (C := C) (w := w) (B0 := bx) (v := v0) (N := N) (M := M) (d := d) I.out.heap ND I.out.small ⟨xi, xs, g⟩ X1 X2 g0)
      have CRE := Lib.hid (mov_remove (C := C) (w := w) (B0 := bx) (v := v0) (N := N) (M := M) (d := d) I.out.heap ND I.out.small xi OK.2.a)
      have CPO := Lib.hid (mov_pop (C := C) (w := w) (B0 := bx) (v := v0) (N := N) (M := M) (d := d) I.out.heap ND I.out.small)
      rw [← SX] at CPU CSE
      unfold itV at CPU CSE CRE CPO
      dsimp only at CPU CSE
      obtain ⟨⟨b0, b1, b2, b3⟩, y0, y1, y2⟩ := KC.out v0 _ _ MV.out.two
      clear X1 X2 SX AX AY AL LB L1 BX I ND OK hbx hby g0 hgd
      go_upto_block 2 with fail
      go_cut [12, 13, 14, 15, 16, 17, 18, 19, 20] from 70 to 133 (fun s _ _ _ _ _ _ _ _ wx => ∃ L1, s = .bool true ∧ Hid (Mov C w wx.heap.size wx wx N M d L1))
      case first =>
        by_cases k0 : k = 0
        · have j0 : (k == 0) = true := by rw [k0]; rfl
          clear k0 CSE CRE CPO
          as_aux_lemma =>
          obtain ⟨r, L1, G1, G2⟩ := CPU.out
          have rr : (r == r) = true := by simp
          have T0 := MV.out.two.below (Below.refl _ _).drew
          clear CPU MV b0 b1 b2 b3 y0 y1 y2
          go_upto_region 15 with fail
          /- push: begin -/
          refine wp_region_held_drew (S := fun w' => (w'.cell? ⟨bx, 0, none⟩ = some (.int .i64 k) ∧ w'.cell? ⟨bx, 1, none⟩ = some (.int .u64 (xi : Nat)) ∧ w'.cell? ⟨bx, 2, none⟩ = some (.int .u64 (xs : Nat)) ∧ w'.cell? ⟨bx, 3, none⟩ = some (.int .i64 g)) ∧ (w'.cell? ⟨by', 0, none⟩ = some (.int .u64 (xi : Nat)) ∧ w'.cell? ⟨by', 1, none⟩ = some (.int .u64 (xs : Nat)) ∧ w'.cell? ⟨by', 2, none⟩ = some (.int .i64 gd))) (by kernel_rfl) (KC.out _ _ _ T0) (fun hHeld => ?_)
          refine wpAnyH_take (i := 0) (v := ?_) (by (simp only [List.getElem?_toArray, List.getElem?_cons_zero]; exact rfl)) (by kernel_rfl) (by kernel_rfl) (by kernel_rfl) (by exact fun _ _ _ h => h) (Or.inl ⟨by rfl, ?_⟩) (by assumption) ?_
          rotate_left
          · (intro w hSw; (try dsimp only at hSw); first | (go_simp; done) | (go_simp; with_reducible rfl))
          try simp only [Act.put, List.setIfInBounds_toArray, List.set_cons_zero, List.set_cons_succ]
          refine wpAnyH_take (i := 1) (v := ?_) (by (simp only [List.getElem?_toArray, List.getElem?_cons_zero, List.getElem?_cons_succ]; exact rfl)) (by kernel_rfl) (by kernel_rfl) (by kernel_rfl) (by exact fun _ _ _ h => h) (Or.inl ⟨by rfl, ?_⟩) (by assumption) ?_
          rotate_left
          · (intro w hSw; (try dsimp only at hSw); first | (go_simp; done) | (go_simp; with_reducible rfl))
          try simp only [Act.put, List.setIfInBounds_toArray, List.set_cons_zero, List.set_cons_succ]
          refine wpAnyH_take (i := 2) (v := ?_) (by (simp only [List.getElem?_toArray, List.getElem?_cons_zero, List.getElem?_cons_succ]; exact rfl)) (by kernel_rfl) (by kernel_rfl) (by kernel_rfl) (by exact fun _ _ _ h => h) (Or.inl ⟨by rfl, ?_⟩) (by assumption) ?_
          rotate_left
          · (intro w hSw; (try dsimp only at hSw); first | (go_simp; done) | (go_simp; with_reducible rfl))
          try simp only [Act.put, List.setIfInBounds_toArray, List.set_cons_zero, List.set_cons_succ]
          refine wpAnyH_take (i := 4) (v := ?_) (by (simp only [List.getElem?_toArray, List.getElem?_cons_zero, List.getElem?_cons_succ]; exact rfl)) (by kernel_rfl) (by kernel_rfl) (by kernel_rfl) (by exact fun _ _ _ h => h) (Or.inl ⟨by rfl, ?_⟩) (by assumption) ?_
          rotate_left
          · (intro w hSw; (try dsimp only at hSw); first | (go_simp; done) | (go_simp; with_reducible rfl))
          try simp only [Act.put, List.setIfInBounds_toArray, List.set_cons_zero, List.set_cons_succ]
          refine wpAnyH_take (i := 5) (v := ?_) (by (simp only [List.getElem?_toArray, List.getElem?_cons_zero, List.getElem?_cons_succ]; exact rfl)) (by kernel_rfl) (by kernel_rfl) (by kernel_rfl) (by exact fun _ _ _ h => h) (Or.inl ⟨by rfl, ?_⟩) (by assumption) ?_
          rotate_left
          · (intro w hSw; (try dsimp only at hSw); first | (go_simp; done) | (go_simp; with_reducible rfl))
          try simp only [Act.put, List.setIfInBounds_toArray, List.set_cons_zero, List.set_cons_succ]
          refine wpAnyH_ready (rs := [3]) (by kernel_rfl) (by simp) ?_
          refine AllReadyH.cons (by (simp only [List.getElem?_toArray, List.getElem?_cons_zero, List.getElem?_cons_succ]; exact rfl)) (fun K hK => ?_) AllReadyH.nil
          go_simp
          (go_at_call 12; refine (G1 _ T0).mono ?_; rintro e w6 ⟨rfl, T1⟩)
          go_wp2_with fail
          refine hK.out _ _ (KC.out _ _ _ T1) (fun hHeld => ?_)
          clear hK K
          try simp only [Act.put, List.setIfInBounds_toArray, List.set_cons_zero, List.set_cons_succ]
          refine wpAnyH_ready (rs := [6]) (by kernel_rfl) (by simp) ?_
          refine AllReadyH.cons (by (simp only [List.getElem?_toArray, List.getElem?_cons_zero, List.getElem?_cons_succ]; exact rfl)) (fun K hK => ?_) AllReadyH.nil
          go_simp
          (go_at_call 12; refine (G2 _ T1).mono ?_; rintro e w7 ⟨rfl, T2⟩)
          go_wp2_with fail
          refine hK.out _ _ (KC.out _ _ _ T2.two) (fun hHeld => ?_)
          clear hK K
          try simp only [Act.put, List.setIfInBounds_toArray, List.set_cons_zero, List.set_cons_succ]
          refine wpAnyH_take (i := 7) (v := ?_) (by (simp only [List.getElem?_toArray, List.getElem?_cons_zero, List.getElem?_cons_succ]; exact rfl)) (by kernel_rfl) (by kernel_rfl) (by kernel_rfl) (by exact fun _ _ _ h => h) (Or.inl ⟨by rfl, ?_⟩) (by assumption) ?_
          rotate_left
          · (intro w hSw; (try dsimp only at hSw); first | (go_simp; done) | (go_simp; with_reducible rfl))
          try simp only [Act.put, List.setIfInBounds_toArray, List.set_cons_zero, List.set_cons_succ]
          refine wpAnyH_take (i := 8) (v := ?_) (by (simp only [List.getElem?_toArray, List.getElem?_cons_zero, List.getElem?_cons_succ]; exact rfl)) (by kernel_rfl) (by kernel_rfl) (by kernel_rfl) (by exact fun _ _ _ h => h) (Or.inl ⟨by rfl, ?_⟩) (by assumption) ?_
          rotate_left
          · (intro w hSw; (try dsimp only at hSw); first | (go_simp; done) | (go_simp; with_reducible rfl))
          try simp only [Act.put, List.setIfInBounds_toArray, List.set_cons_zero, List.set_cons_succ]
          refine wpAnyH_done (by kernel_rfl) ?_ _
          /- push: end -/
          go_wp2_with fail
          go_meet
          exact ⟨L1, rfl, T2.again⟩
        · have j0 : (k == 0) = false := by rw [beq_eq_false_iff_ne]; exact k0
          clear CPU
          by_cases k1 : k = 1
          · have j1 : (k == 1) = true := by rw [k1]; rfl
            clear k0 k1 CRE CPO
            as_aux_lemma =>
            obtain ⟨r, L1, G1, G2⟩ := CSE.out
            have rr : (r == r) = true := by simp
            have T0 := MV.out.two.below (Below.refl _ _).drew
            clear CSE MV b0 b1 b2 b3 y0 y1 y2
            go_upto_region 17 with fail
            /- set: begin -/
            refine wp_region_held_drew (S := fun w' => (w'.cell? ⟨bx, 0, none⟩ = some (.int .i64 k) ∧ w'.cell? ⟨bx, 1, none⟩ = some (.int .u64 (xi : Nat)) ∧ w'.cell? ⟨bx, 2, none⟩ = some (.int .u64 (xs : Nat)) ∧ w'.cell? ⟨bx, 3, none⟩ = some (.int .i64 g)) ∧ (w'.cell? ⟨by', 0, none⟩ = some (.int .u64 (xi : Nat)) ∧ w'.cell? ⟨by', 1, none⟩ = some (.int .u64 (xs : Nat)) ∧ w'.cell? ⟨by', 2, none⟩ = some (.int .i64 gd))) (by kernel_rfl) (KC.out _ _ _ T0) (fun hHeld => ?_)
            refine wpAnyH_take (i := 0) (v := ?_) (by (simp only [List.getElem?_toArray, List.getElem?_cons_zero]; exact rfl)) (by kernel_rfl) (by kernel_rfl) (by kernel_rfl) (by exact fun _ _ _ h => h) (Or.inl ⟨by rfl, ?_⟩) (by assumption) ?_
            rotate_left
            · (intro w hSw; (try dsimp only at hSw); first | (go_simp; done) | (go_simp; with_reducible rfl))
            try simp only [Act.put, List.setIfInBounds_toArray, List.set_cons_zero, List.set_cons_succ]
            refine wpAnyH_take (i := 1) (v := ?_) (by (simp only [List.getElem?_toArray, List.getElem?_cons_zero, List.getElem?_cons_succ]; exact rfl)) (by kernel_rfl) (by kernel_rfl) (by kernel_rfl) (by exact fun _ _ _ h => h) (Or.inl ⟨by rfl, ?_⟩) (by assumption) ?_
            rotate_left
            · (intro w hSw; (try dsimp only at hSw); first | (go_simp; done) | (go_simp; with_reducible rfl))
            try simp only [Act.put, List.setIfInBounds_toArray, List.set_cons_zero, List.set_cons_succ]
            refine wpAnyH_take (i := 2) (v := ?_) (by (simp only [List.getElem?_toArray, List.getElem?_cons_zero, List.getElem?_cons_succ]; exact rfl)) (by kernel_rfl) (by kernel_rfl) (by kernel_rfl) (by exact fun _ _ _ h => h) (Or.inl ⟨by rfl, ?_⟩) (by assumption) ?_
            rotate_left
            · (intro w hSw; (try dsimp only at hSw); first | (go_simp; done) | (go_simp; with_reducible rfl))
            try simp only [Act.put, List.setIfInBounds_toArray, List.set_cons_zero, List.set_cons_succ]
            refine wpAnyH_take (i := 4) (v := ?_) (by (simp only [List.getElem?_toArray, List.getElem?_cons_zero, List.getElem?_cons_succ]; exact rfl)) (by kernel_rfl) (by kernel_rfl) (by kernel_rfl) (by exact fun _ _ _ h => h) (Or.inl ⟨by rfl, ?_⟩) (by assumption) ?_
            rotate_left
            · (intro w hSw; (try dsimp only at hSw); first | (go_simp; done) | (go_simp; with_reducible rfl))
            try simp only [Act.put, List.setIfInBounds_toArray, List.set_cons_zero, List.set_cons_succ]
            refine wpAnyH_take (i := 5) (v := ?_) (by (simp only [List.getElem?_toArray, List.getElem?_cons_zero, List.getElem?_cons_succ]; exact rfl)) (by kernel_rfl) (by kernel_rfl) (by kernel_rfl) (by exact fun _ _ _ h => h) (Or.inl ⟨by rfl, ?_⟩) (by assumption) ?_
            rotate_left
            · (intro w hSw; (try dsimp only at hSw); first | (go_simp; done) | (go_simp; with_reducible rfl))
            try simp only [Act.put, List.setIfInBounds_toArray, List.set_cons_zero, List.set_cons_succ]
            refine wpAnyH_ready (rs := [3]) (by kernel_rfl) (by simp) ?_
            refine AllReadyH.cons (by (simp only [List.getElem?_toArray, List.getElem?_cons_zero, List.getElem?_cons_succ]; exact rfl)) (fun K hK => ?_) AllReadyH.nil
            go_simp
            (go_at_call 15; refine (G1 _ T0).mono ?_; rintro e w6 ⟨rfl, T1⟩)
            go_wp2_with fail
            refine hK.out _ _ (KC.out _ _ _ T1) (fun hHeld => ?_)
            clear hK K
            try simp only [Act.put, List.setIfInBounds_toArray, List.set_cons_zero, List.set_cons_succ]
            refine wpAnyH_ready (rs := [6]) (by kernel_rfl) (by simp) ?_
            refine AllReadyH.cons (by (simp only [List.getElem?_toArray, List.getElem?_cons_zero, List.getElem?_cons_succ]; exact rfl)) (fun K hK => ?_) AllReadyH.nil
            go_simp
            (go_at_call 15; refine (G2 _ T1).mono ?_; rintro e w7 ⟨rfl, T2⟩)
            go_wp2_with fail
            refine hK.out _ _ (KC.out _ _ _ T2.two) (fun hHeld => ?_)
            clear hK K
            try simp only [Act.put, List.setIfInBounds_toArray, List.set_cons_zero, List.set_cons_succ]
            refine wpAnyH_take (i := 7) (v := ?_) (by (simp only [List.getElem?_toArray, List.getElem?_cons_zero, List.getElem?_cons_succ]; exact rfl)) (by kernel_rfl) (by kernel_rfl) (by kernel_rfl) (by exact fun _ _ _ h => h) (Or.inl ⟨by rfl, ?_⟩) (by assumption) ?_
            rotate_left
            · (intro w hSw; (try dsimp only at hSw); first | (go_simp; done) | (go_simp; with_reducible rfl))
            try simp only [Act.put, List.setIfInBounds_toArray, List.set_cons_zero, List.set_cons_succ]
            refine wpAnyH_take (i := 8) (v := ?_) (by (simp only [List.getElem?_toArray, List.getElem?_cons_zero, List.getElem?_cons_succ]; exact rfl)) (by kernel_rfl) (by kernel_rfl) (by kernel_rfl) (by exact fun _ _ _ h => h) (Or.inl ⟨by rfl, ?_⟩) (by assumption) ?_
            rotate_left
            · (intro w hSw; (try dsimp only at hSw); first | (go_simp; done) | (go_simp; with_reducible rfl))
            try simp only [Act.put, List.setIfInBounds_toArray, List.set_cons_zero, List.set_cons_succ]
            refine wpAnyH_done (by kernel_rfl) ?_ _
            /- set: end -/
            go_wp2_with fail
            go_meet
            exact ⟨L1, rfl, T2.again⟩
          · have j1 : (k == 1) = false := by rw [beq_eq_false_iff_ne]; exact k1
            clear CSE
            by_cases k2 : k = 2
            · have j2 : (k == 2) = true := by rw [k2]; rfl
              clear k0 k1 k2 CPO
              as_aux_lemma =>
              obtain ⟨r, x, y, L1, G1, G2⟩ := CRE.out
              have rr : (r == r) = true := by simp
              have T0 := MV.out.two
              clear CRE MV
              go_wp2_with fail
              refine (G1 _ T0).mono ?_; rintro e w6 ⟨rfl, T1⟩
              have T2 := T1.below ((Below.refl w6.heap.size w6).alloc (Nat.le_refl _) (.cells #[.int .u64 (x.id : Nat), .int .u64 (x.seq : Nat), .int .i64 x.t] 34))
              clear b0 b1 b2 b3 y0 y1 y2
              obtain ⟨-, y0, y1, y2⟩ := KC.out _ _ _ T2
              clear T1 T0 G1
              go_wp2_with fail
              refine (G2 _ T2).mono ?_; rintro e w7 ⟨rfl, M2⟩
              have M3 := M2.below ((Below.refl w7.heap.size w7).alloc (Nat.le_refl _) (.cells #[.int .u64 (y.id : Nat), .int .u64 (y.seq : Nat), .int .i64 y.t] 34))
              clear M2 T2 G2 y0 y1 y2 KC
              go_wp2_with fail
              go_meet
              exact ⟨L1, rfl, M3.again⟩
            · have j2 : (k == 2) = false := by rw [beq_eq_false_iff_ne]; exact k2
              clear CRE
              by_cases k3 : k = 3
              · have j3 : (k == 3) = true := by rw [k3]; rfl
                clear k0 k1 k2 k3
                as_aux_lemma =>
                obtain ⟨r, x, y, L1, IX, G1, G2⟩ := CPO.out
                have rr : (r == r) = true := by simp
                have ix : ((x.id : Int) == (y.id : Int)) = true := by rw [IX]; simp
                have T0 := MV.out.two
                clear CPO MV KC b0 b1 b2 b3 y0 y1 y2 IX
                go_wp2_with fail
                refine (G1 _ T0).mono ?_; rintro e w6 ⟨rfl, T1⟩
                have AX : Hid ((w6.alloc (.cells #[.int .u64 (x.id : Nat), .int .u64 (x.seq : Nat), .int .i64 x.t] 34)).heap[w6.heap.size]? = some (.cells #[.int .u64 (x.id : Nat), .int .u64 (x.seq : Nat), .int .i64 x.t] 34 (0, 0))) := heap_alloc_new _ _
                have T2 := T1.start ((Below.refl w6.heap.size w6).alloc (Nat.le_refl _) (.cells #[.int .u64 (x.id : Nat), .int .u64 (x.seq : Nat), .int .i64 x.t] 34))
                clear T1 T0 G1
                go_wp2_with fail
                refine (G2 _ _ _ T2).mono ?_; rintro e w7 ⟨rfl, M2⟩
                have bl := Nat.lt_of_lt_of_le (Array.getElem?_eq_some_iff.1 AX.out).1 M2.two.size
                have b1 := M2.two.cells (o := 0) (Nat.le_refl _) AX.out
                have b2 : (w7.alloc (.cells #[.int .u64 (y.id : Nat), .int .u64 (y.seq : Nat), .int .i64 y.t] 34)).cell? ⟨w6.heap.size, 0, none⟩ = _ := (((Below.refl w7.heap.size w7).alloc (Nat.le_refl _) (.cells #[.int .u64 (y.id : Nat), .int .u64 (y.seq : Nat), .int .i64 y.t] 34)).cell bl).trans b1
                have b3 := blk_cell (o := 0) (heap_alloc_new w7 (.cells #[.int .u64 (y.id : Nat), .int .u64 (y.seq : Nat), .int .i64 y.t] 34))
                simp only [List.getElem?_toArray, List.getElem?_cons_zero] at b1 b2 b3
                have M3 := M2.below ((Below.refl w7.heap.size w7).alloc (Nat.le_refl _) (.cells #[.int .u64 (y.id : Nat), .int .u64 (y.seq : Nat), .int .i64 y.t] 34))
                clear M2 T2 G2 b1 bl AX
                go_wp2_with fail
                go_meet
                exact ⟨L1, rfl, M3.again⟩
              · have j3 : (k == 3) = false := by rw [beq_eq_false_iff_ne]; exact k3
                clear k0 k1 k2 k3 CPO KC
                have M3 := MV.out.again
                clear MV
                go_wp2_with fail
                go_meet
                exact ⟨L, rfl, M3⟩
      case rest =>
        obtain ⟨L1, rfl, MV2⟩ := hcut
        have fit := MV2.out.two.fit.1
        have EQ : decide (idsOf L1 = idsOf (L1.map (shift d))) = true := by rw [ids_shift]; exact decide_eq_true rfl
        have LI := Lib.hid lids13_any
        have SE := Lib.hid sequal_any
        obtain ⟨m, hm⟩ : ∃ m, L1.length = m := ⟨_, rfl⟩
        have hm1 : (idsOf L1).length = m := by rw [idsOf_len, hm]
        have hm2 : (idsOf (L1.map (shift d))).length = m := by rw [ids_shift, hm1]
        have hm3 : (L1.map (shift d)).length = m := by rw [List.length_map, hm]
        have mb : m ≤ 60 := by omega
        have RA : Hid (∀ w', Mov C w wc.heap.size wc w' N M d L1 → Calls Try.prog 26 #[.pointer (some ⟨N, 0, none⟩)] w' fun e w'' => ∃ p c, e = .returned (.slice p m c) ∧ HoldsI w'' p m c L1 ∧ Mov C w wc.heap.size wc w'' N M d L1) := fun w' h => h.two.row.mono fun e w'' ⟨p, c, a, r, t⟩ => ⟨p, c, by rw [a, hm], by rw [hm] at r; exact r, t, h.heap, h.small⟩
        have RB : Hid (∀ w', Mov C w wc.heap.size wc w' N M d L1 → Calls Try.prog 26 #[.pointer (some ⟨M, 0, none⟩)] w' fun e w'' => ∃ p c, e = .returned (.slice p m c) ∧ HoldsI w'' p m c (L1.map (shift d)) ∧ Mov C w wc.heap.size wc w'' N M d L1 ∧ Below w'.heap.size w' w'') := fun w' h => by
          obtain ⟨F, G, -, hG, -⟩ := h.two.out
          exact (C.row hG).mono fun e w'' ⟨p, c, a, r, _, b⟩ => ⟨p, c, by rw [a, hm3], by rw [hm3] at r; exact r, h.below b, b⟩
        have IA : Hid (∀ w' p c, HoldsI w' p m c L1 → Mov C w wc.heap.size wc w' N M d L1 → Calls Try.prog 31 #[.slice p m c] w' fun e w'' => ∃ p c, e = .returned (.slice p m c) ∧ Holds w'' p m c (valsN .u64 (idsOf L1)) ∧ Mov C w wc.heap.size wc w'' N M d L1) := fun w' p c h k => (LI.out w' p m c L1 h (by omega)).mono fun e w'' ⟨p, c, a, r, b⟩ => ⟨p, c, by rw [a, hm1], by rw [hm1] at r; exact r, k.below b⟩
        have IB : Hid (∀ w' p c, HoldsI w' p m c (L1.map (shift d)) → Mov C w wc.heap.size wc w' N M d L1 → Calls Try.prog 31 #[.slice p m c] w' fun e w'' => ∃ p c, e = .returned (.slice p m c) ∧ Holds w'' p m c (valsN .u64 (idsOf (L1.map (shift d)))) ∧ Mov C w wc.heap.size wc w'' N M d L1 ∧ Below w'.heap.size w' w'') := fun w' p c h k => (LI.out w' p m c _ h (by omega)).mono fun e w'' ⟨p, c, a, r, b⟩ => ⟨p, c, by rw [a, hm2], by rw [hm2] at r; exact r, k.below b, b⟩
        have SQ : Hid (∀ w' p c q e, Holds w' p m c (valsN .u64 (idsOf L1)) → Holds w' q m e (valsN .u64 (idsOf (L1.map (shift d)))) → Mov C w wc.heap.size wc w' N M d L1 → Calls Try.prog 30 #[.slice p m c, .slice q m e] w' fun e w'' => e = .returned (.bool true) ∧ Mov C w wc.heap.size wc w'' N M d L1) := fun w' p c q e h1 h2 k => (SE.out w' p q m c m e _ _ h1 h2 (by omega) (by omega)).mono fun e w'' ⟨a, j, b⟩ => ⟨by rw [a, EQ], by rw [b]; exact k.below (below_drewN (Below.refl _ _) j)⟩
        clear fit EQ LI SE hm hm1 hm2 hm3 mb
        go_wp2_with fail
        refine (RA.out wc MV2.out).mono ?_; rintro e w6 ⟨p6, c6, rfl, r6, k6⟩
        have R6 := Lib.hid r6
        have K6 := Lib.hid k6
        clear r6 k6 RA MV2
        go_wp2_with fail
        refine (IA.out w6 p6 c6 R6.out K6.out).mono ?_; rintro e w7 ⟨p7, c7, rfl, r7, k7⟩
        have R7 := Lib.hid r7
        have K7 := Lib.hid k7
        clear r7 k7 IA R6 K6
        go_wp2_with fail
        refine (RB.out w7 K7.out).mono ?_; rintro e w8 ⟨p8, c8, rfl, r8, k8, b8⟩
        replace R7 := Lib.hid (R7.out.below b8)
        have R8 := Lib.hid r8
        have K8 := Lib.hid k8
        clear r8 k8 b8 RB K7
        go_wp2_with fail
        refine (IB.out w8 p8 c8 R8.out K8.out).mono ?_; rintro e w9 ⟨p9, c9, rfl, r9, k9, b9⟩
        replace R7 := Lib.hid (R7.out.below b9)
        have R9 := Lib.hid r9
        have K9 := Lib.hid k9
        clear r9 k9 b9 IB K8 R8
        go_wp2_with fail
        refine (SQ.out w9 p7 c7 p9 c9 R7.out R9.out K9.out).mono ?_; rintro e wx ⟨rfl, kx⟩
        have KX := Lib.hid kx.again
        clear kx SQ K9 R7 R9
        go_wp2_with fail
        go_round
        case rel => exact ⟨q + 1, L1, by go_num, NB, KX⟩
        case measure => simp [intOf]; omega
  case rest =>
  obtain ⟨L, MV⟩ := hcut
  clear HP HL HD nb I0
  have LH := Lib.hid MV.out.heap
  have LN := Lib.hid MV.out.two.fit
  have HA : Hid (HAt C w wc N 60 L) := by
    obtain ⟨F, G, hF, -, uf, -⟩ := MV.out.two.out
    exact ⟨⟨F, hF, fun K hK => (uf K hK).1⟩, MV.out.two.low⟩
  obtain ⟨m, hm⟩ : ∃ m, L.length = m := ⟨_, rfl⟩
  have m60 : m ≤ 60 := by have := LN.out.1; omega
  have mi : (m : Int) ≤ 60 := by omega
  have HM := Lib.hid hm
  have NW : Hid (Calls Try.prog 9 #[.int .i64 60] wc fun e w' => ∃ K, e = .returned (.tuple #[.pointer (some ⟨K, 0, none⟩), .int .i64 0]) ∧ Two C w w'.heap.size w' w' N K 60 L []) := HA.out.second (by decide) (by decide)
  clear MV HA hm
  go_wp2_with fail
  refine NW.out.mono ?_; rintro e w6 ⟨K, rfl, t6⟩
  have RO : Hid (Calls Try.prog 26 #[.pointer (some ⟨N, 0, none⟩)] w6 fun e w'' => ∃ p c, e = .returned (.slice p m c) ∧ HoldsI w'' p m c L ∧ (∀ a, p = some a → w6.heap.size ≤ a.block) ∧ Two C w w6.heap.size w'' w'' N K 60 L []) := by
    obtain ⟨F, G, hF, -⟩ := t6.out
    refine (C.row hF).mono fun e w'' ⟨p, c, a, r, n, b⟩ => ⟨p, c, by rw [a, HM.out], by rw [HM.out] at r; exact r, n, t6.start b⟩
  clear NW t6
  go_wp2_with fail
  refine RO.out.mono ?_; rintro e w7 ⟨pr, cr, rfl, r7, n7, t7⟩
  have R7 := Lib.hid r7
  have N7 := Lib.hid n7
  have T7 := Lib.hid t7
  clear r7 n7 t7 RO
  go_wp2_with fail
  go_loopw [155] (fun i wr => ∃ (q : Nat) (B : List It), i = .int .i64 (q : Nat) ∧ Hid (q ≤ m) ∧ Hid (Two C w w6.heap.size w7 wr N K 60 L B ∧ Heap B ∧ B.Perm (L.drop (m - q)))) (fun i _ => 1000 - (intOf i).toNat)
  case atStart => exact ⟨0, [], rfl, Nat.zero_le _, T7.out, Heap.nil, by rw [Nat.sub_zero, ← HM.out, List.drop_length]⟩
  case round =>
    clear T7
    obtain ⟨q, B, rfl, hq, I⟩ := hrel
    have q0 : (0 : Int) ≤ (q : Int) := by omega
    by_cases stop : m ≤ q
    · have e : m = q := by have := hq.out; omega
      subst e
      have z1 : decide ((m : Int) < (m : Int)) = false := decide_eq_false (by omega)
      have I3 : Hid (Two C w w6.heap.size w7 wr N K 60 L B ∧ Heap L ∧ Heap B ∧ L.Perm B) := ⟨I.out.1, LH.out, I.out.2.1, by have := I.out.2.2; rw [Nat.sub_self, List.drop_zero] at this; exact this.symm⟩
      clear I hq stop R7 N7
      go_wp2_with fail
      go_loopw [172] (fun i wr => ∃ (q : Nat) (A B : List It) (B0 : Nat) (v : World), i = .int .i64 (q : Nat) ∧ Hid (q ≤ m ∧ A.length = m - q) ∧ Hid (Two C w B0 v wr N K 60 A B ∧ Heap A ∧ Heap B ∧ A.Perm B)) (fun i _ => 1000 - (intOf i).toNat)
      case atStart => exact ⟨0, L, B, _, _, rfl, ⟨Nat.zero_le _, HM.out⟩, I3.out⟩
      case round =>
        clear I3 LH LN HM
        obtain ⟨q, A, B, B0, v, rfl, hq, I⟩ := hrel
        have q0 : (0 : Int) ≤ (q : Int) := by omega
        by_cases stop : m ≤ q
        · have e : m = q := by have := hq.out.1; omega
          subst e
          have z1 : decide ((m : Int) < (m : Int)) = false := decide_eq_false (by omega)
          have LE : Hid (Calls Try.prog 13 #[.pointer (some ⟨K, 0, none⟩)] wr fun e w' => e = .returned (.int .i64 0) ∧ Below w.heap.size w w') := by
            have h := hq.out.2
            rw [Nat.sub_self, I.out.2.2.2.length_eq] at h
            exact I.out.1.swap.len.mono fun e w' ⟨a, t⟩ => ⟨by rw [a, h]; rfl, t.low⟩
          clear hq stop I
          go_wp2_with fail
          refine LE.out.mono ?_; rintro e w9 ⟨rfl, lo⟩
          have LO := Lib.hid lo
          clear lo LE
          go_wp2
          go_ret
          exact ⟨rfl, LO.out⟩
        · have h' : (q : Int) < (m : Int) := by omega
          have A0 : 0 < A.length := by rw [hq.out.2]; omega
          obtain ⟨e1, e2, e3, e4, e5, e6, e7⟩ := both_pop I.out.2.1 I.out.2.2.1 I.out.2.2.2 A0
          have Q2 : Hid (q + 1 ≤ m ∧ (popR A).length = m - (q + 1)) := ⟨by omega, by rw [e7, hq.out.2, Nat.sub_sub]⟩
          have PA : Hid (Calls Try.prog 19 #[.pointer (some ⟨N, 0, none⟩)] wr fun e w' => e = .returned (.tuple #[itV (popX A), .int .i64 0]) ∧ Two C w B0 v w' N K 60 (popR A) B) := I.out.1.pop.mono fun e w' ⟨a, t⟩ => ⟨by rw [a, e2], t⟩
          have PB : Hid (∀ B1 v1 wr, Two C w B1 v1 wr N K 60 (popR A) B → Calls Try.prog 19 #[.pointer (some ⟨K, 0, none⟩)] wr fun e w' => e = .returned (.tuple #[itV (popX A), .int .i64 0]) ∧ Two C w B1 v1 w' N K 60 (popR A) (popR B)) := fun B1 v1 wr h => h.swap.pop.mono fun e w' ⟨a, t⟩ => ⟨by rw [a, e3, e1], t.swap⟩
          have E6 : Hid (Heap (popR A) ∧ Heap (popR B) ∧ (popR A).Perm (popR B)) := ⟨e4, e5, e6⟩
          generalize popR A = A' at *
          generalize popR B = B' at *
          generalize popX A = x at *
          have NE := fun W => neq_it W x x true (decide_eq_true rfl)
          unfold itV at PA PB
          clear e1 e2 e3 e4 e5 e6 e7 A0 I hq stop
          go_wp2_with fail
          refine PA.out.mono ?_; rintro e w8 ⟨rfl, T1⟩
          have AX : Hid ((w8.alloc (.cells #[.int .u64 (x.id : Nat), .int .u64 (x.seq : Nat), .int .i64 x.t] 34)).heap[w8.heap.size]? = some (.cells #[.int .u64 (x.id : Nat), .int .u64 (x.seq : Nat), .int .i64 x.t] 34 (0, 0))) := heap_alloc_new _ _
          have T2 := T1.start ((Below.refl w8.heap.size w8).alloc (Nat.le_refl _) (.cells #[.int .u64 (x.id : Nat), .int .u64 (x.seq : Nat), .int .i64 x.t] 34))
          clear T1 PA
          go_wp2_with fail
          refine (PB.out _ _ _ T2).mono ?_; rintro e w9 ⟨rfl, T3⟩
          have BX : Hid (w9.heap[w8.heap.size]? = some (.cells #[.int .u64 (x.id : Nat), .int .u64 (x.seq : Nat), .int .i64 x.t] 34 (0, 0))) := (T3.keep _ (Nat.le_refl _) (Array.getElem?_eq_some_iff.1 AX.out).1).trans AX.out
          have LA := (Below.refl w9.heap.size w9).alloc (Nat.le_refl _) (.cells #[.int .u64 (x.id : Nat), .int .u64 (x.seq : Nat), .int .i64 x.t] 34)
          have BX2 := (LA.block _ (Array.getElem?_eq_some_iff.1 BX.out).1).trans BX.out
          have b0 := blk_cell (o := 0) BX2
          have b1 := blk_cell (o := 1) BX2
          have b2 := blk_cell (o := 2) BX2
          have b3 := blk_cell (o := 0) (heap_alloc_new w9 (.cells #[.int .u64 (x.id : Nat), .int .u64 (x.seq : Nat), .int .i64 x.t] 34))
          have b4 := blk_cell (o := 1) (heap_alloc_new w9 (.cells #[.int .u64 (x.id : Nat), .int .u64 (x.seq : Nat), .int .i64 x.t] 34))
          have b5 := blk_cell (o := 2) (heap_alloc_new w9 (.cells #[.int .u64 (x.id : Nat), .int .u64 (x.seq : Nat), .int .i64 x.t] 34))
          simp only [List.getElem?_toArray, List.getElem?_cons_zero, List.getElem?_cons_succ] at b0 b1 b2 b3 b4 b5
          have I2 : Hid (Two C w _ _ (w9.alloc (.cells #[.int .u64 (x.id : Nat), .int .u64 (x.seq : Nat), .int .i64 x.t] 34)) N K 60 A' B' ∧ Heap A' ∧ Heap B' ∧ A'.Perm B') := ⟨T3.below LA, E6.out⟩
          clear T2 T3 PB AX BX LA BX2 E6
          go_wp2_with fail
          go_round
          case rel => exact ⟨q + 1, _, _, _, _, by go_num, Q2, I2⟩
          case measure => simp [intOf]; omega
    · have h' : (q : Int) < (m : Int) := by omega
      have qm : q < m := by omega
      have S := Lib.hid (back_push LN.out.2 HM.out m60 qm I.out.2.2)
      obtain ⟨j, hj⟩ : ∃ j, m - 1 - q = j := ⟨_, rfl⟩
      have jm : j < m := by omega
      obtain ⟨a, rfl, c0, c1, c2⟩ := (I.out.1.items R7.out N7.out).at jm
      have OKX : ItOk (gt L j) := by
        obtain ⟨F, G, hF, -⟩ := I.out.1.out
        exact C.oks hF _ (gt_mem (by rw [HM.out]; exact jm))
      rw [hj] at S
      generalize gt L j = x at *
      have PU : Hid (Calls Try.prog 12 #[.pointer (some ⟨K, 0, none⟩), .agg #[.int .u64 (x.id : Nat), .int .u64 (x.seq : Nat), .int .i64 x.t]] wr fun e w' => e = .returned (.int .i64 0) ∧ (Two C w w6.heap.size w7 w' N K 60 L (pushR 60 B x) ∧ Heap (pushR 60 B x) ∧ (pushR 60 B x).Perm (L.drop (m - (q + 1))))) := (I.out.1.swap.push x OKX).mono fun e w' ⟨a, k⟩ => ⟨by rw [a]; exact congrArg (fun z => Ending.returned (Value.int .i64 z)) S.out.1, k.swap, pushR_heap _ I.out.2.1, S.out.2⟩
      obtain ⟨m1, hm1⟩ : ∃ k : Int, (m : Int) - 1 = k := ⟨_, rfl⟩
      have u1 : m1 - (q : Int) = (j : Nat) := by omega
      have u2 : IntKind.i64.wrap m1 = m1 := by rw [IntKind.wrap_i64]; omega
      have u3 : wrap64 m1 = m1 := by unfold wrap64; omega
      have u4 : IntKind.i64.wrap (j : Int) = (j : Int) := by rw [IntKind.wrap_i64]; omega
      have u5 : wrap64 (j : Int) = (j : Int) := by unfold wrap64; omega
      have j0 : (0 : Int) ≤ (j : Int) := by omega
      have jm' : (j : Int) < (m : Int) := by omega
      have Q2 : Hid (q + 1 ≤ m) := qm
      clear S OKX I hq stop qm hj R7 N7
      go_wp2_with fail
      refine PU.out.mono ?_; rintro e w8 ⟨rfl, h⟩
      have I2 := Lib.hid h
      clear h PU c0 c1 c2
      go_wp2_with fail
      go_round
      case rel => exact ⟨q + 1, _, by go_num, Q2, I2⟩
      case measure => simp [intOf]; omega
end Go.Proofs.Ytlfbenlojiiknaa
