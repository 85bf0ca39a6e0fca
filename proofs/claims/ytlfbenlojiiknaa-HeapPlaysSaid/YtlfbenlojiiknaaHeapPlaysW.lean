/- HeapPlays: the walk. -/
import Derived.Test.YtlfbenlojiiknaaHeapPlaysN
import Derived.Test.YtlfbenlojiiknaaHeapO
import Derived.Test.YtlfbenlojiiknaaFrameH
import Derived.Deep.CutBlock
import Derived.Deep.CutRange
set_option maxRecDepth 100000
namespace Go.Proofs.Ytlfbenlojiiknaa
open Go.ChangeShapes Go.WideShapes Go.ChangeAt Go.RowKit HeapM

/-- A box as a thing beside the heaps. -/
def boxTh (K : Nat) (o : Obj) : Th := ⟨fun w F => w.heap[K]? = some o ∧ ∀ J, F J ↔ J = K, fun h k => ⟨(k K ((h.2 K).2 rfl)).trans h.1, h.2⟩, fun h J j => by rw [(h.2 J).1 j]; exact (Array.getElem?_eq_some_iff.1 h.1).1⟩
section
variable {C : HCode} {w : World} {B0 : Nat} {v wr : World} {N M sz : Nat} {L : List It}
theorem Side.box {T1 T2 : Th} {K : Nat} {o : Obj} (h : Side w B0 v wr T1 T2 (boxTh K o)) : wr.heap[K]? = some o := by
  obtain ⟨F, G, H, -, -, q, -⟩ := h.out
  exact q.1
theorem pl_push (x : It) (hx : ItOk x) : ∃ (r : Int) (L1 : List It), (∀ wr, Pl C w B0 v wr N M sz L L noTh → Calls Try.prog 12 #[.pointer (some ⟨N, 0, none⟩), itV x] wr fun e w' => e = .returned (.int .i64 r) ∧ Pl C w B0 v w' N M sz L1 L noTh) ∧
    ∀ wr, Pl C w B0 v wr N M sz L1 L noTh → Calls Try.prog 14 #[.pointer (some ⟨M, 0, none⟩), itV x] wr fun e w' => e = .returned (.int .i64 r) ∧ Pl C w B0 v w' N M sz L1 L1 noTh := ⟨_, _, fun _ h => h.push x hx, fun _ h => h.rpush x⟩
theorem pl_set (x : It) (hx : ItOk x) : ∃ (r : Int) (L1 : List It), (∀ wr, Pl C w B0 v wr N M sz L L noTh → Calls Try.prog 15 #[.pointer (some ⟨N, 0, none⟩), itV x] wr fun e w' => e = .returned (.int .i64 r) ∧ Pl C w B0 v w' N M sz L1 L noTh) ∧
    ∀ wr, Pl C w B0 v wr N M sz L1 L noTh → Calls Try.prog 16 #[.pointer (some ⟨M, 0, none⟩), itV x] wr fun e w' => e = .returned (.int .i64 r) ∧ Pl C w B0 v w' N M sz L1 L1 noTh := ⟨_, _, fun _ h => h.set x hx, fun _ h => h.rset x⟩
theorem pl_remove (d : Nat) (hd : d < 18446744073709551616) : ∃ (r : Int) (x : It) (L1 : List It), (∀ wr, Pl C w B0 v wr N M sz L L noTh → Calls Try.prog 17 #[.pointer (some ⟨N, 0, none⟩), .int .u64 (d : Nat)] wr fun e w' => e = .returned (.tuple #[itV x, .int .i64 r]) ∧ Pl C w B0 v w' N M sz L1 L noTh) ∧
    ∀ T wr, Pl C w B0 v wr N M sz L1 L T → Calls Try.prog 18 #[.pointer (some ⟨M, 0, none⟩), .int .u64 (d : Nat)] wr fun e w' => e = .returned (.tuple #[itV x, .int .i64 r]) ∧ Pl C w B0 v w' N M sz L1 L1 T := ⟨_, _, _, fun _ h => h.remove d hd, fun _ _ h => h.rremove d⟩
theorem pl_pop : ∃ (r : Int) (x : It) (L1 : List It), (∀ wr, Pl C w B0 v wr N M sz L L noTh → Calls Try.prog 19 #[.pointer (some ⟨N, 0, none⟩)] wr fun e w' => e = .returned (.tuple #[itV x, .int .i64 r]) ∧ Pl C w B0 v w' N M sz L1 L noTh) ∧
    ∀ T wr, Pl C w B0 v wr N M sz L1 L T → Calls Try.prog 20 #[.pointer (some ⟨M, 0, none⟩)] wr fun e w' => e = .returned (.tuple #[itV x, .int .i64 r]) ∧ Pl C w B0 v w' N M sz L1 L1 T := ⟨_, _, _, fun _ h => h.pop, fun _ _ h => h.rpop⟩
/-- A copy is taken, and what it was taken of is popped and pushed. -/
theorem pl_copy (x : It) (hx : ItOk x) : ∃ L2 L3, (∀ wr, Pl C w B0 v wr N M sz L L noTh → Calls Try.prog 21 #[.pointer (some ⟨N, 0, none⟩)] wr fun e w' => ∃ N', e = .returned (.pointer (some ⟨N', 0, none⟩)) ∧ Side w B0 v w' (hTh C N sz L) (rTh M (sz : Nat) L) (hTh C N' sz L)) ∧
    (∀ N' wr, Side w B0 v wr (hTh C N sz L) (rTh M (sz : Nat) L) (hTh C N' sz L) → Calls Try.prog 19 #[.pointer (some ⟨N, 0, none⟩)] wr fun e w' => (∃ y r, e = .returned (.tuple #[y, .int .i64 r])) ∧ Side w B0 v w' (hTh C N sz L2) (rTh M (sz : Nat) L) (hTh C N' sz L)) ∧
    ∀ N' wr, Side w B0 v wr (hTh C N sz L2) (rTh M (sz : Nat) L) (hTh C N' sz L) → Calls Try.prog 12 #[.pointer (some ⟨N, 0, none⟩), itV x] wr fun e w' => (∃ r, e = .returned (.int .i64 r)) ∧ Side w B0 v w' (hTh C N sz L3) (rTh M (sz : Nat) L) (hTh C N' sz L) :=
  ⟨_, _, fun _ h => Pl.copy h, fun _ _ h => (Pl.pop h).mono fun _ _ ⟨a, k⟩ => ⟨⟨_, _, a⟩, k⟩, fun _ _ h => (Pl.push h x hx).mono fun _ _ ⟨a, k⟩ => ⟨⟨_, a⟩, k⟩⟩
end

attribute [local go_sem ↓] neqI_eq
attribute [local go_sem ↓] eqlI_eq
set_option maxHeartbeats 8000000 in
theorem plays13_walk (C : HCode) (w : World) (s : Int) (hs : I64 s) (p : Option Addr) (n c : Nat) (l : List Ac) (hp : HoldsH w p n c l) (hl : ∀ i, i < n → I64 (l.getD i zeroA).what ∧ ItOk (l.getD i zeroA).x) :
    Calls Try.prog 3 #[.int .i64 s, .slice p n c] w fun e w' => e = .returned (.bool true) ∧ Below w.heap.size w w' := by
  by_cases g : 1 ≤ s ∧ s ≤ 1048576
  · obtain ⟨sz, rfl⟩ : ∃ k : Nat, s = (k : Nat) := ⟨s.toNat, by omega⟩
    have g1 : 1 ≤ sz := by omega
    have g2 : sz ≤ 1048576 := by omega
    have NW : Hid (Calls Try.prog 9 #[.int .i64 (sz : Nat)] w fun e w' => ∃ N, e = .returned (.tuple #[.pointer (some ⟨N, 0, none⟩), .int .i64 0]) ∧ HAt C w w' N sz []) := C.new w w (Below.refl _ _) sz g1 g2
    have NR : Hid (∀ w6 N, HAt C w w6 N sz [] → Calls Try.prog 10 #[.int .i64 (sz : Nat)] w6 fun e w7 => ∃ M, e = .returned (.tuple #[.pointer (some ⟨M, 0, none⟩), .int .i64 0]) ∧ Pl C w w7.heap.size w7 w7 N M sz [] [] noTh) := fun w6 N h => (rnew13_ok w6 _ g.1 g.2).mono fun e w7 ⟨M, a, r, n, b⟩ => ⟨M, a, pl_new h b r n⟩
    have AW := Lib.hid (awake13_any C)
    have HP := Lib.hid hp
    have HL := Lib.hid hl
    have nb : (n : Int) ≤ 9223372036854775807 := by have := hp.cap; have := hp.max; unfold maxLen at this; omega
    clear hp hl hs g g1 g2
    go_enter Try.func3, Try.ntmps3
    go_wp2_with fail
    refine NW.out.mono ?_; rintro e w6 ⟨N, rfl, h⟩
    have H := Lib.hid h
    clear h NW
    go_wp2_with fail
    refine (NR.out w6 N H.out).mono ?_; rintro e w7 ⟨M, rfl, h⟩
    clear H NR
    have H := Lib.hid h
    clear h
    go_wp2_with fail
    refine (AW.out w7).mono ?_; rintro e w8 ⟨rfl, lo⟩
    have I0 : Hid (Pl C w w8.heap.size w8 w8 N M sz [] [] noTh) := (H.out.below lo).start (Below.refl _ _)
    clear lo H AW
    go_wp2_with fail
    go_loopw [5, 65] (fun h i wr => ∃ (N q : Nat) (L : List It), h = .pointer (some ⟨N, 0, none⟩) ∧ i = .int .i64 (q : Nat) ∧ Hid (q ≤ n ∧ q ≤ 150) ∧ Hid (Pl C w wr.heap.size wr wr N M sz L L noTh)) (fun _ i _ => 1000 - (intOf i).toNat)
    case atStart => exact ⟨N, 0, [], rfl, rfl, ⟨Nat.zero_le _, by decide⟩, I0.out⟩
    case round =>
      clear I0
      obtain ⟨N, q, L, rfl, rfl, hb, I⟩ := hrel
      have q0 : (0 : Int) ≤ (q : Int) := by omega
      have qb : (q : Int) ≤ 150 := by have := hb.out.2; omega
      by_cases z : n ≤ q
      · have z1 : (n : Int) ≤ (q : Int) := by omega
        have z2 : decide ((q : Int) < (n : Int)) = false := decide_eq_false (by omega)
        have LW := Lib.hid I.out.low
        clear hb z HP HL I
        go_wp2
        go_ret
        exact ⟨rfl, LW.out⟩
      have h' : (q : Int) < (n : Int) := by omega
      have qn : q < n := by omega
      obtain ⟨a, rfl, c0, c1, c2, c3⟩ := (HP.out.below I.out.low).at qn
      have OK := HL.out q qn
      generalize l.getD q zeroA = ac at *
      obtain ⟨k, xi, xs, xt⟩ := ac
      dsimp only at c0 c1 c2 c3 OK
      have LT : Hid (Below wr.heap.size wr (wr.alloc (.cells #[.int .i64 k, .int .u64 (xi : Nat), .int .u64 (xs : Nat), .int .i64 xt] 37))) := (Below.refl _ _).alloc (Nat.le_refl _) _
      by_cases q80 : q = 150
      · have z3 : ((q : Int) == 150) = true := by rw [q80]; rfl
        have z4 : (q == 150) = true := by rw [q80]; rfl
        have z5 : decide (q = 150) = true := by rw [q80]; rfl
        have LW := Lib.hid (I.out.low.trans (LT.out.mono I.out.low.size))
        clear hb z q80 HP HL I LT
        go_wp2
        go_ret
        exact ⟨rfl, LW.out⟩
      have q79 : (q : Int) < 150 := by have := hb.out.2; omega
      have z3 : ((q : Int) == 150) = false := by rw [beq_eq_false_iff_ne]; omega
      have z4 : (q == 150) = false := by rw [beq_eq_false_iff_ne]; omega
      have z5 : decide (q = 150) = false := decide_eq_false q80
      have NB : Hid (q + 1 ≤ n ∧ q + 1 ≤ 150) := by have := hb.out.2; unfold Hid; omega
      clear hb z q80 HP HL
      have AX : Hid ((wr.alloc (.cells #[.int .i64 k, .int .u64 (xi : Nat), .int .u64 (xs : Nat), .int .i64 xt] 37)).heap[wr.heap.size]? = some (.cells #[.int .i64 k, .int .u64 (xi : Nat), .int .u64 (xs : Nat), .int .i64 xt] 37 (0, 0))) := heap_alloc_new _ _
      have b0 := blk_cell (o := 0) AX.out
      have b1 := blk_cell (o := 1) AX.out
      have b2 := blk_cell (o := 2) AX.out
      have b3 := blk_cell (o := 3) AX.out
      simp only [List.getElem?_toArray, List.getElem?_cons_zero, List.getElem?_cons_succ] at b0 b1 b2 b3
      go_upto_region 12 with fail
      clear c0 c1 c2 c3 b0 b1 b2 b3
      generalize wr.alloc (.cells #[.int .i64 k, .int .u64 (xi : Nat), .int .u64 (xs : Nat), .int .i64 xt] 37) = v1 at *
      have BX : Hid (wr.heap.size < v1.heap.size) := (Array.getElem?_eq_some_iff.1 AX.out).1
      obtain ⟨bx, hbx⟩ : ∃ b, wr.heap.size = b := ⟨_, rfl⟩
      simp only [hbx] at AX BX ⊢
      have b1 := blk_cell (o := 1) AX.out
      have b2 := blk_cell (o := 2) AX.out
      have b3 := blk_cell (o := 3) AX.out
      simp only [List.getElem?_toArray, List.getElem?_cons_zero, List.getElem?_cons_succ] at b1 b2 b3
      go_upto_region 13 with fail
      clear b1 b2 b3
      have AY : Hid ((v1.alloc (.cells #[.int .u64 (xi : Nat), .int .u64 (xs : Nat), .int .i64 xt] 38)).heap[v1.heap.size]? = some (.cells #[.int .u64 (xi : Nat), .int .u64 (xs : Nat), .int .i64 xt] 38 (0, 0))) := heap_alloc_new _ _
      have AL : Below v1.heap.size v1 (v1.alloc (.cells #[.int .u64 (xi : Nat), .int .u64 (xs : Nat), .int .i64 xt] 38)) := (Below.refl _ _).alloc (Nat.le_refl _) _
      replace AX := Lib.hid ((AL.block _ BX.out).trans AX.out)
      have LB : Below wr.heap.size wr (v1.alloc (.cells #[.int .u64 (xi : Nat), .int .u64 (xs : Nat), .int .i64 xt] 38)) := LT.out.trans (AL.mono (by rw [hbx]; exact Nat.le_of_lt BX.out))
      generalize v1.alloc (.cells #[.int .u64 (xi : Nat), .int .u64 (xs : Nat), .int .i64 xt] 38) = v0 at *
      obtain ⟨by', hby⟩ : ∃ b, v1.heap.size = b := ⟨_, rfl⟩
      simp only [hby] at AY BX ⊢
      have MV : Hid (Pl C w bx v0 v0 N M sz L L noTh) := by unfold Hid; rw [← hbx]; exact I.out.start LB
      have KC : Hid (∀ w' N A B T, Pl C w bx v0 w' N M sz A B T → (w'.cell? ⟨bx, 0, none⟩ = some (.int .i64 k) ∧ w'.cell? ⟨bx, 1, none⟩ = some (.int .u64 (xi : Nat)) ∧ w'.cell? ⟨bx, 2, none⟩ = some (.int .u64 (xs : Nat)) ∧ w'.cell? ⟨bx, 3, none⟩ = some (.int .i64 xt)) ∧
          (w'.cell? ⟨by', 0, none⟩ = some (.int .u64 (xi : Nat)) ∧ w'.cell? ⟨by', 1, none⟩ = some (.int .u64 (xs : Nat)) ∧ w'.cell? ⟨by', 2, none⟩ = some (.int .i64 xt))) := fun w' N A B T h =>
        ⟨⟨h.cells (Nat.le_refl _) AX.out, h.cells (Nat.le_refl _) AX.out, h.cells (Nat.le_refl _) AX.out, h.cells (Nat.le_refl _) AX.out⟩, h.cells (Nat.le_of_lt BX.out) AY.out, h.cells (Nat.le_of_lt BX.out) AY.out, h.cells (Nat.le_of_lt BX.out) AY.out⟩
      have CPU := Lib.hid (pl_push (C := C) (w := w) (B0 := bx) (v := v0) (N := N) (M := M) (sz := sz) (L := L) ⟨xi, xs, xt⟩ OK.2)
      have CSE := Lib.hid (pl_set (C := C) (w := w) (B0 := bx) (v := v0) (N := N) (M := M) (sz := sz) (L := L) ⟨xi, xs, xt⟩ OK.2)
      have CRE := Lib.hid (pl_remove (C := C) (w := w) (B0 := bx) (v := v0) (N := N) (M := M) (sz := sz) (L := L) xi OK.2.a)
      have CPO := Lib.hid (pl_pop (C := C) (w := w) (B0 := bx) (v := v0) (N := N) (M := M) (sz := sz) (L := L))
      have CCO := Lib.hid (pl_copy (C := C) (w := w) (B0 := bx) (v := v0) (N := N) (M := M) (sz := sz) (L := L) ⟨xi, xs, xt⟩ OK.2)
      have XI := Lib.hid OK.2.a
      unfold itV at CPU CSE CRE CPO CCO
      dsimp only at CPU CSE CCO
      obtain ⟨⟨b0, b1, b2, b3⟩, y0, y1, y2⟩ := KC.out v0 _ _ _ _ MV.out
      clear AX AY AL LB LT BX I OK hbx hby
      go_upto_block 2 with fail
      go_cut [5, 11, 13, 14, 15, 16, 17, 18, 19, 20, 21] from 76 to 152 (fun h5 s _ _ _ _ _ _ _ _ _ wx => ∃ N2 L1, h5 = .pointer (some ⟨N2, 0, none⟩) ∧ s = .bool true ∧ Hid (Pl C w bx v0 wx N2 M sz L1 L1 noTh))
      case first =>
        by_cases k0 : k = 0
        · have j0 : (k == 0) = true := by rw [k0]; rfl
          clear k0 CSE CRE CPO CCO
          as_aux_lemma =>
          obtain ⟨r, L1, G1, G2⟩ := CPU.out
          have rr : (r == r) = true := by simp
          have T0 := MV.out.below (Below.refl _ _).drew
          clear CPU MV b0 b1 b2 b3 y0 y1 y2
          go_upto_region 15 with fail
          /- push: begin -/
          refine wp_region_held_drew (S := fun w' => (w'.cell? ⟨bx, 0, none⟩ = some (.int .i64 k) ∧ w'.cell? ⟨bx, 1, none⟩ = some (.int .u64 (xi : Nat)) ∧ w'.cell? ⟨bx, 2, none⟩ = some (.int .u64 (xs : Nat)) ∧ w'.cell? ⟨bx, 3, none⟩ = some (.int .i64 xt)) ∧ (w'.cell? ⟨by', 0, none⟩ = some (.int .u64 (xi : Nat)) ∧ w'.cell? ⟨by', 1, none⟩ = some (.int .u64 (xs : Nat)) ∧ w'.cell? ⟨by', 2, none⟩ = some (.int .i64 xt))) (by kernel_rfl) (KC.out _ _ _ _ _ T0) (fun hHeld => ?_)
          refine wpAnyH_take (i := 0) (v := ?_) (by (simp only [List.getElem?_toArray, List.getElem?_cons_zero]; exact rfl)) (by kernel_rfl) (by kernel_rfl) (by kernel_rfl) (by exact fun _ _ _ h => h) (Or.inl ⟨by rfl, ?_⟩) (by assumption) ?_
          rotate_left
          · (intro w hSw; (try dsimp only at hSw); first | (go_simp; done) | (go_simp; with_reducible rfl))
          try simp only [Act.put, List.setIfInBounds_toArray, List.set_cons_zero, List.set_cons_succ]
          refine wpAnyH_take (i := 1) (v := ?_) (by (simp only [List.getElem?_toArray, List.getElem?_cons_zero, List.getElem?_cons_succ]; exact rfl)) (by kernel_rfl) (by kernel_rfl) (by kernel_rfl) (by exact fun _ _ _ h => h) (Or.inl ⟨by rfl, ?_⟩) (by assumption) ?_
          rotate_left
          · (intro w hSw; (try dsimp only at hSw); first | (go_simp; done) | (go_simp; with_reducible rfl))
          try simp only [Act.put, List.setIfInBounds_toArray, List.set_cons_zero, List.set_cons_succ]
          refine wpAnyH_take (i := 2) (v := ?_) (by (simp only [List.getElem?_toArray, List.getElem?_cons_zero, List.getElem?_cons_succ]; exact rfl)) (by kernel_rfl) (by kernel_rfl) (by kernel_rfl) (by exact fun _ _ _ h => h) (Or.inl ⟨by rfl, ?_⟩) (by assumption) ?_
          rotate_left
          · (intro w hSw; (try dsimp only at hSw); first | (go_simp; done) | (go_simp; with_reducible rfl))
          try simp only [Act.put, List.setIfInBounds_toArray, List.set_cons_zero, List.set_cons_succ]
          refine wpAnyH_take (i := 4) (v := ?_) (by (simp only [List.getElem?_toArray, List.getElem?_cons_zero, List.getElem?_cons_succ]; exact rfl)) (by kernel_rfl) (by kernel_rfl) (by kernel_rfl) (by exact fun _ _ _ h => h) (Or.inl ⟨by rfl, ?_⟩) (by assumption) ?_
          rotate_left
          · (intro w hSw; (try dsimp only at hSw); first | (go_simp; done) | (go_simp; with_reducible rfl))
          try simp only [Act.put, List.setIfInBounds_toArray, List.set_cons_zero, List.set_cons_succ]
          refine wpAnyH_take (i := 5) (v := ?_) (by (simp only [List.getElem?_toArray, List.getElem?_cons_zero, List.getElem?_cons_succ]; exact rfl)) (by kernel_rfl) (by kernel_rfl) (by kernel_rfl) (by exact fun _ _ _ h => h) (Or.inl ⟨by rfl, ?_⟩) (by assumption) ?_
          rotate_left
          · (intro w hSw; (try dsimp only at hSw); first | (go_simp; done) | (go_simp; with_reducible rfl))
          try simp only [Act.put, List.setIfInBounds_toArray, List.set_cons_zero, List.set_cons_succ]
          refine wpAnyH_ready (rs := [3]) (by kernel_rfl) (by simp) ?_
          refine AllReadyH.cons (by (simp only [List.getElem?_toArray, List.getElem?_cons_zero, List.getElem?_cons_succ]; exact rfl)) (fun K hK => ?_) AllReadyH.nil
          go_simp
          (go_at_call 12; refine (G1 _ T0).mono ?_; rintro e w6 ⟨rfl, T1⟩)
          go_wp2_with fail
          refine hK.out _ _ (KC.out _ _ _ _ _ T1) (fun hHeld => ?_)
          clear hK K
          try simp only [Act.put, List.setIfInBounds_toArray, List.set_cons_zero, List.set_cons_succ]
          refine wpAnyH_ready (rs := [6]) (by kernel_rfl) (by simp) ?_
          refine AllReadyH.cons (by (simp only [List.getElem?_toArray, List.getElem?_cons_zero, List.getElem?_cons_succ]; exact rfl)) (fun K hK => ?_) AllReadyH.nil
          go_simp
          (go_at_call 14; refine (G2 _ T1).mono ?_; rintro e w7 ⟨rfl, T2⟩)
          go_wp2_with fail
          refine hK.out _ _ (KC.out _ _ _ _ _ T2) (fun hHeld => ?_)
          clear hK K
          try simp only [Act.put, List.setIfInBounds_toArray, List.set_cons_zero, List.set_cons_succ]
          refine wpAnyH_take (i := 7) (v := ?_) (by (simp only [List.getElem?_toArray, List.getElem?_cons_zero, List.getElem?_cons_succ]; exact rfl)) (by kernel_rfl) (by kernel_rfl) (by kernel_rfl) (by exact fun _ _ _ h => h) (Or.inl ⟨by rfl, ?_⟩) (by assumption) ?_
          rotate_left
          · (intro w hSw; (try dsimp only at hSw); first | (go_simp; done) | (go_simp; with_reducible rfl))
          try simp only [Act.put, List.setIfInBounds_toArray, List.set_cons_zero, List.set_cons_succ]
          refine wpAnyH_take (i := 8) (v := ?_) (by (simp only [List.getElem?_toArray, List.getElem?_cons_zero, List.getElem?_cons_succ]; exact rfl)) (by kernel_rfl) (by kernel_rfl) (by kernel_rfl) (by exact fun _ _ _ h => h) (Or.inl ⟨by rfl, ?_⟩) (by assumption) ?_
          rotate_left
          · (intro w hSw; (try dsimp only at hSw); first | (go_simp; done) | (go_simp; with_reducible rfl))
          try simp only [Act.put, List.setIfInBounds_toArray, List.set_cons_zero, List.set_cons_succ]
          refine wpAnyH_done (by kernel_rfl) ?_ _
          /- push: end -/
          go_wp2_with fail
          go_meet
          exact ⟨N, L1, rfl, rfl, T2⟩
        · have j0 : (k == 0) = false := by rw [beq_eq_false_iff_ne]; exact k0
          clear CPU
          by_cases k1 : k = 1
          · have j1 : (k == 1) = true := by rw [k1]; rfl
            clear k0 k1 CRE CPO CCO
            as_aux_lemma =>
            obtain ⟨r, L1, G1, G2⟩ := CSE.out
            have rr : (r == r) = true := by simp
            have T0 := MV.out.below (Below.refl _ _).drew
            clear CSE MV b0 b1 b2 b3 y0 y1 y2
            go_upto_region 17 with fail
            /- set: begin -/
            refine wp_region_held_drew (S := fun w' => (w'.cell? ⟨bx, 0, none⟩ = some (.int .i64 k) ∧ w'.cell? ⟨bx, 1, none⟩ = some (.int .u64 (xi : Nat)) ∧ w'.cell? ⟨bx, 2, none⟩ = some (.int .u64 (xs : Nat)) ∧ w'.cell? ⟨bx, 3, none⟩ = some (.int .i64 xt)) ∧ (w'.cell? ⟨by', 0, none⟩ = some (.int .u64 (xi : Nat)) ∧ w'.cell? ⟨by', 1, none⟩ = some (.int .u64 (xs : Nat)) ∧ w'.cell? ⟨by', 2, none⟩ = some (.int .i64 xt))) (by kernel_rfl) (KC.out _ _ _ _ _ T0) (fun hHeld => ?_)
            refine wpAnyH_take (i := 0) (v := ?_) (by (simp only [List.getElem?_toArray, List.getElem?_cons_zero]; exact rfl)) (by kernel_rfl) (by kernel_rfl) (by kernel_rfl) (by exact fun _ _ _ h => h) (Or.inl ⟨by rfl, ?_⟩) (by assumption) ?_
            rotate_left
            · (intro w hSw; (try dsimp only at hSw); first | (go_simp; done) | (go_simp; with_reducible rfl))
            try simp only [Act.put, List.setIfInBounds_toArray, List.set_cons_zero, List.set_cons_succ]
            refine wpAnyH_take (i := 1) (v := ?_) (by (simp only [List.getElem?_toArray, List.getElem?_cons_zero, List.getElem?_cons_succ]; exact rfl)) (by kernel_rfl) (by kernel_rfl) (by kernel_rfl) (by exact fun _ _ _ h => h) (Or.inl ⟨by rfl, ?_⟩) (by assumption) ?_
            rotate_left
            · (intro w hSw; (try dsimp only at hSw); first | (go_simp; done) | (go_simp; with_reducible rfl))
            try simp only [Act.put, List.setIfInBounds_toArray, List.set_cons_zero, List.set_cons_succ]
            refine wpAnyH_take (i := 2) (v := ?_) (by (simp only [List.getElem?_toArray, List.getElem?_cons_zero, List.getElem?_cons_succ]; exact rfl)) (by kernel_rfl) (by kernel_rfl) (by kernel_rfl) (by exact fun _ _ _ h => h) (Or.inl ⟨by rfl, ?_⟩) (by assumption) ?_
            rotate_left
            · (intro w hSw; (try dsimp only at hSw); first | (go_simp; done) | (go_simp; with_reducible rfl))
            try simp only [Act.put, List.setIfInBounds_toArray, List.set_cons_zero, List.set_cons_succ]
            refine wpAnyH_take (i := 4) (v := ?_) (by (simp only [List.getElem?_toArray, List.getElem?_cons_zero, List.getElem?_cons_succ]; exact rfl)) (by kernel_rfl) (by kernel_rfl) (by kernel_rfl) (by exact fun _ _ _ h => h) (Or.inl ⟨by rfl, ?_⟩) (by assumption) ?_
            rotate_left
            · (intro w hSw; (try dsimp only at hSw); first | (go_simp; done) | (go_simp; with_reducible rfl))
            try simp only [Act.put, List.setIfInBounds_toArray, List.set_cons_zero, List.set_cons_succ]
            refine wpAnyH_take (i := 5) (v := ?_) (by (simp only [List.getElem?_toArray, List.getElem?_cons_zero, List.getElem?_cons_succ]; exact rfl)) (by kernel_rfl) (by kernel_rfl) (by kernel_rfl) (by exact fun _ _ _ h => h) (Or.inl ⟨by rfl, ?_⟩) (by assumption) ?_
            rotate_left
            · (intro w hSw; (try dsimp only at hSw); first | (go_simp; done) | (go_simp; with_reducible rfl))
            try simp only [Act.put, List.setIfInBounds_toArray, List.set_cons_zero, List.set_cons_succ]
            refine wpAnyH_ready (rs := [3]) (by kernel_rfl) (by simp) ?_
            refine AllReadyH.cons (by (simp only [List.getElem?_toArray, List.getElem?_cons_zero, List.getElem?_cons_succ]; exact rfl)) (fun K hK => ?_) AllReadyH.nil
            go_simp
            (go_at_call 15; refine (G1 _ T0).mono ?_; rintro e w6 ⟨rfl, T1⟩)
            go_wp2_with fail
            refine hK.out _ _ (KC.out _ _ _ _ _ T1) (fun hHeld => ?_)
            clear hK K
            try simp only [Act.put, List.setIfInBounds_toArray, List.set_cons_zero, List.set_cons_succ]
            refine wpAnyH_ready (rs := [6]) (by kernel_rfl) (by simp) ?_
            refine AllReadyH.cons (by (simp only [List.getElem?_toArray, List.getElem?_cons_zero, List.getElem?_cons_succ]; exact rfl)) (fun K hK => ?_) AllReadyH.nil
            go_simp
            (go_at_call 16; refine (G2 _ T1).mono ?_; rintro e w7 ⟨rfl, T2⟩)
            go_wp2_with fail
            refine hK.out _ _ (KC.out _ _ _ _ _ T2) (fun hHeld => ?_)
            clear hK K
            try simp only [Act.put, List.setIfInBounds_toArray, List.set_cons_zero, List.set_cons_succ]
            refine wpAnyH_take (i := 7) (v := ?_) (by (simp only [List.getElem?_toArray, List.getElem?_cons_zero, List.getElem?_cons_succ]; exact rfl)) (by kernel_rfl) (by kernel_rfl) (by kernel_rfl) (by exact fun _ _ _ h => h) (Or.inl ⟨by rfl, ?_⟩) (by assumption) ?_
            rotate_left
            · (intro w hSw; (try dsimp only at hSw); first | (go_simp; done) | (go_simp; with_reducible rfl))
            try simp only [Act.put, List.setIfInBounds_toArray, List.set_cons_zero, List.set_cons_succ]
            refine wpAnyH_take (i := 8) (v := ?_) (by (simp only [List.getElem?_toArray, List.getElem?_cons_zero, List.getElem?_cons_succ]; exact rfl)) (by kernel_rfl) (by kernel_rfl) (by kernel_rfl) (by exact fun _ _ _ h => h) (Or.inl ⟨by rfl, ?_⟩) (by assumption) ?_
            rotate_left
            · (intro w hSw; (try dsimp only at hSw); first | (go_simp; done) | (go_simp; with_reducible rfl))
            try simp only [Act.put, List.setIfInBounds_toArray, List.set_cons_zero, List.set_cons_succ]
            refine wpAnyH_done (by kernel_rfl) ?_ _
            /- set: end -/
            go_wp2_with fail
            go_meet
            exact ⟨N, L1, rfl, rfl, T2⟩
          · have j1 : (k == 1) = false := by rw [beq_eq_false_iff_ne]; exact k1
            clear CSE
            by_cases k2 : k = 2
            · have j2 : (k == 2) = true := by rw [k2]; rfl
              clear k0 k1 k2 CPO CCO
              as_aux_lemma =>
              obtain ⟨r, x, L1, G1, G2⟩ := CRE.out
              have rr : (r == r) = true := by simp
              have T0 := MV.out
              clear CRE MV
              go_wp2_with fail
              refine (G1 _ T0).mono ?_; rintro e w6 ⟨rfl, T1⟩
              have AX : Hid ((w6.alloc (.cells #[.int .u64 (x.id : Nat), .int .u64 (x.seq : Nat), .int .i64 x.t] 34)).heap[w6.heap.size]? = some (.cells #[.int .u64 (x.id : Nat), .int .u64 (x.seq : Nat), .int .i64 x.t] 34 (0, 0))) := heap_alloc_new _ _
              have T2 := T1.add (T' := boxTh w6.heap.size (.cells #[.int .u64 (x.id : Nat), .int .u64 (x.seq : Nat), .int .i64 x.t] 34 (0, 0))) ((Below.refl w6.heap.size w6).alloc (Nat.le_refl _) (.cells #[.int .u64 (x.id : Nat), .int .u64 (x.seq : Nat), .int .i64 x.t] 34)) (F' := fun J => J = w6.heap.size) ⟨AX.out, fun _ => Iff.rfl⟩ (fun J hJ => by rw [hJ]; exact Nat.le_refl _)
              clear b0 b1 b2 b3 y0 y1 y2
              obtain ⟨⟨b0, b1, b2, b3⟩, -⟩ := KC.out _ _ _ _ _ T2
              clear T1 T0 G1 AX
              go_wp2_with fail
              refine (G2 _ _ T2).mono ?_; rintro e w7 ⟨rfl, T3⟩
              have T4 := T3.below ((Below.refl w7.heap.size w7).alloc (Nat.le_refl _) (.cells #[.int .u64 (x.id : Nat), .int .u64 (x.seq : Nat), .int .i64 x.t] 38))
              have BX := T4.box
              clear b0 b1 b2 b3
              have b0 := blk_cell (o := 0) BX
              have b1 := blk_cell (o := 1) BX
              have b2 := blk_cell (o := 2) BX
              have b3 := blk_cell (o := 0) (heap_alloc_new w7 (.cells #[.int .u64 (x.id : Nat), .int .u64 (x.seq : Nat), .int .i64 x.t] 38))
              have b4 := blk_cell (o := 1) (heap_alloc_new w7 (.cells #[.int .u64 (x.id : Nat), .int .u64 (x.seq : Nat), .int .i64 x.t] 38))
              have b5 := blk_cell (o := 2) (heap_alloc_new w7 (.cells #[.int .u64 (x.id : Nat), .int .u64 (x.seq : Nat), .int .i64 x.t] 38))
              simp only [List.getElem?_toArray, List.getElem?_cons_zero, List.getElem?_cons_succ] at b0 b1 b2 b3 b4 b5
              have T5 := Lib.hid T4.drop
              have EQ := fun W => eql_it W x x true (decide_eq_true rfl)
              clear T2 T3 T4 BX G2 KC
              go_wp2_with fail
              go_meet
              exact ⟨N, L1, rfl, rfl, T5⟩
            · have j2 : (k == 2) = false := by rw [beq_eq_false_iff_ne]; exact k2
              clear CRE
              by_cases k3 : k = 3
              · have j3 : (k == 3) = true := by rw [k3]; rfl
                clear k0 k1 k2 k3 CCO
                as_aux_lemma =>
                obtain ⟨r, x, L1, G1, G2⟩ := CPO.out
                have rr : (r == r) = true := by simp
                have T0 := MV.out
                clear CPO MV
                go_wp2_with fail
                refine (G1 _ T0).mono ?_; rintro e w6 ⟨rfl, T1⟩
                have AX : Hid ((w6.alloc (.cells #[.int .u64 (x.id : Nat), .int .u64 (x.seq : Nat), .int .i64 x.t] 34)).heap[w6.heap.size]? = some (.cells #[.int .u64 (x.id : Nat), .int .u64 (x.seq : Nat), .int .i64 x.t] 34 (0, 0))) := heap_alloc_new _ _
                have T2 := T1.add (T' := boxTh w6.heap.size (.cells #[.int .u64 (x.id : Nat), .int .u64 (x.seq : Nat), .int .i64 x.t] 34 (0, 0))) ((Below.refl w6.heap.size w6).alloc (Nat.le_refl _) (.cells #[.int .u64 (x.id : Nat), .int .u64 (x.seq : Nat), .int .i64 x.t] 34)) (F' := fun J => J = w6.heap.size) ⟨AX.out, fun _ => Iff.rfl⟩ (fun J hJ => by rw [hJ]; exact Nat.le_refl _)
                clear b0 b1 b2 b3 y0 y1 y2
                obtain ⟨⟨b0, b1, b2, b3⟩, -⟩ := KC.out _ _ _ _ _ T2
                clear T1 T0 G1 AX
                go_wp2_with fail
                refine (G2 _ _ T2).mono ?_; rintro e w7 ⟨rfl, T3⟩
                have T4 := T3.below ((Below.refl w7.heap.size w7).alloc (Nat.le_refl _) (.cells #[.int .u64 (x.id : Nat), .int .u64 (x.seq : Nat), .int .i64 x.t] 38))
                have BX := T4.box
                clear b0 b1 b2 b3
                have b0 := blk_cell (o := 0) BX
                have b1 := blk_cell (o := 1) BX
                have b2 := blk_cell (o := 2) BX
                have b3 := blk_cell (o := 0) (heap_alloc_new w7 (.cells #[.int .u64 (x.id : Nat), .int .u64 (x.seq : Nat), .int .i64 x.t] 38))
                have b4 := blk_cell (o := 1) (heap_alloc_new w7 (.cells #[.int .u64 (x.id : Nat), .int .u64 (x.seq : Nat), .int .i64 x.t] 38))
                have b5 := blk_cell (o := 2) (heap_alloc_new w7 (.cells #[.int .u64 (x.id : Nat), .int .u64 (x.seq : Nat), .int .i64 x.t] 38))
                simp only [List.getElem?_toArray, List.getElem?_cons_zero, List.getElem?_cons_succ] at b0 b1 b2 b3 b4 b5
                have T5 := Lib.hid T4.drop
                have EQ := fun W => eql_it W x x true (decide_eq_true rfl)
                clear T2 T3 T4 BX G2 KC
                go_wp2_with fail
                go_meet
                exact ⟨N, L1, rfl, rfl, T5⟩
              · have j3 : (k == 3) = false := by rw [beq_eq_false_iff_ne]; exact k3
                clear CPO
                by_cases k4 : k = 4
                · have j4 : (k == 4) = true := by rw [k4]; rfl
                  clear k0 k1 k2 k3 k4
                  as_aux_lemma =>
                  obtain ⟨L2, L3, G1, G2, G3⟩ := CCO.out
                  have T0 := MV.out
                  clear CCO MV b0 b1 b2 b3 y0 y1 y2
                  go_wp2_with fail
                  refine (G1 _ T0).mono ?_; rintro e w6 ⟨N', rfl, T1⟩
                  go_wp2_with fail
                  refine (G2 _ _ T1).mono ?_; rintro e w7 ⟨⟨y, r, rfl⟩, T2⟩
                  obtain ⟨⟨b0, b1, b2, b3⟩, -⟩ := KC.out _ _ _ _ _ T2
                  clear T0 T1 G1 G2 KC
                  go_wp2_with fail
                  refine (G3 _ _ T2).mono ?_; rintro e w9 ⟨⟨r2, rfl⟩, T3⟩
                  have T4 := Lib.hid (Pl.other T3)
                  clear T2 T3 G3 b0 b1 b2 b3
                  go_wp2_with fail
                  go_meet
                  exact ⟨N', L, rfl, rfl, T4⟩
                · have j4 : (k == 4) = false := by rw [beq_eq_false_iff_ne]; exact k4
                  clear k0 k1 k2 k3 k4 CCO KC
                  go_wp2_with fail
                  go_meet
                  exact ⟨N, L, rfl, rfl, MV⟩
      case rest =>
      obtain ⟨N2, L1, rfl, rfl, MV2⟩ := hcut
      clear MV CPU CSE CRE CPO CCO b0 b1 b2 b3 y0 y1 y2
      as_aux_lemma =>
      obtain ⟨⟨b0, b1, b2, b3⟩, -⟩ := KC.out _ _ _ _ _ MV2.out
      have FI := Lib.hid (MV2.out.find xi XI.out)
      unfold itV at FI
      go_wp2_with fail
      refine FI.out.mono ?_; rintro e w6 ⟨rfl, T1⟩
      clear b0 b1 b2 b3 FI MV2
      obtain ⟨x, hx⟩ : ∃ x, remX L1 xi = x := ⟨_, rfl⟩
      simp only [hx]
      have T2 := T1.add (T' := boxTh w6.heap.size (.cells #[.int .u64 (x.id : Nat), .int .u64 (x.seq : Nat), .int .i64 x.t] 34 (0, 0))) ((Below.refl w6.heap.size w6).alloc (Nat.le_refl _) (.cells #[.int .u64 (x.id : Nat), .int .u64 (x.seq : Nat), .int .i64 x.t] 34)) (F' := fun J => J = w6.heap.size) ⟨heap_alloc_new _ _, fun _ => Iff.rfl⟩ (fun J hJ => by rw [hJ]; exact Nat.le_refl _)
      obtain ⟨⟨b0, b1, b2, b3⟩, -⟩ := KC.out _ _ _ _ _ T2
      have PLC := Lib.hid (Pl.place T2 xi)
      have TT := Lib.hid T2
      clear T1 T2
      go_wp2_with fail
      refine PLC.out.mono ?_; rintro e w7 ⟨rfl, T3⟩
      clear PLC b0 b1 b2 b3 TT
      have T7 := Lib.hid T3
      clear T3
      go_upto_region 33 with fail
      obtain ⟨fk, hfk⟩ : ∃ k, findK L1 xi = k := ⟨_, rfl⟩
      obtain ⟨fb, hfb⟩ : ∃ k, (place L1 xi).isSome = k := ⟨_, rfl⟩
      obtain ⟨fp, hfp⟩ : ∃ k, placeI L1 xi = k := ⟨_, rfl⟩
      simp only [hfk, hfb, hfp]
      go_cut [189] (fun o wx => o = .bool false ∧ Hid (Pl C w bx v0 wx N2 M sz L1 L1 noTh))
      case first =>
        have B7 := T7.out.box
        obtain ⟨p2, c2, R7⟩ := T7.out.ref
        cases hpl : place L1 xi with
        | none =>
          obtain rfl : fk = 0 := by rw [← hfk]; unfold findK; rw [hpl]
          obtain rfl : fp = -1 := by rw [← hfp]; exact placeI_none hpl
          obtain rfl : fb = false := by rw [← hfb, hpl]; rfl
          have T8 := Lib.hid ((T7.out.below (Below.refl _ _).drew).drop)
          clear hfk hfb hfp B7 R7 T7 hpl hx KC
          as_aux_lemma =>
          go_wp2_with fail
          /- p33: begin -/
          refine wp_region_held_drew (S := fun _ => True) (by kernel_rfl) (trivial) (fun hHeld => ?_)
          refine wpAnyH_take (i := 0) (v := ?_) (by (simp only [List.getElem?_toArray, List.getElem?_cons_zero]; exact rfl)) (by kernel_rfl) (by kernel_rfl) (by kernel_rfl) (by exact fun _ _ _ h => h) (Or.inl ⟨by rfl, ?_⟩) (by assumption) ?_
          rotate_left
          · (intro w hSw; (try dsimp only at hSw); first | (go_simp; done) | (go_simp; with_reducible rfl))
          try simp only [Act.put, List.setIfInBounds_toArray, List.set_cons_zero, List.set_cons_succ]
          refine wpAnyH_take (i := 1) (v := ?_) (by (simp only [List.getElem?_toArray, List.getElem?_cons_zero, List.getElem?_cons_succ]; exact rfl)) (by kernel_rfl) (by kernel_rfl) (by kernel_rfl) (by exact fun _ _ _ h => h) (Or.inl ⟨by rfl, ?_⟩) (by assumption) ?_
          rotate_left
          · (intro w hSw; (try dsimp only at hSw); first | (go_simp; done) | (go_simp; with_reducible rfl))
          try simp only [Act.put, List.setIfInBounds_toArray, List.set_cons_zero, List.set_cons_succ]
          refine wpAnyH_take (i := 2) (v := ?_) (by (simp only [List.getElem?_toArray, List.getElem?_cons_zero, List.getElem?_cons_succ]; exact rfl)) (by kernel_rfl) (by kernel_rfl) (by kernel_rfl) (by exact fun _ _ _ h => h) (Or.inl ⟨by rfl, ?_⟩) (by assumption) ?_
          rotate_left
          · (intro w hSw; (try dsimp only at hSw); first | (go_simp; done) | (go_simp; with_reducible rfl))
          try simp only [Act.put, List.setIfInBounds_toArray, List.set_cons_zero, List.set_cons_succ]
          refine wpAnyH_take (i := 3) (v := ?_) (by (simp only [List.getElem?_toArray, List.getElem?_cons_zero, List.getElem?_cons_succ]; exact rfl)) (by kernel_rfl) (by kernel_rfl) (by kernel_rfl) (by exact fun _ _ _ h => h) (Or.inl ⟨by rfl, ?_⟩) (by assumption) ?_
          rotate_left
          · (intro w hSw; (try dsimp only at hSw); first | (go_simp; done) | (go_simp; with_reducible rfl))
          try simp only [Act.put, List.setIfInBounds_toArray, List.set_cons_zero, List.set_cons_succ]
          refine wpAnyH_take (i := 4) (v := ?_) (by (simp only [List.getElem?_toArray, List.getElem?_cons_zero, List.getElem?_cons_succ]; exact rfl)) (by kernel_rfl) (by kernel_rfl) (by kernel_rfl) (by exact fun _ _ _ h => h) (Or.inl ⟨by rfl, ?_⟩) (by assumption) ?_
          rotate_left
          · (intro w hSw; (try dsimp only at hSw); first | (go_simp; done) | (go_simp; with_reducible rfl))
          try simp only [Act.put, List.setIfInBounds_toArray, List.set_cons_zero, List.set_cons_succ]
          refine wpAnyH_take (i := 5) (v := ?_) (by (simp only [List.getElem?_toArray, List.getElem?_cons_zero, List.getElem?_cons_succ]; exact rfl)) (by kernel_rfl) (by kernel_rfl) (by kernel_rfl) (by exact fun _ _ _ h => h) (Or.inl ⟨by rfl, ?_⟩) (by assumption) ?_
          rotate_left
          · (intro w hSw; (try dsimp only at hSw); first | (go_simp; done) | (go_simp; with_reducible rfl))
          try simp only [Act.put, List.setIfInBounds_toArray, List.set_cons_zero, List.set_cons_succ]
          refine wpAnyH_take (i := 6) (v := ?_) (by (simp only [List.getElem?_toArray, List.getElem?_cons_zero, List.getElem?_cons_succ]; exact rfl)) (by kernel_rfl) (by kernel_rfl) (by kernel_rfl) (by exact fun _ _ _ h => h) (Or.inl ⟨by rfl, ?_⟩) (by assumption) ?_
          rotate_left
          · (intro w hSw; (try dsimp only at hSw); first | (go_simp; done) | (go_simp; with_reducible rfl))
          try simp only [Act.put, List.setIfInBounds_toArray, List.set_cons_zero, List.set_cons_succ]
          refine wpAnyH_take (i := 7) (v := undef) (by (simp only [List.getElem?_toArray, List.getElem?_cons_zero, List.getElem?_cons_succ]; exact rfl)) (by kernel_rfl) (by kernel_rfl) (by kernel_rfl) (by exact fun _ _ _ h => h) (Or.inr ⟨by rfl, rfl⟩) (by assumption) ?_
          try simp only [Act.put, List.setIfInBounds_toArray, List.set_cons_zero, List.set_cons_succ]
          refine wpAnyH_take (i := 8) (v := undef) (by (simp only [List.getElem?_toArray, List.getElem?_cons_zero, List.getElem?_cons_succ]; exact rfl)) (by kernel_rfl) (by kernel_rfl) (by kernel_rfl) (by exact fun _ _ _ h => h) (Or.inr ⟨by rfl, rfl⟩) (by assumption) ?_
          try simp only [Act.put, List.setIfInBounds_toArray, List.set_cons_zero, List.set_cons_succ]
          refine wpAnyH_take (i := 9) (v := undef) (by (simp only [List.getElem?_toArray, List.getElem?_cons_zero, List.getElem?_cons_succ]; exact rfl)) (by kernel_rfl) (by kernel_rfl) (by kernel_rfl) (by exact fun _ _ _ h => h) (Or.inr ⟨by rfl, rfl⟩) (by assumption) ?_
          try simp only [Act.put, List.setIfInBounds_toArray, List.set_cons_zero, List.set_cons_succ]
          refine wpAnyH_take (i := 10) (v := undef) (by (simp only [List.getElem?_toArray, List.getElem?_cons_zero, List.getElem?_cons_succ]; exact rfl)) (by kernel_rfl) (by kernel_rfl) (by kernel_rfl) (by exact fun _ _ _ h => h) (Or.inr ⟨by rfl, rfl⟩) (by assumption) ?_
          try simp only [Act.put, List.setIfInBounds_toArray, List.set_cons_zero, List.set_cons_succ]
          refine wpAnyH_take (i := 11) (v := undef) (by (simp only [List.getElem?_toArray, List.getElem?_cons_zero, List.getElem?_cons_succ]; exact rfl)) (by kernel_rfl) (by kernel_rfl) (by kernel_rfl) (by exact fun _ _ _ h => h) (Or.inr ⟨by rfl, rfl⟩) (by assumption) ?_
          try simp only [Act.put, List.setIfInBounds_toArray, List.set_cons_zero, List.set_cons_succ]
          refine wpAnyH_take (i := 12) (v := undef) (by (simp only [List.getElem?_toArray, List.getElem?_cons_zero, List.getElem?_cons_succ]; exact rfl)) (by kernel_rfl) (by kernel_rfl) (by kernel_rfl) (by exact fun _ _ _ h => h) (Or.inr ⟨by rfl, rfl⟩) (by assumption) ?_
          try simp only [Act.put, List.setIfInBounds_toArray, List.set_cons_zero, List.set_cons_succ]
          refine wpAnyH_take (i := 13) (v := undef) (by (simp only [List.getElem?_toArray, List.getElem?_cons_zero, List.getElem?_cons_succ]; exact rfl)) (by kernel_rfl) (by kernel_rfl) (by kernel_rfl) (by exact fun _ _ _ h => h) (Or.inr ⟨by rfl, rfl⟩) (by assumption) ?_
          try simp only [Act.put, List.setIfInBounds_toArray, List.set_cons_zero, List.set_cons_succ]
          refine wpAnyH_take (i := 14) (v := undef) (by (simp only [List.getElem?_toArray, List.getElem?_cons_zero, List.getElem?_cons_succ]; exact rfl)) (by kernel_rfl) (by kernel_rfl) (by kernel_rfl) (by exact fun _ _ _ h => h) (Or.inr ⟨by rfl, rfl⟩) (by assumption) ?_
          try simp only [Act.put, List.setIfInBounds_toArray, List.set_cons_zero, List.set_cons_succ]
          refine wpAnyH_take (i := 15) (v := undef) (by (simp only [List.getElem?_toArray, List.getElem?_cons_zero, List.getElem?_cons_succ]; exact rfl)) (by kernel_rfl) (by kernel_rfl) (by kernel_rfl) (by exact fun _ _ _ h => h) (Or.inr ⟨by rfl, rfl⟩) (by assumption) ?_
          try simp only [Act.put, List.setIfInBounds_toArray, List.set_cons_zero, List.set_cons_succ]
          refine wpAnyH_take (i := 16) (v := undef) (by (simp only [List.getElem?_toArray, List.getElem?_cons_zero, List.getElem?_cons_succ]; exact rfl)) (by kernel_rfl) (by kernel_rfl) (by kernel_rfl) (by exact fun _ _ _ h => h) (Or.inr ⟨by rfl, rfl⟩) (by assumption) ?_
          try simp only [Act.put, List.setIfInBounds_toArray, List.set_cons_zero, List.set_cons_succ]
          refine wpAnyH_take (i := 17) (v := undef) (by (simp only [List.getElem?_toArray, List.getElem?_cons_zero, List.getElem?_cons_succ]; exact rfl)) (by kernel_rfl) (by kernel_rfl) (by kernel_rfl) (by exact fun _ _ _ h => h) (Or.inr ⟨by rfl, rfl⟩) (by assumption) ?_
          try simp only [Act.put, List.setIfInBounds_toArray, List.set_cons_zero, List.set_cons_succ]
          refine wpAnyH_take (i := 18) (v := undef) (by (simp only [List.getElem?_toArray, List.getElem?_cons_zero, List.getElem?_cons_succ]; exact rfl)) (by kernel_rfl) (by kernel_rfl) (by kernel_rfl) (by exact fun _ _ _ h => h) (Or.inr ⟨by rfl, rfl⟩) (by assumption) ?_
          try simp only [Act.put, List.setIfInBounds_toArray, List.set_cons_zero, List.set_cons_succ]
          refine wpAnyH_take (i := 19) (v := undef) (by (simp only [List.getElem?_toArray, List.getElem?_cons_zero, List.getElem?_cons_succ]; exact rfl)) (by kernel_rfl) (by kernel_rfl) (by kernel_rfl) (by exact fun _ _ _ h => h) (Or.inr ⟨by rfl, rfl⟩) (by assumption) ?_
          try simp only [Act.put, List.setIfInBounds_toArray, List.set_cons_zero, List.set_cons_succ]
          refine wpAnyH_take (i := 20) (v := undef) (by (simp only [List.getElem?_toArray, List.getElem?_cons_zero, List.getElem?_cons_succ]; exact rfl)) (by kernel_rfl) (by kernel_rfl) (by kernel_rfl) (by exact fun _ _ _ h => h) (Or.inr ⟨by rfl, rfl⟩) (by assumption) ?_
          try simp only [Act.put, List.setIfInBounds_toArray, List.set_cons_zero, List.set_cons_succ]
          refine wpAnyH_take (i := 21) (v := ?_) (by (simp only [List.getElem?_toArray, List.getElem?_cons_zero, List.getElem?_cons_succ]; exact rfl)) (by kernel_rfl) (by kernel_rfl) (by kernel_rfl) (by exact fun _ _ _ h => h) (Or.inl ⟨by rfl, ?_⟩) (by assumption) ?_
          rotate_left
          · (intro w hSw; (try dsimp only at hSw); first | (go_simp; done) | (go_simp; with_reducible rfl))
          try simp only [Act.put, List.setIfInBounds_toArray, List.set_cons_zero, List.set_cons_succ]
          refine wpAnyH_take (i := 22) (v := ?_) (by (simp only [List.getElem?_toArray, List.getElem?_cons_zero, List.getElem?_cons_succ]; exact rfl)) (by kernel_rfl) (by kernel_rfl) (by kernel_rfl) (by exact fun _ _ _ h => h) (Or.inl ⟨by rfl, ?_⟩) (by assumption) ?_
          rotate_left
          · (intro w hSw; (try dsimp only at hSw); first | (go_simp; done) | (go_simp; with_reducible rfl))
          try simp only [Act.put, List.setIfInBounds_toArray, List.set_cons_zero, List.set_cons_succ]
          refine wpAnyH_done (by kernel_rfl) ?_ _
          /- p33: end -/
          go_wp2_with fail
          go_meet
          exact ⟨rfl, T8.out⟩
        | some j =>
          obtain ⟨hj, -⟩ := place_some hpl
          obtain rfl : fk = (j : Int) := by rw [← hfk]; unfold findK; rw [hpl]
          obtain rfl : fp = (j : Int) := by rw [← hfp]; exact placeI_some hpl
          obtain rfl : fb = true := by rw [← hfb, hpl]; rfl
          have e3 : gt L1 j = x := by rw [← hx, (rem_some hpl).2.1]
          have T8 := Lib.hid ((T7.out.below (Below.refl _ _).drew).drop)
          obtain ⟨a2, rfl, y0, y1, y2⟩ := R7.o.holds.at hj
          rw [e3] at y0 y1 y2
          obtain ⟨n2, hn2⟩ : ∃ n2, L1.length = n2 := ⟨_, rfl⟩
          have m0 : w7.cell? ⟨M, 0, none⟩ = some (.slice (some a2) n2 c2) := by rw [← hn2]; exact blk_cell R7.b
          have j0 : (0 : Int) ≤ (j : Int) := by omega
          have jn : (j : Int) < (n2 : Int) := by omega
          have j1 : decide ((0 : Int) ≤ (j : Int)) = true := decide_eq_true j0
          have jj : ((j : Int) != (j : Int)) = false := by simp
          have NE := fun W => neq_it W x x true (decide_eq_true rfl)
          have SS : w7.drew.cell? ⟨M, 0, none⟩ = some (.slice (some a2) n2 c2) ∧ (w7.drew.cell? ⟨w6.heap.size, 0, none⟩ = some (.int .u64 (x.id : Nat)) ∧ w7.drew.cell? ⟨w6.heap.size, 1, none⟩ = some (.int .u64 (x.seq : Nat)) ∧ w7.drew.cell? ⟨w6.heap.size, 2, none⟩ = some (.int .i64 x.t)) ∧ (w7.drew.cell? (a2.add (j * 3)) = some (.int .u64 (x.id : Nat)) ∧ w7.drew.cell? ⟨(a2.add (j * 3)).block, (a2.add (j * 3)).off + 1, none⟩ = some (.int .u64 (x.seq : Nat)) ∧ w7.drew.cell? ⟨(a2.add (j * 3)).block, (a2.add (j * 3)).off + 2, none⟩ = some (.int .i64 x.t)) :=
            ⟨m0, ⟨blk_cell B7, blk_cell B7, blk_cell B7⟩, y0, y1, y2⟩
          clear hfk hfb hfp B7 R7 T7 hpl hx KC hj e3 y0 y1 y2 m0 hn2
          as_aux_lemma =>
          go_wp2_with fail
          /- s33: begin -/
          refine wp_region_held_drew (S := fun w' => w'.cell? ⟨M, 0, none⟩ = some (.slice (some a2) n2 c2) ∧ (w'.cell? ⟨w6.heap.size, 0, none⟩ = some (.int .u64 (x.id : Nat)) ∧ w'.cell? ⟨w6.heap.size, 1, none⟩ = some (.int .u64 (x.seq : Nat)) ∧ w'.cell? ⟨w6.heap.size, 2, none⟩ = some (.int .i64 x.t)) ∧ (w'.cell? (a2.add (j * 3)) = some (.int .u64 (x.id : Nat)) ∧ w'.cell? ⟨(a2.add (j * 3)).block, (a2.add (j * 3)).off + 1, none⟩ = some (.int .u64 (x.seq : Nat)) ∧ w'.cell? ⟨(a2.add (j * 3)).block, (a2.add (j * 3)).off + 2, none⟩ = some (.int .i64 x.t))) (by kernel_rfl) (SS) (fun hHeld => ?_)
          refine wpAnyH_take (i := 0) (v := ?_) (by (simp only [List.getElem?_toArray, List.getElem?_cons_zero]; exact rfl)) (by kernel_rfl) (by kernel_rfl) (by kernel_rfl) (by exact fun _ _ _ h => h) (Or.inl ⟨by rfl, ?_⟩) (by assumption) ?_
          rotate_left
          · (intro w hSw; (try dsimp only at hSw); first | (go_simp; done) | (go_simp; with_reducible rfl))
          try simp only [Act.put, List.setIfInBounds_toArray, List.set_cons_zero, List.set_cons_succ]
          refine wpAnyH_take (i := 1) (v := ?_) (by (simp only [List.getElem?_toArray, List.getElem?_cons_zero, List.getElem?_cons_succ]; exact rfl)) (by kernel_rfl) (by kernel_rfl) (by kernel_rfl) (by exact fun _ _ _ h => h) (Or.inl ⟨by rfl, ?_⟩) (by assumption) ?_
          rotate_left
          · (intro w hSw; (try dsimp only at hSw); first | (go_simp; done) | (go_simp; with_reducible rfl))
          try simp only [Act.put, List.setIfInBounds_toArray, List.set_cons_zero, List.set_cons_succ]
          refine wpAnyH_take (i := 2) (v := ?_) (by (simp only [List.getElem?_toArray, List.getElem?_cons_zero, List.getElem?_cons_succ]; exact rfl)) (by kernel_rfl) (by kernel_rfl) (by kernel_rfl) (by exact fun _ _ _ h => h) (Or.inl ⟨by rfl, ?_⟩) (by assumption) ?_
          rotate_left
          · (intro w hSw; (try dsimp only at hSw); first | (go_simp; done) | (go_simp; with_reducible rfl))
          try simp only [Act.put, List.setIfInBounds_toArray, List.set_cons_zero, List.set_cons_succ]
          refine wpAnyH_take (i := 3) (v := ?_) (by (simp only [List.getElem?_toArray, List.getElem?_cons_zero, List.getElem?_cons_succ]; exact rfl)) (by kernel_rfl) (by kernel_rfl) (by kernel_rfl) (by exact fun _ _ _ h => h) (Or.inl ⟨by rfl, ?_⟩) (by assumption) ?_
          rotate_left
          · (intro w hSw; (try dsimp only at hSw); first | (go_simp; done) | (go_simp; with_reducible rfl))
          try simp only [Act.put, List.setIfInBounds_toArray, List.set_cons_zero, List.set_cons_succ]
          refine wpAnyH_take (i := 4) (v := ?_) (by (simp only [List.getElem?_toArray, List.getElem?_cons_zero, List.getElem?_cons_succ]; exact rfl)) (by kernel_rfl) (by kernel_rfl) (by kernel_rfl) (by exact fun _ _ _ h => h) (Or.inl ⟨by rfl, ?_⟩) (by assumption) ?_
          rotate_left
          · (intro w hSw; (try dsimp only at hSw); first | (go_simp; done) | (go_simp; with_reducible rfl))
          try simp only [Act.put, List.setIfInBounds_toArray, List.set_cons_zero, List.set_cons_succ]
          refine wpAnyH_take (i := 5) (v := ?_) (by (simp only [List.getElem?_toArray, List.getElem?_cons_zero, List.getElem?_cons_succ]; exact rfl)) (by kernel_rfl) (by kernel_rfl) (by kernel_rfl) (by exact fun _ _ _ h => h) (Or.inl ⟨by rfl, ?_⟩) (by assumption) ?_
          rotate_left
          · (intro w hSw; (try dsimp only at hSw); first | (go_simp; done) | (go_simp; with_reducible rfl))
          try simp only [Act.put, List.setIfInBounds_toArray, List.set_cons_zero, List.set_cons_succ]
          refine wpAnyH_take (i := 6) (v := ?_) (by (simp only [List.getElem?_toArray, List.getElem?_cons_zero, List.getElem?_cons_succ]; exact rfl)) (by kernel_rfl) (by kernel_rfl) (by kernel_rfl) (by exact fun _ _ _ h => h) (Or.inl ⟨by rfl, ?_⟩) (by assumption) ?_
          rotate_left
          · (intro w hSw; (try dsimp only at hSw); first | (go_simp; done) | (go_simp; with_reducible rfl))
          try simp only [Act.put, List.setIfInBounds_toArray, List.set_cons_zero, List.set_cons_succ]
          refine wpAnyH_take (i := 7) (v := ?_) (by (simp only [List.getElem?_toArray, List.getElem?_cons_zero, List.getElem?_cons_succ]; exact rfl)) (by kernel_rfl) (by kernel_rfl) (by kernel_rfl) (by exact fun _ _ _ h => h) (Or.inl ⟨by rfl, ?_⟩) (by assumption) ?_
          rotate_left
          · (intro w hSw; (try dsimp only at hSw); first | (go_simp; done) | (go_simp; with_reducible rfl))
          try simp only [Act.put, List.setIfInBounds_toArray, List.set_cons_zero, List.set_cons_succ]
          refine wpAnyH_take (i := 8) (v := ?_) (by (simp only [List.getElem?_toArray, List.getElem?_cons_zero, List.getElem?_cons_succ]; exact rfl)) (by kernel_rfl) (by kernel_rfl) (by kernel_rfl) (by exact fun _ _ _ h => h) (Or.inl ⟨by rfl, ?_⟩) (by assumption) ?_
          rotate_left
          · (intro w hSw; (try dsimp only at hSw); first | (go_simp; done) | (go_simp; with_reducible rfl))
          try simp only [Act.put, List.setIfInBounds_toArray, List.set_cons_zero, List.set_cons_succ]
          refine wpAnyH_take (i := 9) (v := ?_) (by (simp only [List.getElem?_toArray, List.getElem?_cons_zero, List.getElem?_cons_succ]; exact rfl)) (by kernel_rfl) (by kernel_rfl) (by kernel_rfl) (by exact fun _ _ _ h => h) (Or.inl ⟨by rfl, ?_⟩) (by assumption) ?_
          rotate_left
          · (intro w hSw; (try dsimp only at hSw); first | (go_simp; done) | (go_simp; with_reducible rfl))
          try simp only [Act.put, List.setIfInBounds_toArray, List.set_cons_zero, List.set_cons_succ]
          refine wpAnyH_take (i := 10) (v := ?_) (by (simp only [List.getElem?_toArray, List.getElem?_cons_zero, List.getElem?_cons_succ]; exact rfl)) (by kernel_rfl) (by kernel_rfl) (by kernel_rfl) (by exact fun _ _ _ h => h) (Or.inl ⟨by rfl, ?_⟩) (by assumption) ?_
          rotate_left
          · (intro w hSw; (try dsimp only at hSw); first | (go_simp; done) | (go_simp; with_reducible rfl))
          try simp only [Act.put, List.setIfInBounds_toArray, List.set_cons_zero, List.set_cons_succ]
          refine wpAnyH_take (i := 11) (v := ?_) (by (simp only [List.getElem?_toArray, List.getElem?_cons_zero, List.getElem?_cons_succ]; exact rfl)) (by kernel_rfl) (by kernel_rfl) (by kernel_rfl) (by exact fun _ _ _ h => h) (Or.inl ⟨by rfl, ?_⟩) (by assumption) ?_
          rotate_left
          · (intro w hSw; (try dsimp only at hSw); first | (go_simp; done) | (go_simp; with_reducible rfl))
          try simp only [Act.put, List.setIfInBounds_toArray, List.set_cons_zero, List.set_cons_succ]
          refine wpAnyH_take (i := 12) (v := ?_) (by (simp only [List.getElem?_toArray, List.getElem?_cons_zero, List.getElem?_cons_succ]; exact rfl)) (by kernel_rfl) (by kernel_rfl) (by kernel_rfl) (by exact fun _ _ _ h => h) (Or.inl ⟨by rfl, ?_⟩) (by assumption) ?_
          rotate_left
          · (intro w hSw; (try dsimp only at hSw); first | (go_simp; done) | (go_simp; with_reducible rfl))
          try simp only [Act.put, List.setIfInBounds_toArray, List.set_cons_zero, List.set_cons_succ]
          refine wpAnyH_take (i := 13) (v := ?_) (by (simp only [List.getElem?_toArray, List.getElem?_cons_zero, List.getElem?_cons_succ]; exact rfl)) (by kernel_rfl) (by kernel_rfl) (by kernel_rfl) (by exact fun _ _ _ h => h) (Or.inl ⟨by rfl, ?_⟩) (by assumption) ?_
          rotate_left
          · (intro w hSw; (try dsimp only at hSw); first | (go_simp; done) | (go_simp; with_reducible rfl))
          try simp only [Act.put, List.setIfInBounds_toArray, List.set_cons_zero, List.set_cons_succ]
          refine wpAnyH_take (i := 14) (v := ?_) (by (simp only [List.getElem?_toArray, List.getElem?_cons_zero, List.getElem?_cons_succ]; exact rfl)) (by kernel_rfl) (by kernel_rfl) (by kernel_rfl) (by exact fun _ _ _ h => h) (Or.inl ⟨by rfl, ?_⟩) (by assumption) ?_
          rotate_left
          · (intro w hSw; (try dsimp only at hSw); first | (go_simp; done) | (go_simp; with_reducible rfl))
          try simp only [Act.put, List.setIfInBounds_toArray, List.set_cons_zero, List.set_cons_succ]
          refine wpAnyH_take (i := 15) (v := ?_) (by (simp only [List.getElem?_toArray, List.getElem?_cons_zero, List.getElem?_cons_succ]; exact rfl)) (by kernel_rfl) (by kernel_rfl) (by kernel_rfl) (by exact fun _ _ _ h => h) (Or.inl ⟨by rfl, ?_⟩) (by assumption) ?_
          rotate_left
          · (intro w hSw; (try dsimp only at hSw); first | (go_simp; done) | (go_simp; with_reducible rfl))
          try simp only [Act.put, List.setIfInBounds_toArray, List.set_cons_zero, List.set_cons_succ]
          refine wpAnyH_take (i := 16) (v := ?_) (by (simp only [List.getElem?_toArray, List.getElem?_cons_zero, List.getElem?_cons_succ]; exact rfl)) (by kernel_rfl) (by kernel_rfl) (by kernel_rfl) (by exact fun _ _ _ h => h) (Or.inl ⟨by rfl, ?_⟩) (by assumption) ?_
          rotate_left
          · (intro w hSw; (try dsimp only at hSw); first | (go_simp; done) | (go_simp; with_reducible rfl))
          try simp only [Act.put, List.setIfInBounds_toArray, List.set_cons_zero, List.set_cons_succ]
          refine wpAnyH_take (i := 17) (v := ?_) (by (simp only [List.getElem?_toArray, List.getElem?_cons_zero, List.getElem?_cons_succ]; exact rfl)) (by kernel_rfl) (by kernel_rfl) (by kernel_rfl) (by exact fun _ _ _ h => h) (Or.inl ⟨by rfl, ?_⟩) (by assumption) ?_
          rotate_left
          · (intro w hSw; (try dsimp only at hSw); first | (go_simp; done) | (go_simp; with_reducible rfl))
          try simp only [Act.put, List.setIfInBounds_toArray, List.set_cons_zero, List.set_cons_succ]
          refine wpAnyH_take (i := 18) (v := ?_) (by (simp only [List.getElem?_toArray, List.getElem?_cons_zero, List.getElem?_cons_succ]; exact rfl)) (by kernel_rfl) (by kernel_rfl) (by kernel_rfl) (by exact fun _ _ _ h => h) (Or.inl ⟨by rfl, ?_⟩) (by assumption) ?_
          rotate_left
          · (intro w hSw; (try dsimp only at hSw); first | (go_simp; done) | (go_simp; with_reducible rfl))
          try simp only [Act.put, List.setIfInBounds_toArray, List.set_cons_zero, List.set_cons_succ]
          refine wpAnyH_take (i := 19) (v := ?_) (by (simp only [List.getElem?_toArray, List.getElem?_cons_zero, List.getElem?_cons_succ]; exact rfl)) (by kernel_rfl) (by kernel_rfl) (by kernel_rfl) (by exact fun _ _ _ h => h) (Or.inl ⟨by rfl, ?_⟩) (by assumption) ?_
          rotate_left
          · (intro w hSw; (try dsimp only at hSw); first | (go_simp; done) | (go_simp; with_reducible rfl))
          try simp only [Act.put, List.setIfInBounds_toArray, List.set_cons_zero, List.set_cons_succ]
          refine wpAnyH_take (i := 20) (v := ?_) (by (simp only [List.getElem?_toArray, List.getElem?_cons_zero, List.getElem?_cons_succ]; exact rfl)) (by kernel_rfl) (by kernel_rfl) (by kernel_rfl) (by exact fun _ _ _ h => h) (Or.inl ⟨by rfl, ?_⟩) (by assumption) ?_
          rotate_left
          · (intro w hSw; (try dsimp only at hSw); first | (go_simp; done) | (go_simp; with_reducible rfl))
          try simp only [Act.put, List.setIfInBounds_toArray, List.set_cons_zero, List.set_cons_succ]
          refine wpAnyH_take (i := 21) (v := ?_) (by (simp only [List.getElem?_toArray, List.getElem?_cons_zero, List.getElem?_cons_succ]; exact rfl)) (by kernel_rfl) (by kernel_rfl) (by kernel_rfl) (by exact fun _ _ _ h => h) (Or.inl ⟨by rfl, ?_⟩) (by assumption) ?_
          rotate_left
          · (intro w hSw; (try dsimp only at hSw); first | (go_simp; done) | (go_simp; with_reducible rfl))
          try simp only [Act.put, List.setIfInBounds_toArray, List.set_cons_zero, List.set_cons_succ]
          refine wpAnyH_take (i := 22) (v := ?_) (by (simp only [List.getElem?_toArray, List.getElem?_cons_zero, List.getElem?_cons_succ]; exact rfl)) (by kernel_rfl) (by kernel_rfl) (by kernel_rfl) (by exact fun _ _ _ h => h) (Or.inl ⟨by rfl, ?_⟩) (by assumption) ?_
          rotate_left
          · (intro w hSw; (try dsimp only at hSw); first | (go_simp; done) | (go_simp; with_reducible rfl))
          try simp only [Act.put, List.setIfInBounds_toArray, List.set_cons_zero, List.set_cons_succ]
          refine wpAnyH_done (by kernel_rfl) ?_ _
          /- s33: end -/
          go_wp2_with fail
          go_meet
          exact ⟨rfl, T8.out⟩
      case rest =>
      obtain ⟨rfl, T8⟩ := hcut
      clear T7 hx hfk hfb hfp
      as_aux_lemma =>
      have MI := Lib.hid T8.out.min
      unfold itV at MI
      go_wp2_with fail
      refine MI.out.mono ?_; rintro e w10 ⟨rfl, T9⟩
      clear MI T8
      obtain ⟨y, hy⟩ : ∃ y, popX L1 = y := ⟨_, rfl⟩
      simp only [hy]
      have T10 := Lib.hid (T9.add (T' := boxTh w10.heap.size (.cells #[.int .u64 (y.id : Nat), .int .u64 (y.seq : Nat), .int .i64 y.t] 34 (0, 0))) ((Below.refl w10.heap.size w10).alloc (Nat.le_refl _) (.cells #[.int .u64 (y.id : Nat), .int .u64 (y.seq : Nat), .int .i64 y.t] 34)) (F' := fun J => J = w10.heap.size) ⟨heap_alloc_new _ _, fun _ => Iff.rfl⟩ (fun J hJ => by rw [hJ]; exact Nat.le_refl _))
      clear T9
      go_upto_region 36 with fail
      generalize w10.alloc (.cells #[.int .u64 (y.id : Nat), .int .u64 (y.seq : Nat), .int .i64 y.t] 34) = w11 at *
      generalize w10.heap.size = bk at *
      obtain ⟨ok, hok⟩ : ∃ k, decide (0 < L1.length) = k := ⟨_, rfl⟩
      simp only [hok]
      go_cut [239] (fun o wx => o = .bool false ∧ Hid (Pl C w bx v0 wx N2 M sz L1 L1 noTh))
      case first =>
        have B7 := T10.out.box
        obtain ⟨p2, c2, R7⟩ := Pl.ref T10.out
        obtain ⟨n2, hn2⟩ : ∃ n2, L1.length = n2 := ⟨_, rfl⟩
        have A1 : Hid (∀ w', Below w11.heap.size w11 w' → Calls Try.prog 13 #[.pointer (some ⟨N2, 0, none⟩)] w' fun e w'' => e = .returned (.int .i64 (n2 : Nat)) ∧ Below w11.heap.size w11 w'') := fun w' b => by
          obtain ⟨F, G, H, f, -⟩ := T10.out.out
          exact (C.len (C.below f b)).mono fun e w'' ⟨e1, b1⟩ => ⟨by rw [e1, hn2], b.trans (b1.mono b.size)⟩
        have A2 : Hid (∀ w', Below w11.heap.size w11 w' → Calls Try.prog 26 #[.pointer (some ⟨N2, 0, none⟩)] w' fun e w'' => ∃ p c, e = .returned (.slice p n2 c) ∧ HoldsI w'' p n2 c L1 ∧ Below w11.heap.size w11 w'') := fun w' b => by
          obtain ⟨F, G, H, f, -⟩ := T10.out.out
          exact (C.row (C.below f b)).mono fun e w'' ⟨p, c, e1, h1, _, b1⟩ => ⟨p, c, by rw [e1, hn2], by rw [← hn2]; exact h1, b.trans (b1.mono b.size)⟩
        have A3 : Hid (∀ w' p c, HoldsI w' p n2 c L1 → Below w11.heap.size w11 w' → Calls Try.prog 25 #[.slice p n2 c, .slice p2 n2 c2] w' fun e w'' => e = .returned (.bool true) ∧ Below w11.heap.size w11 w'') := fun w' p c h b => by
          have o := (R7.below b).o.holds
          rw [hn2] at o
          exact (lsame13_any w' p n2 c L1 p2 n2 c2 L1 h o).mono fun e w'' ⟨e1, b1⟩ => ⟨by rw [e1, decide_eq_true rfl], b.trans (b1.mono b.size)⟩
        have FE : Hid (∀ w', Below w11.heap.size w11 w' → Pl C w bx v0 w' N2 M sz L1 L1 noTh) := fun w' b => (T10.out.below b).drop
        have M0 : Hid (∀ w', Below w11.heap.size w11 w' → w'.cell? ⟨M, 0, none⟩ = some (.slice p2 n2 c2)) := fun w' b => by rw [← hn2]; exact blk_cell (R7.below b).b
        have HB0 : Below w11.heap.size w11 w11.drew := (Below.refl _ _).drew
        have nn : ((n2 : Int) != (n2 : Int)) = false := by simp
        by_cases z : n2 = 0
        · obtain rfl : ok = false := by rw [← hok]; exact decide_eq_false (by omega)
          have z1 : decide ((0 : Int) < (n2 : Int)) = false := decide_eq_false (by omega)
          have z2 : decide (0 < n2) = false := decide_eq_false (by omega)
          clear T10 B7 R7 hn2 hy hok KC z
          as_aux_lemma =>
          go_wp2_with fail
          /- z36: begin -/
          refine wp_region_held_drew (S := fun w' => w'.cell? ⟨M, 0, none⟩ = some (.slice p2 n2 c2)) (by kernel_rfl) (M0.out _ HB0) (fun hHeld => ?_)
          refine wpAnyH_take (i := 0) (v := ?_) (by (simp only [List.getElem?_toArray, List.getElem?_cons_zero]; exact rfl)) (by kernel_rfl) (by kernel_rfl) (by kernel_rfl) (by exact fun _ _ _ h => h) (Or.inl ⟨by rfl, ?_⟩) (by assumption) ?_
          rotate_left
          · (intro w hSw; (try dsimp only at hSw); first | (go_simp; done) | (go_simp; with_reducible rfl))
          try simp only [Act.put, List.setIfInBounds_toArray, List.set_cons_zero, List.set_cons_succ]
          refine wpAnyH_take (i := 1) (v := ?_) (by (simp only [List.getElem?_toArray, List.getElem?_cons_zero, List.getElem?_cons_succ]; exact rfl)) (by kernel_rfl) (by kernel_rfl) (by kernel_rfl) (by exact fun _ _ _ h => h) (Or.inl ⟨by rfl, ?_⟩) (by assumption) ?_
          rotate_left
          · (intro w hSw; (try dsimp only at hSw); first | (go_simp; done) | (go_simp; with_reducible rfl))
          try simp only [Act.put, List.setIfInBounds_toArray, List.set_cons_zero, List.set_cons_succ]
          refine wpAnyH_take (i := 2) (v := ?_) (by (simp only [List.getElem?_toArray, List.getElem?_cons_zero, List.getElem?_cons_succ]; exact rfl)) (by kernel_rfl) (by kernel_rfl) (by kernel_rfl) (by exact fun _ _ _ h => h) (Or.inl ⟨by rfl, ?_⟩) (by assumption) ?_
          rotate_left
          · (intro w hSw; (try dsimp only at hSw); first | (go_simp; done) | (go_simp; with_reducible rfl))
          try simp only [Act.put, List.setIfInBounds_toArray, List.set_cons_zero, List.set_cons_succ]
          refine wpAnyH_take (i := 3) (v := ?_) (by (simp only [List.getElem?_toArray, List.getElem?_cons_zero, List.getElem?_cons_succ]; exact rfl)) (by kernel_rfl) (by kernel_rfl) (by kernel_rfl) (by exact fun _ _ _ h => h) (Or.inl ⟨by rfl, ?_⟩) (by assumption) ?_
          rotate_left
          · (intro w hSw; (try dsimp only at hSw); first | (go_simp; done) | (go_simp; with_reducible rfl))
          try simp only [Act.put, List.setIfInBounds_toArray, List.set_cons_zero, List.set_cons_succ]
          refine wpAnyH_take (i := 5) (v := ?_) (by (simp only [List.getElem?_toArray, List.getElem?_cons_zero, List.getElem?_cons_succ]; exact rfl)) (by kernel_rfl) (by kernel_rfl) (by kernel_rfl) (by exact fun _ _ _ h => h) (Or.inl ⟨by rfl, ?_⟩) (by assumption) ?_
          rotate_left
          · (intro w hSw; (try dsimp only at hSw); first | (go_simp; done) | (go_simp; with_reducible rfl))
          try simp only [Act.put, List.setIfInBounds_toArray, List.set_cons_zero, List.set_cons_succ]
          refine wpAnyH_take (i := 6) (v := ?_) (by (simp only [List.getElem?_toArray, List.getElem?_cons_zero, List.getElem?_cons_succ]; exact rfl)) (by kernel_rfl) (by kernel_rfl) (by kernel_rfl) (by exact fun _ _ _ h => h) (Or.inl ⟨by rfl, ?_⟩) (by assumption) ?_
          rotate_left
          · (intro w hSw; (try dsimp only at hSw); first | (go_simp; done) | (go_simp; with_reducible rfl))
          try simp only [Act.put, List.setIfInBounds_toArray, List.set_cons_zero, List.set_cons_succ]
          refine wpAnyH_take (i := 7) (v := ?_) (by (simp only [List.getElem?_toArray, List.getElem?_cons_zero, List.getElem?_cons_succ]; exact rfl)) (by kernel_rfl) (by kernel_rfl) (by kernel_rfl) (by exact fun _ _ _ h => h) (Or.inl ⟨by rfl, ?_⟩) (by assumption) ?_
          rotate_left
          · (intro w hSw; (try dsimp only at hSw); first | (go_simp; done) | (go_simp; with_reducible rfl))
          try simp only [Act.put, List.setIfInBounds_toArray, List.set_cons_zero, List.set_cons_succ]
          refine wpAnyH_take (i := 8) (v := ?_) (by (simp only [List.getElem?_toArray, List.getElem?_cons_zero, List.getElem?_cons_succ]; exact rfl)) (by kernel_rfl) (by kernel_rfl) (by kernel_rfl) (by exact fun _ _ _ h => h) (Or.inl ⟨by rfl, ?_⟩) (by assumption) ?_
          rotate_left
          · (intro w hSw; (try dsimp only at hSw); first | (go_simp; done) | (go_simp; with_reducible rfl))
          try simp only [Act.put, List.setIfInBounds_toArray, List.set_cons_zero, List.set_cons_succ]
          refine wpAnyH_take (i := 9) (v := ?_) (by (simp only [List.getElem?_toArray, List.getElem?_cons_zero, List.getElem?_cons_succ]; exact rfl)) (by kernel_rfl) (by kernel_rfl) (by kernel_rfl) (by exact fun _ _ _ h => h) (Or.inl ⟨by rfl, ?_⟩) (by assumption) ?_
          rotate_left
          · (intro w hSw; (try dsimp only at hSw); first | (go_simp; done) | (go_simp; with_reducible rfl))
          try simp only [Act.put, List.setIfInBounds_toArray, List.set_cons_zero, List.set_cons_succ]
          refine wpAnyH_ready (rs := [4]) (by kernel_rfl) (by simp) ?_
          refine AllReadyH.cons (by (simp only [List.getElem?_toArray, List.getElem?_cons_zero, List.getElem?_cons_succ]; exact rfl)) (fun K hK => ?_) AllReadyH.nil
          go_simp
          (go_at_call 13; refine (A1.out _ HB0).mono ?_; rintro e w12 ⟨rfl, HB1⟩)
          go_wp2_with fail
          refine hK.out _ _ (M0.out _ HB1) (fun hHeld => ?_)
          clear hK K
          try simp only [Act.put, List.setIfInBounds_toArray, List.set_cons_zero, List.set_cons_succ]
          refine wpAnyH_take (i := 10) (v := ?_) (by (simp only [List.getElem?_toArray, List.getElem?_cons_zero, List.getElem?_cons_succ]; exact rfl)) (by kernel_rfl) (by kernel_rfl) (by kernel_rfl) (by exact fun _ _ _ h => h) (Or.inl ⟨by rfl, ?_⟩) (by assumption) ?_
          rotate_left
          · (intro w hSw; (try dsimp only at hSw); first | (go_simp; done) | (go_simp; with_reducible rfl))
          try simp only [Act.put, List.setIfInBounds_toArray, List.set_cons_zero, List.set_cons_succ]
          refine wpAnyH_take (i := 11) (v := ?_) (by (simp only [List.getElem?_toArray, List.getElem?_cons_zero, List.getElem?_cons_succ]; exact rfl)) (by kernel_rfl) (by kernel_rfl) (by kernel_rfl) (by exact fun _ _ _ h => h) (Or.inl ⟨by rfl, ?_⟩) (by assumption) ?_
          rotate_left
          · (intro w hSw; (try dsimp only at hSw); first | (go_simp; done) | (go_simp; with_reducible rfl))
          try simp only [Act.put, List.setIfInBounds_toArray, List.set_cons_zero, List.set_cons_succ]
          refine wpAnyH_take (i := 12) (v := ?_) (by (simp only [List.getElem?_toArray, List.getElem?_cons_zero, List.getElem?_cons_succ]; exact rfl)) (by kernel_rfl) (by kernel_rfl) (by kernel_rfl) (by exact fun _ _ _ h => h) (Or.inl ⟨by rfl, ?_⟩) (by assumption) ?_
          rotate_left
          · (intro w hSw; (try dsimp only at hSw); first | (go_simp; done) | (go_simp; with_reducible rfl))
          try simp only [Act.put, List.setIfInBounds_toArray, List.set_cons_zero, List.set_cons_succ]
          refine wpAnyH_take (i := 13) (v := ?_) (by (simp only [List.getElem?_toArray, List.getElem?_cons_zero, List.getElem?_cons_succ]; exact rfl)) (by kernel_rfl) (by kernel_rfl) (by kernel_rfl) (by exact fun _ _ _ h => h) (Or.inl ⟨by rfl, ?_⟩) (by assumption) ?_
          rotate_left
          · (intro w hSw; (try dsimp only at hSw); first | (go_simp; done) | (go_simp; with_reducible rfl))
          try simp only [Act.put, List.setIfInBounds_toArray, List.set_cons_zero, List.set_cons_succ]
          refine wpAnyH_take (i := 15) (v := ?_) (by (simp only [List.getElem?_toArray, List.getElem?_cons_zero, List.getElem?_cons_succ]; exact rfl)) (by kernel_rfl) (by kernel_rfl) (by kernel_rfl) (by exact fun _ _ _ h => h) (Or.inl ⟨by rfl, ?_⟩) (by assumption) ?_
          rotate_left
          · (intro w hSw; (try dsimp only at hSw); first | (go_simp; done) | (go_simp; with_reducible rfl))
          try simp only [Act.put, List.setIfInBounds_toArray, List.set_cons_zero, List.set_cons_succ]
          refine wpAnyH_take (i := 16) (v := ?_) (by (simp only [List.getElem?_toArray, List.getElem?_cons_zero, List.getElem?_cons_succ]; exact rfl)) (by kernel_rfl) (by kernel_rfl) (by kernel_rfl) (by exact fun _ _ _ h => h) (Or.inl ⟨by rfl, ?_⟩) (by assumption) ?_
          rotate_left
          · (intro w hSw; (try dsimp only at hSw); first | (go_simp; done) | (go_simp; with_reducible rfl))
          try simp only [Act.put, List.setIfInBounds_toArray, List.set_cons_zero, List.set_cons_succ]
          refine wpAnyH_take (i := 17) (v := ?_) (by (simp only [List.getElem?_toArray, List.getElem?_cons_zero, List.getElem?_cons_succ]; exact rfl)) (by kernel_rfl) (by kernel_rfl) (by kernel_rfl) (by exact fun _ _ _ h => h) (Or.inl ⟨by rfl, ?_⟩) (by assumption) ?_
          rotate_left
          · (intro w hSw; (try dsimp only at hSw); first | (go_simp; done) | (go_simp; with_reducible rfl))
          try simp only [Act.put, List.setIfInBounds_toArray, List.set_cons_zero, List.set_cons_succ]
          refine wpAnyH_take (i := 18) (v := ?_) (by (simp only [List.getElem?_toArray, List.getElem?_cons_zero, List.getElem?_cons_succ]; exact rfl)) (by kernel_rfl) (by kernel_rfl) (by kernel_rfl) (by exact fun _ _ _ h => h) (Or.inl ⟨by rfl, ?_⟩) (by assumption) ?_
          rotate_left
          · (intro w hSw; (try dsimp only at hSw); first | (go_simp; done) | (go_simp; with_reducible rfl))
          try simp only [Act.put, List.setIfInBounds_toArray, List.set_cons_zero, List.set_cons_succ]
          refine wpAnyH_ready (rs := [14]) (by kernel_rfl) (by simp) ?_
          refine AllReadyH.cons (by (simp only [List.getElem?_toArray, List.getElem?_cons_zero, List.getElem?_cons_succ]; exact rfl)) (fun K hK => ?_) AllReadyH.nil
          go_simp
          (go_at_call 26; refine (A2.out _ HB1).mono ?_; rintro e w13 ⟨p3, c3, rfl, RW, HB2⟩)
          go_wp2_with fail
          refine hK.out _ _ (M0.out _ HB2) (fun hHeld => ?_)
          clear hK K
          try simp only [Act.put, List.setIfInBounds_toArray, List.set_cons_zero, List.set_cons_succ]
          refine wpAnyH_ready (rs := [19]) (by kernel_rfl) (by simp) ?_
          refine AllReadyH.cons (by (simp only [List.getElem?_toArray, List.getElem?_cons_zero, List.getElem?_cons_succ]; exact rfl)) (fun K hK => ?_) AllReadyH.nil
          go_simp
          (go_at_call 25; refine (A3.out _ _ _ RW HB2).mono ?_; rintro e w14 ⟨rfl, HB3⟩)
          go_wp2_with fail
          refine hK.out _ _ (M0.out _ HB3) (fun hHeld => ?_)
          clear hK K
          try simp only [Act.put, List.setIfInBounds_toArray, List.set_cons_zero, List.set_cons_succ]
          refine wpAnyH_take (i := 20) (v := ?_) (by (simp only [List.getElem?_toArray, List.getElem?_cons_zero, List.getElem?_cons_succ]; exact rfl)) (by kernel_rfl) (by kernel_rfl) (by kernel_rfl) (by exact fun _ _ _ h => h) (Or.inl ⟨by rfl, ?_⟩) (by assumption) ?_
          rotate_left
          · (intro w hSw; (try dsimp only at hSw); first | (go_simp; done) | (go_simp; with_reducible rfl))
          try simp only [Act.put, List.setIfInBounds_toArray, List.set_cons_zero, List.set_cons_succ]
          refine wpAnyH_take (i := 21) (v := ?_) (by (simp only [List.getElem?_toArray, List.getElem?_cons_zero, List.getElem?_cons_succ]; exact rfl)) (by kernel_rfl) (by kernel_rfl) (by kernel_rfl) (by exact fun _ _ _ h => h) (Or.inl ⟨by rfl, ?_⟩) (by assumption) ?_
          rotate_left
          · (intro w hSw; (try dsimp only at hSw); first | (go_simp; done) | (go_simp; with_reducible rfl))
          try simp only [Act.put, List.setIfInBounds_toArray, List.set_cons_zero, List.set_cons_succ]
          refine wpAnyH_take (i := 22) (v := ?_) (by (simp only [List.getElem?_toArray, List.getElem?_cons_zero, List.getElem?_cons_succ]; exact rfl)) (by kernel_rfl) (by kernel_rfl) (by kernel_rfl) (by exact fun _ _ _ h => h) (Or.inl ⟨by rfl, ?_⟩) (by assumption) ?_
          rotate_left
          · (intro w hSw; (try dsimp only at hSw); first | (go_simp; done) | (go_simp; with_reducible rfl))
          try simp only [Act.put, List.setIfInBounds_toArray, List.set_cons_zero, List.set_cons_succ]
          refine wpAnyH_take (i := 23) (v := ?_) (by (simp only [List.getElem?_toArray, List.getElem?_cons_zero, List.getElem?_cons_succ]; exact rfl)) (by kernel_rfl) (by kernel_rfl) (by kernel_rfl) (by exact fun _ _ _ h => h) (Or.inl ⟨by rfl, ?_⟩) (by assumption) ?_
          rotate_left
          · (intro w hSw; (try dsimp only at hSw); first | (go_simp; done) | (go_simp; with_reducible rfl))
          try simp only [Act.put, List.setIfInBounds_toArray, List.set_cons_zero, List.set_cons_succ]
          refine wpAnyH_take (i := 24) (v := ?_) (by (simp only [List.getElem?_toArray, List.getElem?_cons_zero, List.getElem?_cons_succ]; exact rfl)) (by kernel_rfl) (by kernel_rfl) (by kernel_rfl) (by exact fun _ _ _ h => h) (Or.inl ⟨by rfl, ?_⟩) (by assumption) ?_
          rotate_left
          · (intro w hSw; (try dsimp only at hSw); first | (go_simp; done) | (go_simp; with_reducible rfl))
          try simp only [Act.put, List.setIfInBounds_toArray, List.set_cons_zero, List.set_cons_succ]
          refine wpAnyH_take (i := 25) (v := ?_) (by (simp only [List.getElem?_toArray, List.getElem?_cons_zero, List.getElem?_cons_succ]; exact rfl)) (by kernel_rfl) (by kernel_rfl) (by kernel_rfl) (by exact fun _ _ _ h => h) (Or.inl ⟨by rfl, ?_⟩) (by assumption) ?_
          rotate_left
          · (intro w hSw; (try dsimp only at hSw); first | (go_simp; done) | (go_simp; with_reducible rfl))
          try simp only [Act.put, List.setIfInBounds_toArray, List.set_cons_zero, List.set_cons_succ]
          refine wpAnyH_take (i := 26) (v := ?_) (by (simp only [List.getElem?_toArray, List.getElem?_cons_zero, List.getElem?_cons_succ]; exact rfl)) (by kernel_rfl) (by kernel_rfl) (by kernel_rfl) (by exact fun _ _ _ h => h) (Or.inl ⟨by rfl, ?_⟩) (by assumption) ?_
          rotate_left
          · (intro w hSw; (try dsimp only at hSw); first | (go_simp; done) | (go_simp; with_reducible rfl))
          try simp only [Act.put, List.setIfInBounds_toArray, List.set_cons_zero, List.set_cons_succ]
          refine wpAnyH_take (i := 27) (v := ?_) (by (simp only [List.getElem?_toArray, List.getElem?_cons_zero, List.getElem?_cons_succ]; exact rfl)) (by kernel_rfl) (by kernel_rfl) (by kernel_rfl) (by exact fun _ _ _ h => h) (Or.inl ⟨by rfl, ?_⟩) (by assumption) ?_
          rotate_left
          · (intro w hSw; (try dsimp only at hSw); first | (go_simp; done) | (go_simp; with_reducible rfl))
          try simp only [Act.put, List.setIfInBounds_toArray, List.set_cons_zero, List.set_cons_succ]
          refine wpAnyH_take (i := 28) (v := ?_) (by (simp only [List.getElem?_toArray, List.getElem?_cons_zero, List.getElem?_cons_succ]; exact rfl)) (by kernel_rfl) (by kernel_rfl) (by kernel_rfl) (by exact fun _ _ _ h => h) (Or.inl ⟨by rfl, ?_⟩) (by assumption) ?_
          rotate_left
          · (intro w hSw; (try dsimp only at hSw); first | (go_simp; done) | (go_simp; with_reducible rfl))
          try simp only [Act.put, List.setIfInBounds_toArray, List.set_cons_zero, List.set_cons_succ]
          refine wpAnyH_take (i := 29) (v := ?_) (by (simp only [List.getElem?_toArray, List.getElem?_cons_zero, List.getElem?_cons_succ]; exact rfl)) (by kernel_rfl) (by kernel_rfl) (by kernel_rfl) (by exact fun _ _ _ h => h) (Or.inl ⟨by rfl, ?_⟩) (by assumption) ?_
          rotate_left
          · (intro w hSw; (try dsimp only at hSw); first | (go_simp; done) | (go_simp; with_reducible rfl))
          try simp only [Act.put, List.setIfInBounds_toArray, List.set_cons_zero, List.set_cons_succ]
          refine wpAnyH_take (i := 30) (v := ?_) (by (simp only [List.getElem?_toArray, List.getElem?_cons_zero, List.getElem?_cons_succ]; exact rfl)) (by kernel_rfl) (by kernel_rfl) (by kernel_rfl) (by exact fun _ _ _ h => h) (Or.inl ⟨by rfl, ?_⟩) (by assumption) ?_
          rotate_left
          · (intro w hSw; (try dsimp only at hSw); first | (go_simp; done) | (go_simp; with_reducible rfl))
          try simp only [Act.put, List.setIfInBounds_toArray, List.set_cons_zero, List.set_cons_succ]
          refine wpAnyH_take (i := 31) (v := ?_) (by (simp only [List.getElem?_toArray, List.getElem?_cons_zero, List.getElem?_cons_succ]; exact rfl)) (by kernel_rfl) (by kernel_rfl) (by kernel_rfl) (by exact fun _ _ _ h => h) (Or.inl ⟨by rfl, ?_⟩) (by assumption) ?_
          rotate_left
          · (intro w hSw; (try dsimp only at hSw); first | (go_simp; done) | (go_simp; with_reducible rfl))
          try simp only [Act.put, List.setIfInBounds_toArray, List.set_cons_zero, List.set_cons_succ]
          refine wpAnyH_take (i := 32) (v := ?_) (by (simp only [List.getElem?_toArray, List.getElem?_cons_zero, List.getElem?_cons_succ]; exact rfl)) (by kernel_rfl) (by kernel_rfl) (by kernel_rfl) (by exact fun _ _ _ h => h) (Or.inl ⟨by rfl, ?_⟩) (by assumption) ?_
          rotate_left
          · (intro w hSw; (try dsimp only at hSw); first | (go_simp; done) | (go_simp; with_reducible rfl))
          try simp only [Act.put, List.setIfInBounds_toArray, List.set_cons_zero, List.set_cons_succ]
          refine wpAnyH_take (i := 33) (v := ?_) (by (simp only [List.getElem?_toArray, List.getElem?_cons_zero, List.getElem?_cons_succ]; exact rfl)) (by kernel_rfl) (by kernel_rfl) (by kernel_rfl) (by exact fun _ _ _ h => h) (Or.inl ⟨by rfl, ?_⟩) (by assumption) ?_
          rotate_left
          · (intro w hSw; (try dsimp only at hSw); first | (go_simp; done) | (go_simp; with_reducible rfl))
          try simp only [Act.put, List.setIfInBounds_toArray, List.set_cons_zero, List.set_cons_succ]
          refine wpAnyH_take (i := 34) (v := ?_) (by (simp only [List.getElem?_toArray, List.getElem?_cons_zero, List.getElem?_cons_succ]; exact rfl)) (by kernel_rfl) (by kernel_rfl) (by kernel_rfl) (by exact fun _ _ _ h => h) (Or.inl ⟨by rfl, ?_⟩) (by assumption) ?_
          rotate_left
          · (intro w hSw; (try dsimp only at hSw); first | (go_simp; done) | (go_simp; with_reducible rfl))
          try simp only [Act.put, List.setIfInBounds_toArray, List.set_cons_zero, List.set_cons_succ]
          refine wpAnyH_take (i := 35) (v := undef) (by (simp only [List.getElem?_toArray, List.getElem?_cons_zero, List.getElem?_cons_succ]; exact rfl)) (by kernel_rfl) (by kernel_rfl) (by kernel_rfl) (by exact fun _ _ _ h => h) (Or.inr ⟨by rfl, rfl⟩) (by assumption) ?_
          try simp only [Act.put, List.setIfInBounds_toArray, List.set_cons_zero, List.set_cons_succ]
          refine wpAnyH_take (i := 36) (v := undef) (by (simp only [List.getElem?_toArray, List.getElem?_cons_zero, List.getElem?_cons_succ]; exact rfl)) (by kernel_rfl) (by kernel_rfl) (by kernel_rfl) (by exact fun _ _ _ h => h) (Or.inr ⟨by rfl, rfl⟩) (by assumption) ?_
          try simp only [Act.put, List.setIfInBounds_toArray, List.set_cons_zero, List.set_cons_succ]
          refine wpAnyH_take (i := 37) (v := undef) (by (simp only [List.getElem?_toArray, List.getElem?_cons_zero, List.getElem?_cons_succ]; exact rfl)) (by kernel_rfl) (by kernel_rfl) (by kernel_rfl) (by exact fun _ _ _ h => h) (Or.inr ⟨by rfl, rfl⟩) (by assumption) ?_
          try simp only [Act.put, List.setIfInBounds_toArray, List.set_cons_zero, List.set_cons_succ]
          refine wpAnyH_take (i := 38) (v := undef) (by (simp only [List.getElem?_toArray, List.getElem?_cons_zero, List.getElem?_cons_succ]; exact rfl)) (by kernel_rfl) (by kernel_rfl) (by kernel_rfl) (by exact fun _ _ _ h => h) (Or.inr ⟨by rfl, rfl⟩) (by assumption) ?_
          try simp only [Act.put, List.setIfInBounds_toArray, List.set_cons_zero, List.set_cons_succ]
          refine wpAnyH_take (i := 39) (v := undef) (by (simp only [List.getElem?_toArray, List.getElem?_cons_zero, List.getElem?_cons_succ]; exact rfl)) (by kernel_rfl) (by kernel_rfl) (by kernel_rfl) (by exact fun _ _ _ h => h) (Or.inr ⟨by rfl, rfl⟩) (by assumption) ?_
          try simp only [Act.put, List.setIfInBounds_toArray, List.set_cons_zero, List.set_cons_succ]
          refine wpAnyH_take (i := 40) (v := undef) (by (simp only [List.getElem?_toArray, List.getElem?_cons_zero, List.getElem?_cons_succ]; exact rfl)) (by kernel_rfl) (by kernel_rfl) (by kernel_rfl) (by exact fun _ _ _ h => h) (Or.inr ⟨by rfl, rfl⟩) (by assumption) ?_
          try simp only [Act.put, List.setIfInBounds_toArray, List.set_cons_zero, List.set_cons_succ]
          refine wpAnyH_take (i := 41) (v := undef) (by (simp only [List.getElem?_toArray, List.getElem?_cons_zero, List.getElem?_cons_succ]; exact rfl)) (by kernel_rfl) (by kernel_rfl) (by kernel_rfl) (by exact fun _ _ _ h => h) (Or.inr ⟨by rfl, rfl⟩) (by assumption) ?_
          try simp only [Act.put, List.setIfInBounds_toArray, List.set_cons_zero, List.set_cons_succ]
          refine wpAnyH_take (i := 42) (v := undef) (by (simp only [List.getElem?_toArray, List.getElem?_cons_zero, List.getElem?_cons_succ]; exact rfl)) (by kernel_rfl) (by kernel_rfl) (by kernel_rfl) (by exact fun _ _ _ h => h) (Or.inr ⟨by rfl, rfl⟩) (by assumption) ?_
          try simp only [Act.put, List.setIfInBounds_toArray, List.set_cons_zero, List.set_cons_succ]
          refine wpAnyH_take (i := 43) (v := ?_) (by (simp only [List.getElem?_toArray, List.getElem?_cons_zero, List.getElem?_cons_succ]; exact rfl)) (by kernel_rfl) (by kernel_rfl) (by kernel_rfl) (by exact fun _ _ _ h => h) (Or.inl ⟨by rfl, ?_⟩) (by assumption) ?_
          rotate_left
          · (intro w hSw; (try dsimp only at hSw); first | (go_simp; done) | (go_simp; with_reducible rfl))
          try simp only [Act.put, List.setIfInBounds_toArray, List.set_cons_zero, List.set_cons_succ]
          refine wpAnyH_take (i := 44) (v := ?_) (by (simp only [List.getElem?_toArray, List.getElem?_cons_zero, List.getElem?_cons_succ]; exact rfl)) (by kernel_rfl) (by kernel_rfl) (by kernel_rfl) (by exact fun _ _ _ h => h) (Or.inl ⟨by rfl, ?_⟩) (by assumption) ?_
          rotate_left
          · (intro w hSw; (try dsimp only at hSw); first | (go_simp; done) | (go_simp; with_reducible rfl))
          try simp only [Act.put, List.setIfInBounds_toArray, List.set_cons_zero, List.set_cons_succ]
          refine wpAnyH_done (by kernel_rfl) ?_ _
          /- z36: end -/
          go_wp2_with fail
          go_meet
          exact ⟨rfl, FE.out _ HB3⟩
        · obtain rfl : ok = true := by rw [← hok]; exact decide_eq_true (by omega)
          have z0 : (0 : Int) < (n2 : Int) := by omega
          have z3 : 0 < n2 := by omega
          have z1 : decide ((0 : Int) < (n2 : Int)) = true := decide_eq_true z0
          have z2 : decide (0 < n2) = true := decide_eq_true (by omega)
          have e3 : gt L1 0 = y := by rw [← hy, (pop_some (l := L1) (by omega)).2.1]
          have NE := fun W => neq_it W y y true (decide_eq_true rfl)
          obtain ⟨a2, rfl, -⟩ := R7.o.holds.at (i := 0) (by omega)
          have SS : Hid (∀ w', Below w11.heap.size w11 w' → w'.cell? ⟨M, 0, none⟩ = some (.slice (some a2) n2 c2) ∧ (w'.cell? ⟨bk, 0, none⟩ = some (.int .u64 (y.id : Nat)) ∧ w'.cell? ⟨bk, 1, none⟩ = some (.int .u64 (y.seq : Nat)) ∧ w'.cell? ⟨bk, 2, none⟩ = some (.int .i64 y.t)) ∧ (w'.cell? a2 = some (.int .u64 (y.id : Nat)) ∧ w'.cell? ⟨a2.block, a2.off + 1, none⟩ = some (.int .u64 (y.seq : Nat)) ∧ w'.cell? ⟨a2.block, a2.off + 2, none⟩ = some (.int .i64 y.t))) := fun w' b => by
            have bb := (b.block bk (Array.getElem?_eq_some_iff.1 B7).1).trans B7
            obtain ⟨a3, e4, y0, y1, y2⟩ := (R7.below b).o.holds.at (i := 0) (by omega)
            injection e4 with e4
            subst e4
            rw [e3, Nat.zero_mul, addr_zero] at y0 y1 y2
            exact ⟨M0.out w' b, ⟨blk_cell bb, blk_cell bb, blk_cell bb⟩, y0, y1, y2⟩
          clear T10 B7 R7 hn2 hy hok KC z e3 M0
          as_aux_lemma =>
          go_wp2_with fail
          /- m36: begin -/
          refine wp_region_held_drew (S := fun w' => w'.cell? ⟨M, 0, none⟩ = some (.slice (some a2) n2 c2) ∧ (w'.cell? ⟨bk, 0, none⟩ = some (.int .u64 (y.id : Nat)) ∧ w'.cell? ⟨bk, 1, none⟩ = some (.int .u64 (y.seq : Nat)) ∧ w'.cell? ⟨bk, 2, none⟩ = some (.int .i64 y.t)) ∧ (w'.cell? a2 = some (.int .u64 (y.id : Nat)) ∧ w'.cell? ⟨a2.block, a2.off + 1, none⟩ = some (.int .u64 (y.seq : Nat)) ∧ w'.cell? ⟨a2.block, a2.off + 2, none⟩ = some (.int .i64 y.t))) (by kernel_rfl) (SS.out _ HB0) (fun hHeld => ?_)
          refine wpAnyH_take (i := 0) (v := ?_) (by (simp only [List.getElem?_toArray, List.getElem?_cons_zero]; exact rfl)) (by kernel_rfl) (by kernel_rfl) (by kernel_rfl) (by exact fun _ _ _ h => h) (Or.inl ⟨by rfl, ?_⟩) (by assumption) ?_
          rotate_left
          · (intro w hSw; (try dsimp only at hSw); first | (go_simp; done) | (go_simp; with_reducible rfl))
          try simp only [Act.put, List.setIfInBounds_toArray, List.set_cons_zero, List.set_cons_succ]
          refine wpAnyH_take (i := 1) (v := ?_) (by (simp only [List.getElem?_toArray, List.getElem?_cons_zero, List.getElem?_cons_succ]; exact rfl)) (by kernel_rfl) (by kernel_rfl) (by kernel_rfl) (by exact fun _ _ _ h => h) (Or.inl ⟨by rfl, ?_⟩) (by assumption) ?_
          rotate_left
          · (intro w hSw; (try dsimp only at hSw); first | (go_simp; done) | (go_simp; with_reducible rfl))
          try simp only [Act.put, List.setIfInBounds_toArray, List.set_cons_zero, List.set_cons_succ]
          refine wpAnyH_take (i := 2) (v := ?_) (by (simp only [List.getElem?_toArray, List.getElem?_cons_zero, List.getElem?_cons_succ]; exact rfl)) (by kernel_rfl) (by kernel_rfl) (by kernel_rfl) (by exact fun _ _ _ h => h) (Or.inl ⟨by rfl, ?_⟩) (by assumption) ?_
          rotate_left
          · (intro w hSw; (try dsimp only at hSw); first | (go_simp; done) | (go_simp; with_reducible rfl))
          try simp only [Act.put, List.setIfInBounds_toArray, List.set_cons_zero, List.set_cons_succ]
          refine wpAnyH_take (i := 3) (v := ?_) (by (simp only [List.getElem?_toArray, List.getElem?_cons_zero, List.getElem?_cons_succ]; exact rfl)) (by kernel_rfl) (by kernel_rfl) (by kernel_rfl) (by exact fun _ _ _ h => h) (Or.inl ⟨by rfl, ?_⟩) (by assumption) ?_
          rotate_left
          · (intro w hSw; (try dsimp only at hSw); first | (go_simp; done) | (go_simp; with_reducible rfl))
          try simp only [Act.put, List.setIfInBounds_toArray, List.set_cons_zero, List.set_cons_succ]
          refine wpAnyH_take (i := 5) (v := ?_) (by (simp only [List.getElem?_toArray, List.getElem?_cons_zero, List.getElem?_cons_succ]; exact rfl)) (by kernel_rfl) (by kernel_rfl) (by kernel_rfl) (by exact fun _ _ _ h => h) (Or.inl ⟨by rfl, ?_⟩) (by assumption) ?_
          rotate_left
          · (intro w hSw; (try dsimp only at hSw); first | (go_simp; done) | (go_simp; with_reducible rfl))
          try simp only [Act.put, List.setIfInBounds_toArray, List.set_cons_zero, List.set_cons_succ]
          refine wpAnyH_take (i := 6) (v := ?_) (by (simp only [List.getElem?_toArray, List.getElem?_cons_zero, List.getElem?_cons_succ]; exact rfl)) (by kernel_rfl) (by kernel_rfl) (by kernel_rfl) (by exact fun _ _ _ h => h) (Or.inl ⟨by rfl, ?_⟩) (by assumption) ?_
          rotate_left
          · (intro w hSw; (try dsimp only at hSw); first | (go_simp; done) | (go_simp; with_reducible rfl))
          try simp only [Act.put, List.setIfInBounds_toArray, List.set_cons_zero, List.set_cons_succ]
          refine wpAnyH_take (i := 7) (v := ?_) (by (simp only [List.getElem?_toArray, List.getElem?_cons_zero, List.getElem?_cons_succ]; exact rfl)) (by kernel_rfl) (by kernel_rfl) (by kernel_rfl) (by exact fun _ _ _ h => h) (Or.inl ⟨by rfl, ?_⟩) (by assumption) ?_
          rotate_left
          · (intro w hSw; (try dsimp only at hSw); first | (go_simp; done) | (go_simp; with_reducible rfl))
          try simp only [Act.put, List.setIfInBounds_toArray, List.set_cons_zero, List.set_cons_succ]
          refine wpAnyH_take (i := 8) (v := ?_) (by (simp only [List.getElem?_toArray, List.getElem?_cons_zero, List.getElem?_cons_succ]; exact rfl)) (by kernel_rfl) (by kernel_rfl) (by kernel_rfl) (by exact fun _ _ _ h => h) (Or.inl ⟨by rfl, ?_⟩) (by assumption) ?_
          rotate_left
          · (intro w hSw; (try dsimp only at hSw); first | (go_simp; done) | (go_simp; with_reducible rfl))
          try simp only [Act.put, List.setIfInBounds_toArray, List.set_cons_zero, List.set_cons_succ]
          refine wpAnyH_take (i := 9) (v := ?_) (by (simp only [List.getElem?_toArray, List.getElem?_cons_zero, List.getElem?_cons_succ]; exact rfl)) (by kernel_rfl) (by kernel_rfl) (by kernel_rfl) (by exact fun _ _ _ h => h) (Or.inl ⟨by rfl, ?_⟩) (by assumption) ?_
          rotate_left
          · (intro w hSw; (try dsimp only at hSw); first | (go_simp; done) | (go_simp; with_reducible rfl))
          try simp only [Act.put, List.setIfInBounds_toArray, List.set_cons_zero, List.set_cons_succ]
          refine wpAnyH_ready (rs := [4]) (by kernel_rfl) (by simp) ?_
          refine AllReadyH.cons (by (simp only [List.getElem?_toArray, List.getElem?_cons_zero, List.getElem?_cons_succ]; exact rfl)) (fun K hK => ?_) AllReadyH.nil
          go_simp
          (go_at_call 13; refine (A1.out _ HB0).mono ?_; rintro e w12 ⟨rfl, HB1⟩)
          go_wp2_with fail
          refine hK.out _ _ (SS.out _ HB1) (fun hHeld => ?_)
          clear hK K
          try simp only [Act.put, List.setIfInBounds_toArray, List.set_cons_zero, List.set_cons_succ]
          refine wpAnyH_take (i := 10) (v := ?_) (by (simp only [List.getElem?_toArray, List.getElem?_cons_zero, List.getElem?_cons_succ]; exact rfl)) (by kernel_rfl) (by kernel_rfl) (by kernel_rfl) (by exact fun _ _ _ h => h) (Or.inl ⟨by rfl, ?_⟩) (by assumption) ?_
          rotate_left
          · (intro w hSw; (try dsimp only at hSw); first | (go_simp; done) | (go_simp; with_reducible rfl))
          try simp only [Act.put, List.setIfInBounds_toArray, List.set_cons_zero, List.set_cons_succ]
          refine wpAnyH_take (i := 11) (v := ?_) (by (simp only [List.getElem?_toArray, List.getElem?_cons_zero, List.getElem?_cons_succ]; exact rfl)) (by kernel_rfl) (by kernel_rfl) (by kernel_rfl) (by exact fun _ _ _ h => h) (Or.inl ⟨by rfl, ?_⟩) (by assumption) ?_
          rotate_left
          · (intro w hSw; (try dsimp only at hSw); first | (go_simp; done) | (go_simp; with_reducible rfl))
          try simp only [Act.put, List.setIfInBounds_toArray, List.set_cons_zero, List.set_cons_succ]
          refine wpAnyH_take (i := 12) (v := ?_) (by (simp only [List.getElem?_toArray, List.getElem?_cons_zero, List.getElem?_cons_succ]; exact rfl)) (by kernel_rfl) (by kernel_rfl) (by kernel_rfl) (by exact fun _ _ _ h => h) (Or.inl ⟨by rfl, ?_⟩) (by assumption) ?_
          rotate_left
          · (intro w hSw; (try dsimp only at hSw); first | (go_simp; done) | (go_simp; with_reducible rfl))
          try simp only [Act.put, List.setIfInBounds_toArray, List.set_cons_zero, List.set_cons_succ]
          refine wpAnyH_take (i := 13) (v := ?_) (by (simp only [List.getElem?_toArray, List.getElem?_cons_zero, List.getElem?_cons_succ]; exact rfl)) (by kernel_rfl) (by kernel_rfl) (by kernel_rfl) (by exact fun _ _ _ h => h) (Or.inl ⟨by rfl, ?_⟩) (by assumption) ?_
          rotate_left
          · (intro w hSw; (try dsimp only at hSw); first | (go_simp; done) | (go_simp; with_reducible rfl))
          try simp only [Act.put, List.setIfInBounds_toArray, List.set_cons_zero, List.set_cons_succ]
          refine wpAnyH_take (i := 15) (v := ?_) (by (simp only [List.getElem?_toArray, List.getElem?_cons_zero, List.getElem?_cons_succ]; exact rfl)) (by kernel_rfl) (by kernel_rfl) (by kernel_rfl) (by exact fun _ _ _ h => h) (Or.inl ⟨by rfl, ?_⟩) (by assumption) ?_
          rotate_left
          · (intro w hSw; (try dsimp only at hSw); first | (go_simp; done) | (go_simp; with_reducible rfl))
          try simp only [Act.put, List.setIfInBounds_toArray, List.set_cons_zero, List.set_cons_succ]
          refine wpAnyH_take (i := 16) (v := ?_) (by (simp only [List.getElem?_toArray, List.getElem?_cons_zero, List.getElem?_cons_succ]; exact rfl)) (by kernel_rfl) (by kernel_rfl) (by kernel_rfl) (by exact fun _ _ _ h => h) (Or.inl ⟨by rfl, ?_⟩) (by assumption) ?_
          rotate_left
          · (intro w hSw; (try dsimp only at hSw); first | (go_simp; done) | (go_simp; with_reducible rfl))
          try simp only [Act.put, List.setIfInBounds_toArray, List.set_cons_zero, List.set_cons_succ]
          refine wpAnyH_take (i := 17) (v := ?_) (by (simp only [List.getElem?_toArray, List.getElem?_cons_zero, List.getElem?_cons_succ]; exact rfl)) (by kernel_rfl) (by kernel_rfl) (by kernel_rfl) (by exact fun _ _ _ h => h) (Or.inl ⟨by rfl, ?_⟩) (by assumption) ?_
          rotate_left
          · (intro w hSw; (try dsimp only at hSw); first | (go_simp; done) | (go_simp; with_reducible rfl))
          try simp only [Act.put, List.setIfInBounds_toArray, List.set_cons_zero, List.set_cons_succ]
          refine wpAnyH_take (i := 18) (v := ?_) (by (simp only [List.getElem?_toArray, List.getElem?_cons_zero, List.getElem?_cons_succ]; exact rfl)) (by kernel_rfl) (by kernel_rfl) (by kernel_rfl) (by exact fun _ _ _ h => h) (Or.inl ⟨by rfl, ?_⟩) (by assumption) ?_
          rotate_left
          · (intro w hSw; (try dsimp only at hSw); first | (go_simp; done) | (go_simp; with_reducible rfl))
          try simp only [Act.put, List.setIfInBounds_toArray, List.set_cons_zero, List.set_cons_succ]
          refine wpAnyH_ready (rs := [14]) (by kernel_rfl) (by simp) ?_
          refine AllReadyH.cons (by (simp only [List.getElem?_toArray, List.getElem?_cons_zero, List.getElem?_cons_succ]; exact rfl)) (fun K hK => ?_) AllReadyH.nil
          go_simp
          (go_at_call 26; refine (A2.out _ HB1).mono ?_; rintro e w13 ⟨p3, c3, rfl, RW, HB2⟩)
          go_wp2_with fail
          refine hK.out _ _ (SS.out _ HB2) (fun hHeld => ?_)
          clear hK K
          try simp only [Act.put, List.setIfInBounds_toArray, List.set_cons_zero, List.set_cons_succ]
          refine wpAnyH_ready (rs := [19]) (by kernel_rfl) (by simp) ?_
          refine AllReadyH.cons (by (simp only [List.getElem?_toArray, List.getElem?_cons_zero, List.getElem?_cons_succ]; exact rfl)) (fun K hK => ?_) AllReadyH.nil
          go_simp
          (go_at_call 25; refine (A3.out _ _ _ RW HB2).mono ?_; rintro e w14 ⟨rfl, HB3⟩)
          go_wp2_with fail
          refine hK.out _ _ (SS.out _ HB3) (fun hHeld => ?_)
          clear hK K
          try simp only [Act.put, List.setIfInBounds_toArray, List.set_cons_zero, List.set_cons_succ]
          refine wpAnyH_take (i := 20) (v := ?_) (by (simp only [List.getElem?_toArray, List.getElem?_cons_zero, List.getElem?_cons_succ]; exact rfl)) (by kernel_rfl) (by kernel_rfl) (by kernel_rfl) (by exact fun _ _ _ h => h) (Or.inl ⟨by rfl, ?_⟩) (by assumption) ?_
          rotate_left
          · (intro w hSw; (try dsimp only at hSw); first | (go_simp; done) | (go_simp; with_reducible rfl))
          try simp only [Act.put, List.setIfInBounds_toArray, List.set_cons_zero, List.set_cons_succ]
          refine wpAnyH_take (i := 21) (v := ?_) (by (simp only [List.getElem?_toArray, List.getElem?_cons_zero, List.getElem?_cons_succ]; exact rfl)) (by kernel_rfl) (by kernel_rfl) (by kernel_rfl) (by exact fun _ _ _ h => h) (Or.inl ⟨by rfl, ?_⟩) (by assumption) ?_
          rotate_left
          · (intro w hSw; (try dsimp only at hSw); first | (go_simp; done) | (go_simp; with_reducible rfl))
          try simp only [Act.put, List.setIfInBounds_toArray, List.set_cons_zero, List.set_cons_succ]
          refine wpAnyH_take (i := 22) (v := ?_) (by (simp only [List.getElem?_toArray, List.getElem?_cons_zero, List.getElem?_cons_succ]; exact rfl)) (by kernel_rfl) (by kernel_rfl) (by kernel_rfl) (by exact fun _ _ _ h => h) (Or.inl ⟨by rfl, ?_⟩) (by assumption) ?_
          rotate_left
          · (intro w hSw; (try dsimp only at hSw); first | (go_simp; done) | (go_simp; with_reducible rfl))
          try simp only [Act.put, List.setIfInBounds_toArray, List.set_cons_zero, List.set_cons_succ]
          refine wpAnyH_take (i := 23) (v := ?_) (by (simp only [List.getElem?_toArray, List.getElem?_cons_zero, List.getElem?_cons_succ]; exact rfl)) (by kernel_rfl) (by kernel_rfl) (by kernel_rfl) (by exact fun _ _ _ h => h) (Or.inl ⟨by rfl, ?_⟩) (by assumption) ?_
          rotate_left
          · (intro w hSw; (try dsimp only at hSw); first | (go_simp; done) | (go_simp; with_reducible rfl))
          try simp only [Act.put, List.setIfInBounds_toArray, List.set_cons_zero, List.set_cons_succ]
          refine wpAnyH_take (i := 24) (v := ?_) (by (simp only [List.getElem?_toArray, List.getElem?_cons_zero, List.getElem?_cons_succ]; exact rfl)) (by kernel_rfl) (by kernel_rfl) (by kernel_rfl) (by exact fun _ _ _ h => h) (Or.inl ⟨by rfl, ?_⟩) (by assumption) ?_
          rotate_left
          · (intro w hSw; (try dsimp only at hSw); first | (go_simp; done) | (go_simp; with_reducible rfl))
          try simp only [Act.put, List.setIfInBounds_toArray, List.set_cons_zero, List.set_cons_succ]
          refine wpAnyH_take (i := 25) (v := ?_) (by (simp only [List.getElem?_toArray, List.getElem?_cons_zero, List.getElem?_cons_succ]; exact rfl)) (by kernel_rfl) (by kernel_rfl) (by kernel_rfl) (by exact fun _ _ _ h => h) (Or.inl ⟨by rfl, ?_⟩) (by assumption) ?_
          rotate_left
          · (intro w hSw; (try dsimp only at hSw); first | (go_simp; done) | (go_simp; with_reducible rfl))
          try simp only [Act.put, List.setIfInBounds_toArray, List.set_cons_zero, List.set_cons_succ]
          refine wpAnyH_take (i := 26) (v := ?_) (by (simp only [List.getElem?_toArray, List.getElem?_cons_zero, List.getElem?_cons_succ]; exact rfl)) (by kernel_rfl) (by kernel_rfl) (by kernel_rfl) (by exact fun _ _ _ h => h) (Or.inl ⟨by rfl, ?_⟩) (by assumption) ?_
          rotate_left
          · (intro w hSw; (try dsimp only at hSw); first | (go_simp; done) | (go_simp; with_reducible rfl))
          try simp only [Act.put, List.setIfInBounds_toArray, List.set_cons_zero, List.set_cons_succ]
          refine wpAnyH_take (i := 27) (v := ?_) (by (simp only [List.getElem?_toArray, List.getElem?_cons_zero, List.getElem?_cons_succ]; exact rfl)) (by kernel_rfl) (by kernel_rfl) (by kernel_rfl) (by exact fun _ _ _ h => h) (Or.inl ⟨by rfl, ?_⟩) (by assumption) ?_
          rotate_left
          · (intro w hSw; (try dsimp only at hSw); first | (go_simp; done) | (go_simp; with_reducible rfl))
          try simp only [Act.put, List.setIfInBounds_toArray, List.set_cons_zero, List.set_cons_succ]
          refine wpAnyH_take (i := 28) (v := ?_) (by (simp only [List.getElem?_toArray, List.getElem?_cons_zero, List.getElem?_cons_succ]; exact rfl)) (by kernel_rfl) (by kernel_rfl) (by kernel_rfl) (by exact fun _ _ _ h => h) (Or.inl ⟨by rfl, ?_⟩) (by assumption) ?_
          rotate_left
          · (intro w hSw; (try dsimp only at hSw); first | (go_simp; done) | (go_simp; with_reducible rfl))
          try simp only [Act.put, List.setIfInBounds_toArray, List.set_cons_zero, List.set_cons_succ]
          refine wpAnyH_take (i := 29) (v := ?_) (by (simp only [List.getElem?_toArray, List.getElem?_cons_zero, List.getElem?_cons_succ]; exact rfl)) (by kernel_rfl) (by kernel_rfl) (by kernel_rfl) (by exact fun _ _ _ h => h) (Or.inl ⟨by rfl, ?_⟩) (by assumption) ?_
          rotate_left
          · (intro w hSw; (try dsimp only at hSw); first | (go_simp; done) | (go_simp; with_reducible rfl))
          try simp only [Act.put, List.setIfInBounds_toArray, List.set_cons_zero, List.set_cons_succ]
          refine wpAnyH_take (i := 30) (v := ?_) (by (simp only [List.getElem?_toArray, List.getElem?_cons_zero, List.getElem?_cons_succ]; exact rfl)) (by kernel_rfl) (by kernel_rfl) (by kernel_rfl) (by exact fun _ _ _ h => h) (Or.inl ⟨by rfl, ?_⟩) (by assumption) ?_
          rotate_left
          · (intro w hSw; (try dsimp only at hSw); first | (go_simp; done) | (go_simp; with_reducible rfl))
          try simp only [Act.put, List.setIfInBounds_toArray, List.set_cons_zero, List.set_cons_succ]
          refine wpAnyH_take (i := 31) (v := ?_) (by (simp only [List.getElem?_toArray, List.getElem?_cons_zero, List.getElem?_cons_succ]; exact rfl)) (by kernel_rfl) (by kernel_rfl) (by kernel_rfl) (by exact fun _ _ _ h => h) (Or.inl ⟨by rfl, ?_⟩) (by assumption) ?_
          rotate_left
          · (intro w hSw; (try dsimp only at hSw); first | (go_simp; done) | (go_simp; with_reducible rfl))
          try simp only [Act.put, List.setIfInBounds_toArray, List.set_cons_zero, List.set_cons_succ]
          refine wpAnyH_take (i := 32) (v := ?_) (by (simp only [List.getElem?_toArray, List.getElem?_cons_zero, List.getElem?_cons_succ]; exact rfl)) (by kernel_rfl) (by kernel_rfl) (by kernel_rfl) (by exact fun _ _ _ h => h) (Or.inl ⟨by rfl, ?_⟩) (by assumption) ?_
          rotate_left
          · (intro w hSw; (try dsimp only at hSw); first | (go_simp; done) | (go_simp; with_reducible rfl))
          try simp only [Act.put, List.setIfInBounds_toArray, List.set_cons_zero, List.set_cons_succ]
          refine wpAnyH_take (i := 33) (v := ?_) (by (simp only [List.getElem?_toArray, List.getElem?_cons_zero, List.getElem?_cons_succ]; exact rfl)) (by kernel_rfl) (by kernel_rfl) (by kernel_rfl) (by exact fun _ _ _ h => h) (Or.inl ⟨by rfl, ?_⟩) (by assumption) ?_
          rotate_left
          · (intro w hSw; (try dsimp only at hSw); first | (go_simp; done) | (go_simp; with_reducible rfl))
          try simp only [Act.put, List.setIfInBounds_toArray, List.set_cons_zero, List.set_cons_succ]
          refine wpAnyH_take (i := 34) (v := ?_) (by (simp only [List.getElem?_toArray, List.getElem?_cons_zero, List.getElem?_cons_succ]; exact rfl)) (by kernel_rfl) (by kernel_rfl) (by kernel_rfl) (by exact fun _ _ _ h => h) (Or.inl ⟨by rfl, ?_⟩) (by assumption) ?_
          rotate_left
          · (intro w hSw; (try dsimp only at hSw); first | (go_simp; done) | (go_simp; with_reducible rfl))
          try simp only [Act.put, List.setIfInBounds_toArray, List.set_cons_zero, List.set_cons_succ]
          refine wpAnyH_take (i := 35) (v := ?_) (by (simp only [List.getElem?_toArray, List.getElem?_cons_zero, List.getElem?_cons_succ]; exact rfl)) (by kernel_rfl) (by kernel_rfl) (by kernel_rfl) (by exact fun _ _ _ h => h) (Or.inl ⟨by rfl, ?_⟩) (by assumption) ?_
          rotate_left
          · (intro w hSw; (try dsimp only at hSw); first | (go_simp; done) | (go_simp; with_reducible rfl))
          try simp only [Act.put, List.setIfInBounds_toArray, List.set_cons_zero, List.set_cons_succ]
          refine wpAnyH_take (i := 36) (v := ?_) (by (simp only [List.getElem?_toArray, List.getElem?_cons_zero, List.getElem?_cons_succ]; exact rfl)) (by kernel_rfl) (by kernel_rfl) (by kernel_rfl) (by exact fun _ _ _ h => h) (Or.inl ⟨by rfl, ?_⟩) (by assumption) ?_
          rotate_left
          · (intro w hSw; (try dsimp only at hSw); first | (go_simp; done) | (go_simp; with_reducible rfl))
          try simp only [Act.put, List.setIfInBounds_toArray, List.set_cons_zero, List.set_cons_succ]
          refine wpAnyH_take (i := 37) (v := ?_) (by (simp only [List.getElem?_toArray, List.getElem?_cons_zero, List.getElem?_cons_succ]; exact rfl)) (by kernel_rfl) (by kernel_rfl) (by kernel_rfl) (by exact fun _ _ _ h => h) (Or.inl ⟨by rfl, ?_⟩) (by assumption) ?_
          rotate_left
          · (intro w hSw; (try dsimp only at hSw); first | (go_simp; done) | (go_simp; with_reducible rfl))
          try simp only [Act.put, List.setIfInBounds_toArray, List.set_cons_zero, List.set_cons_succ]
          refine wpAnyH_take (i := 38) (v := ?_) (by (simp only [List.getElem?_toArray, List.getElem?_cons_zero, List.getElem?_cons_succ]; exact rfl)) (by kernel_rfl) (by kernel_rfl) (by kernel_rfl) (by exact fun _ _ _ h => h) (Or.inl ⟨by rfl, ?_⟩) (by assumption) ?_
          rotate_left
          · (intro w hSw; (try dsimp only at hSw); first | (go_simp; done) | (go_simp; with_reducible rfl))
          try simp only [Act.put, List.setIfInBounds_toArray, List.set_cons_zero, List.set_cons_succ]
          refine wpAnyH_take (i := 39) (v := ?_) (by (simp only [List.getElem?_toArray, List.getElem?_cons_zero, List.getElem?_cons_succ]; exact rfl)) (by kernel_rfl) (by kernel_rfl) (by kernel_rfl) (by exact fun _ _ _ h => h) (Or.inl ⟨by rfl, ?_⟩) (by assumption) ?_
          rotate_left
          · (intro w hSw; (try dsimp only at hSw); first | (go_simp; done) | (go_simp; with_reducible rfl))
          try simp only [Act.put, List.setIfInBounds_toArray, List.set_cons_zero, List.set_cons_succ]
          refine wpAnyH_take (i := 40) (v := ?_) (by (simp only [List.getElem?_toArray, List.getElem?_cons_zero, List.getElem?_cons_succ]; exact rfl)) (by kernel_rfl) (by kernel_rfl) (by kernel_rfl) (by exact fun _ _ _ h => h) (Or.inl ⟨by rfl, ?_⟩) (by assumption) ?_
          rotate_left
          · (intro w hSw; (try dsimp only at hSw); first | (go_simp; done) | (go_simp; with_reducible rfl))
          try simp only [Act.put, List.setIfInBounds_toArray, List.set_cons_zero, List.set_cons_succ]
          refine wpAnyH_take (i := 41) (v := ?_) (by (simp only [List.getElem?_toArray, List.getElem?_cons_zero, List.getElem?_cons_succ]; exact rfl)) (by kernel_rfl) (by kernel_rfl) (by kernel_rfl) (by exact fun _ _ _ h => h) (Or.inl ⟨by rfl, ?_⟩) (by assumption) ?_
          rotate_left
          · (intro w hSw; (try dsimp only at hSw); first | (go_simp; done) | (go_simp; with_reducible rfl))
          try simp only [Act.put, List.setIfInBounds_toArray, List.set_cons_zero, List.set_cons_succ]
          refine wpAnyH_take (i := 42) (v := ?_) (by (simp only [List.getElem?_toArray, List.getElem?_cons_zero, List.getElem?_cons_succ]; exact rfl)) (by kernel_rfl) (by kernel_rfl) (by kernel_rfl) (by exact fun _ _ _ h => h) (Or.inl ⟨by rfl, ?_⟩) (by assumption) ?_
          rotate_left
          · (intro w hSw; (try dsimp only at hSw); first | (go_simp; done) | (go_simp; with_reducible rfl))
          try simp only [Act.put, List.setIfInBounds_toArray, List.set_cons_zero, List.set_cons_succ]
          refine wpAnyH_take (i := 43) (v := ?_) (by (simp only [List.getElem?_toArray, List.getElem?_cons_zero, List.getElem?_cons_succ]; exact rfl)) (by kernel_rfl) (by kernel_rfl) (by kernel_rfl) (by exact fun _ _ _ h => h) (Or.inl ⟨by rfl, ?_⟩) (by assumption) ?_
          rotate_left
          · (intro w hSw; (try dsimp only at hSw); first | (go_simp; done) | (go_simp; with_reducible rfl))
          try simp only [Act.put, List.setIfInBounds_toArray, List.set_cons_zero, List.set_cons_succ]
          refine wpAnyH_take (i := 44) (v := ?_) (by (simp only [List.getElem?_toArray, List.getElem?_cons_zero, List.getElem?_cons_succ]; exact rfl)) (by kernel_rfl) (by kernel_rfl) (by kernel_rfl) (by exact fun _ _ _ h => h) (Or.inl ⟨by rfl, ?_⟩) (by assumption) ?_
          rotate_left
          · (intro w hSw; (try dsimp only at hSw); first | (go_simp; done) | (go_simp; with_reducible rfl))
          try simp only [Act.put, List.setIfInBounds_toArray, List.set_cons_zero, List.set_cons_succ]
          refine wpAnyH_done (by kernel_rfl) ?_ _
          /- m36: end -/
          go_wp2_with fail
          go_meet
          exact ⟨rfl, FE.out _ HB3⟩
      case rest =>
      obtain ⟨rfl, T11⟩ := hcut
      clear T10 hy hok KC
      as_aux_lemma =>
      have TS := Lib.hid (Side.start T11.out (Below.refl _ _))
      clear T11
      go_wp2
      go_roundw
      case rel => exact ⟨N2, q + 1, L1, rfl, by go_num, NB.out, TS.out⟩
      case measure => simp [intOf]; omega
  · have NW := Lib.hid (C.new_no w s hs g)
    have NR := Lib.hid (fun w6 => rnew13_no w6 s g)
    have AW := Lib.hid (awake13_any C)
    have PN : Hid (∀ w6, Calls Try.prog 12 #[.pointer none, .agg #[.int .u64 0, .int .u64 0, .int .i64 0]] w6 fun e w' => e = .returned (.int .i64 2) ∧ Below w6.heap.size w6 w') := fun w6 => C.push_none w6 zeroI
    have LN := Lib.hid C.len_none
    clear hp hl hs g
    go_enter Try.func3, Try.ntmps3
    go_wp2_with fail
    refine NW.out.mono ?_; rintro e w6 ⟨rfl, b6⟩
    go_wp2_with fail
    refine (NR.out w6).mono ?_; rintro e w7 ⟨rfl, rfl⟩
    go_wp2_with fail
    refine (AW.out w6).mono ?_; rintro e w8 ⟨rfl, b8⟩
    have L8 := Lib.hid (b6.trans (b8.mono b6.size))
    clear b6 b8 NW NR AW
    go_wp2_with fail
    refine (PN.out w8).mono ?_; rintro e w9 ⟨rfl, b9⟩
    have L9 := Lib.hid (L8.out.trans (b9.mono L8.out.size))
    clear b9 L8 PN
    go_wp2_with fail
    refine (LN.out w9).mono ?_; rintro e wx ⟨rfl, bx⟩
    have LX := Lib.hid (L9.out.trans (bx.mono L9.out.size))
    clear bx L9 LN
    go_wp2
    go_ret
    exact ⟨rfl, LX.out⟩
end Go.Proofs.Ytlfbenlojiiknaa
