/- Layer 13 (heap), the program's own: an item goes up. -/
import Derived.Test.YtbfmmeapjfljbaaHpD
set_option maxRecDepth 100000
namespace Go.Proofs.Ytbfmmeapjfljbaa
open Go.ChangeShapes Go.WideShapes Go.ChangeAt Go.RowKit Go.Maps HeapM

/-- The cells of two items, and the heap's own pointer to its row. -/
def PpC (N n c : Nat) (a : Addr) (k q : Nat) (x y : It) (w : World) : Prop :=
  w.cell? ⟨N, 1, none⟩ = some (.slice (some a) n c) ∧ w.cell? (a.add (k * 3)) = some (.int .u64 (x.id : Nat)) ∧ w.cell? ⟨(a.add (k * 3)).block, (a.add (k * 3)).off + 1, none⟩ = some (.int .u64 (x.seq : Nat)) ∧ w.cell? ⟨(a.add (k * 3)).block, (a.add (k * 3)).off + 2, none⟩ = some (.int .i64 x.t) ∧
  w.cell? (a.add (q * 3)) = some (.int .u64 (y.id : Nat)) ∧ w.cell? ⟨(a.add (q * 3)).block, (a.add (q * 3)).off + 1, none⟩ = some (.int .u64 (y.seq : Nat)) ∧ w.cell? ⟨(a.add (q * 3)).block, (a.add (q * 3)).off + 2, none⟩ = some (.int .i64 y.t)
theorem PHp.two {w : World} {N b c sz : Nat} {a : Addr} {l : List It} (h : PHp w N b (some a) c sz l) {k q : Nat} (hk : k < l.length) (hq : q < l.length) : PpC N l.length c a k q (gt l k) (gt l q) w := by
  have x := own_at h.o hk
  have y := own_at h.o hq
  exact ⟨h.c1, x.1, x.2.1, x.2.2, y.1, y.2.1, y.2.2⟩

/-- While an item goes up. -/
structure PUpS (w wr : World) (N b c sz : Nat) (a : Addr) (B : Nat) (l : List It) (k : Nat) (l' : List It) (k' : Nat) : Prop where
  q : PQ w N b (some a) c sz l' wr
  bx : ExB wr B N
  far : ¬ HF N b (some a) B
  len : l'.length = l.length
  kl : k' < l.length
  res : upL l' k' = upL l k
  st : (k' = k ∧ l' = l) ∨ (k' < k ∧ upB l k = true)
theorem PQ.below {w w1 w2 : World} {N b c sz : Nat} {p : Option Addr} {l : List It} (h : PQ w N b p c sz l w1) (k : Below w1.heap.size w1 w2) : PQ w N b p c sz l w2 := ⟨h.1.below k, h.2.trans (FT.of_below k) fun _ hM => .inl hM⟩
theorem PQ.next {w w1 w2 : World} {N b c sz : Nat} {p : Option Addr} {l m : List It} (h : PQ w N b p c sz l w1) (k : PQ w1 N b p c sz m w2) : PQ w N b p c sz m w2 := ⟨k.1, h.2.same k.2⟩
theorem ExB.below {w w' : World} {B N : Nat} (h : ExB w B N) (k : Below w.heap.size w w') : ExB w' B N := (k.block B (Array.getElem?_eq_some_iff.1 h).1).trans h
theorem upB_at {l : List It} {k : Nat} (h0 : 0 < k) : upB l k = ahd (gt l k) (gt l (par k)) := by unfold upB; rw [decide_eq_true h0, Bool.true_and]
theorem upB_zero (l : List It) : upB l 0 = false := rfl

set_option maxHeartbeats 4000000 in
theorem pup13 (w : World) (N b c sz : Nat) (a : Addr) (l : List It) (k : Nat) (h : PHp w N b (some a) c sz l) (hk : k < l.length) :
    Calls Try.prog 23 #[.pointer (some ⟨N, 0, none⟩), .int .i64 (k : Nat)] w fun e w' => e = .returned (.bool (upB l k)) ∧ PQ w N b (some a) c sz (upL l k) w' := by
  have HH := Lib.hid h
  have LT := Lib.hid h.lt
  obtain ⟨n, hn⟩ : ∃ n, l.length = n := ⟨_, rfl⟩
  have fit := h.fit
  have HN := Lib.hid hn
  rw [hn] at fit
  have nb : (n : Int) ≤ 1048576 := by omega
  have AH := Lib.hid pahead13_any
  have HK := Lib.hid hk
  have kn : (k : Int) < (n : Int) := by omega
  clear h hk hn fit
  go_enter Try.func23, Try.ntmps23
  go_wp2_with fail
  refine (pexchange13 w N).mono ?_; rintro e w1 ⟨B, rfl, hB, lB, l1⟩
  have I0 : Hid (PUpS w w1 N b c sz a B l k l k) := ⟨⟨HH.out.below l1, FT.of_below l1⟩, hB, fun f => absurd (LT.out B f) (by omega), rfl, HK.out, rfl, .inl ⟨rfl, rfl⟩⟩
  clear hB lB l1 LT
  unfold ExF
  go_wp2_with fail
  go_loopw [6] (fun kk wr => ∃ (k' : Nat) (l' : List It), kk = .int .i64 (k' : Nat) ∧ Hid (PUpS w wr N b c sz a B l k l' k')) (fun kk _ => (intOf kk).toNat)
  case atStart => exact ⟨k, l, rfl, I0.out⟩
  case round =>
    clear I0
    obtain ⟨j, l', rfl, I⟩ := hrel
    have j0 : (0 : Int) ≤ (j : Int) := by omega
    have jn : (j : Int) < (n : Int) := by have := I.out.kl; have := HN.out; omega
    by_cases z : j = 0
    · subst z
      have F : Hid (∀ g : Bool, upB l k = g → Ending.returned (.bool g) = .returned (.bool (upB l k)) ∧ PQ w N b (some a) c sz (upL l k) wr.drew) := fun g hg => by
        have r := I.out.res
        rw [upL_zero] at r
        exact ⟨by rw [hg], by rw [← r]; exact I.out.q.below (Below.refl _ _).drew⟩
      have S : Hid ((k = 0 ∧ upB l k = false) ∨ (0 < k ∧ upB l k = true)) := by
        rcases I.out.st with ⟨e1, e2⟩ | ⟨e1, e2⟩
        · exact .inl ⟨e1.symm, by rw [← e1]; rfl⟩
        · exact .inr ⟨e1, e2⟩
      clear I
      go_wp2_with fail
      /- zero: begin -/
      refine wp_region_held_drew (S := fun _ => True) (by kernel_rfl) (trivial) (fun hHeld => ?_)
      refine wpAnyH_take (i := 0) (v := ?_) (by (simp only [List.getElem?_toArray, List.getElem?_cons_zero]; exact rfl)) (by kernel_rfl) (by kernel_rfl) (by kernel_rfl) (by exact fun _ _ _ h => h) (Or.inl ⟨by rfl, ?_⟩) (by assumption) ?_
      rotate_left
      · (intro w hSw; (try dsimp only at hSw); first | (go_simp; done) | (go_simp; with_reducible rfl))
      try simp only [Act.put, List.setIfInBounds_toArray, List.set_cons_zero, List.set_cons_succ]
      refine wpAnyH_take (i := 1) (v := ?_) (by (simp only [List.getElem?_toArray, List.getElem?_cons_zero, List.getElem?_cons_succ]; exact rfl)) (by kernel_rfl) (by kernel_rfl) (by kernel_rfl) (by exact fun _ _ _ h => h) (Or.inl ⟨by rfl, ?_⟩) (by assumption) ?_
      rotate_left
      · (intro w hSw; (try dsimp only at hSw); first | (go_simp; done) | (go_simp; with_reducible rfl))
      try simp only [Act.put, List.setIfInBounds_toArray, List.set_cons_zero, List.set_cons_succ]
      refine wpAnyH_take (i := 2) (v := ?_) (by (simp only [List.getElem?_toArray, List.getElem?_cons_zero, List.getElem?_cons_succ]; exact rfl)) (by kernel_rfl) (by kernel_rfl) (by kernel_rfl) (by exact fun _ _ _ h => h) (Or.inl ⟨by rfl, ?_⟩) (by assumption) ?_
      rotate_left
      · (intro w hSw; (try dsimp only at hSw); first | (go_simp; done) | (go_simp; with_reducible rfl))
      try simp only [Act.put, List.setIfInBounds_toArray, List.set_cons_zero, List.set_cons_succ]
      refine wpAnyH_take (i := 3) (v := undef) (by (simp only [List.getElem?_toArray, List.getElem?_cons_zero, List.getElem?_cons_succ]; exact rfl)) (by kernel_rfl) (by kernel_rfl) (by kernel_rfl) (by exact fun _ _ _ h => h) (Or.inr ⟨by rfl, rfl⟩) (by assumption) ?_
      try simp only [Act.put, List.setIfInBounds_toArray, List.set_cons_zero, List.set_cons_succ]
      refine wpAnyH_take (i := 4) (v := undef) (by (simp only [List.getElem?_toArray, List.getElem?_cons_zero, List.getElem?_cons_succ]; exact rfl)) (by kernel_rfl) (by kernel_rfl) (by kernel_rfl) (by exact fun _ _ _ h => h) (Or.inr ⟨by rfl, rfl⟩) (by assumption) ?_
      try simp only [Act.put, List.setIfInBounds_toArray, List.set_cons_zero, List.set_cons_succ]
      refine wpAnyH_take (i := 5) (v := undef) (by (simp only [List.getElem?_toArray, List.getElem?_cons_zero, List.getElem?_cons_succ]; exact rfl)) (by kernel_rfl) (by kernel_rfl) (by kernel_rfl) (by exact fun _ _ _ h => h) (Or.inr ⟨by rfl, rfl⟩) (by assumption) ?_
      try simp only [Act.put, List.setIfInBounds_toArray, List.set_cons_zero, List.set_cons_succ]
      refine wpAnyH_take (i := 6) (v := undef) (by (simp only [List.getElem?_toArray, List.getElem?_cons_zero, List.getElem?_cons_succ]; exact rfl)) (by kernel_rfl) (by kernel_rfl) (by kernel_rfl) (by exact fun _ _ _ h => h) (Or.inr ⟨by rfl, rfl⟩) (by assumption) ?_
      try simp only [Act.put, List.setIfInBounds_toArray, List.set_cons_zero, List.set_cons_succ]
      refine wpAnyH_take (i := 7) (v := undef) (by (simp only [List.getElem?_toArray, List.getElem?_cons_zero, List.getElem?_cons_succ]; exact rfl)) (by kernel_rfl) (by kernel_rfl) (by kernel_rfl) (by exact fun _ _ _ h => h) (Or.inr ⟨by rfl, rfl⟩) (by assumption) ?_
      try simp only [Act.put, List.setIfInBounds_toArray, List.set_cons_zero, List.set_cons_succ]
      refine wpAnyH_take (i := 8) (v := undef) (by (simp only [List.getElem?_toArray, List.getElem?_cons_zero, List.getElem?_cons_succ]; exact rfl)) (by kernel_rfl) (by kernel_rfl) (by kernel_rfl) (by exact fun _ _ _ h => h) (Or.inr ⟨by rfl, rfl⟩) (by assumption) ?_
      try simp only [Act.put, List.setIfInBounds_toArray, List.set_cons_zero, List.set_cons_succ]
      refine wpAnyH_take (i := 9) (v := undef) (by (simp only [List.getElem?_toArray, List.getElem?_cons_zero, List.getElem?_cons_succ]; exact rfl)) (by kernel_rfl) (by kernel_rfl) (by kernel_rfl) (by exact fun _ _ _ h => h) (Or.inr ⟨by rfl, rfl⟩) (by assumption) ?_
      try simp only [Act.put, List.setIfInBounds_toArray, List.set_cons_zero, List.set_cons_succ]
      refine wpAnyH_take (i := 10) (v := undef) (by (simp only [List.getElem?_toArray, List.getElem?_cons_zero, List.getElem?_cons_succ]; exact rfl)) (by kernel_rfl) (by kernel_rfl) (by kernel_rfl) (by exact fun _ _ _ h => h) (Or.inr ⟨by rfl, rfl⟩) (by assumption) ?_
      try simp only [Act.put, List.setIfInBounds_toArray, List.set_cons_zero, List.set_cons_succ]
      refine wpAnyH_take (i := 11) (v := undef) (by (simp only [List.getElem?_toArray, List.getElem?_cons_zero, List.getElem?_cons_succ]; exact rfl)) (by kernel_rfl) (by kernel_rfl) (by kernel_rfl) (by exact fun _ _ _ h => h) (Or.inr ⟨by rfl, rfl⟩) (by assumption) ?_
      try simp only [Act.put, List.setIfInBounds_toArray, List.set_cons_zero, List.set_cons_succ]
      refine wpAnyH_take (i := 12) (v := undef) (by (simp only [List.getElem?_toArray, List.getElem?_cons_zero, List.getElem?_cons_succ]; exact rfl)) (by kernel_rfl) (by kernel_rfl) (by kernel_rfl) (by exact fun _ _ _ h => h) (Or.inr ⟨by rfl, rfl⟩) (by assumption) ?_
      try simp only [Act.put, List.setIfInBounds_toArray, List.set_cons_zero, List.set_cons_succ]
      refine wpAnyH_take (i := 13) (v := undef) (by (simp only [List.getElem?_toArray, List.getElem?_cons_zero, List.getElem?_cons_succ]; exact rfl)) (by kernel_rfl) (by kernel_rfl) (by kernel_rfl) (by exact fun _ _ _ h => h) (Or.inr ⟨by rfl, rfl⟩) (by assumption) ?_
      try simp only [Act.put, List.setIfInBounds_toArray, List.set_cons_zero, List.set_cons_succ]
      refine wpAnyH_take (i := 14) (v := undef) (by (simp only [List.getElem?_toArray, List.getElem?_cons_zero, List.getElem?_cons_succ]; exact rfl)) (by kernel_rfl) (by kernel_rfl) (by kernel_rfl) (by exact fun _ _ _ h => h) (Or.inr ⟨by rfl, rfl⟩) (by assumption) ?_
      try simp only [Act.put, List.setIfInBounds_toArray, List.set_cons_zero, List.set_cons_succ]
      refine wpAnyH_take (i := 15) (v := undef) (by (simp only [List.getElem?_toArray, List.getElem?_cons_zero, List.getElem?_cons_succ]; exact rfl)) (by kernel_rfl) (by kernel_rfl) (by kernel_rfl) (by exact fun _ _ _ h => h) (Or.inr ⟨by rfl, rfl⟩) (by assumption) ?_
      try simp only [Act.put, List.setIfInBounds_toArray, List.set_cons_zero, List.set_cons_succ]
      refine wpAnyH_take (i := 16) (v := undef) (by (simp only [List.getElem?_toArray, List.getElem?_cons_zero, List.getElem?_cons_succ]; exact rfl)) (by kernel_rfl) (by kernel_rfl) (by kernel_rfl) (by exact fun _ _ _ h => h) (Or.inr ⟨by rfl, rfl⟩) (by assumption) ?_
      try simp only [Act.put, List.setIfInBounds_toArray, List.set_cons_zero, List.set_cons_succ]
      refine wpAnyH_take (i := 17) (v := undef) (by (simp only [List.getElem?_toArray, List.getElem?_cons_zero, List.getElem?_cons_succ]; exact rfl)) (by kernel_rfl) (by kernel_rfl) (by kernel_rfl) (by exact fun _ _ _ h => h) (Or.inr ⟨by rfl, rfl⟩) (by assumption) ?_
      try simp only [Act.put, List.setIfInBounds_toArray, List.set_cons_zero, List.set_cons_succ]
      refine wpAnyH_take (i := 18) (v := undef) (by (simp only [List.getElem?_toArray, List.getElem?_cons_zero, List.getElem?_cons_succ]; exact rfl)) (by kernel_rfl) (by kernel_rfl) (by kernel_rfl) (by exact fun _ _ _ h => h) (Or.inr ⟨by rfl, rfl⟩) (by assumption) ?_
      try simp only [Act.put, List.setIfInBounds_toArray, List.set_cons_zero, List.set_cons_succ]
      refine wpAnyH_take (i := 19) (v := ?_) (by (simp only [List.getElem?_toArray, List.getElem?_cons_zero, List.getElem?_cons_succ]; exact rfl)) (by kernel_rfl) (by kernel_rfl) (by kernel_rfl) (by exact fun _ _ _ h => h) (Or.inl ⟨by rfl, ?_⟩) (by assumption) ?_
      rotate_left
      · (intro w hSw; (try dsimp only at hSw); first | (go_simp; done) | (go_simp; with_reducible rfl))
      try simp only [Act.put, List.setIfInBounds_toArray, List.set_cons_zero, List.set_cons_succ]
      refine wpAnyH_done (by kernel_rfl) ?_ _
      /- zero: end -/
      rcases S.out with ⟨e1, e2⟩ | ⟨e1, e2⟩
      · subst e1
        have F := Lib.hid (F.out _ e2)
        clear e2 S
        go_wp2
        go_ret
        exact F.out
      · have F := Lib.hid (F.out _ e2)
        have d1 : (((0 : Nat) : Int) != (k : Int)) = true := by simp; omega
        have d2 : ((0 : Int) != (k : Int)) = true := by simp; omega
        clear e2 S
        go_wp2
        go_ret
        exact F.out
    · have jp : 0 < j := by omega
      have jp' : (0 : Int) < (j : Int) := by omega
      obtain ⟨q, hq⟩ : ∃ q, par j = q := ⟨_, rfl⟩
      have qj : q < j := by rw [← hq]; exact par_lt jp
      have q0 : (0 : Int) ≤ (q : Int) := by omega
      have qn : (q : Int) < (n : Int) := by omega
      have JL : Hid (j < l'.length) := by have := I.out.kl; have := I.out.len; unfold Hid; omega
      have QL : Hid (q < l'.length) := by have := JL.out; unfold Hid; omega
      have LN : Hid (l'.length = n) := by unfold Hid; rw [I.out.len]; exact HN.out
      have PA : Hid (∀ w', Calls Try.prog 30 #[.int .i64 (j : Nat)] w' fun e w'' => e = .returned (.int .i64 (q : Nat)) ∧ w'' = w') := fun w' => by
        rw [← hq]
        exact pparent13 w' j jp (by omega)
      obtain ⟨x, hx⟩ : ∃ x, gt l' j = x := ⟨_, rfl⟩
      obtain ⟨y, hy⟩ : ∃ y, gt l' q = y := ⟨_, rfl⟩
      have XY : Hid (gt l' j = x ∧ gt l' q = y ∧ par j = q ∧ 0 < j) := ⟨hx, hy, hq, jp⟩
      have KC : Hid (∀ w', Below wr.heap.size wr w' → PpC N n c a j q x y w') := fun w' b => by
        have r := (I.out.q.1.below b).two JL.out QL.out
        rw [hx, hy, LN.out] at r
        exact r
      obtain ⟨g, hg⟩ : ∃ g, ahd x y = g := ⟨_, rfl⟩
      have HG := Lib.hid hg
      have AA : Hid (∀ w', Below wr.heap.size wr w' → Calls Try.prog 29 #[itV x, itV y] w' fun e w'' => e = .returned (.bool g) ∧ Below wr.heap.size wr w'') := fun w' b => (AH.out w' x y).mono fun e w'' ⟨e1, l1⟩ => ⟨by rw [e1, hg], b.trans (l1.mono b.size)⟩
      obtain ⟨xi, xs, xt⟩ := x
      obtain ⟨yi, ys, yt⟩ := y
      unfold itV at AA
      unfold PpC at KC
      dsimp only at AA KC
      have HB0 : Below wr.heap.size wr wr.drew := (Below.refl _ _).drew
      have dj : decide ((0 : Int) < (j : Int)) = true := decide_eq_true jp'
      have dj2 : decide (0 < j) = true := decide_eq_true jp
      clear z hq hx hy hg AH
      go_wp2_with fail
      /- more: begin -/
      refine wp_region_held_drew (S := fun w' => w'.cell? ⟨N, 1, none⟩ = some (.slice (some a) n c) ∧ w'.cell? (a.add (j * 3)) = some (.int .u64 (xi : Nat)) ∧ w'.cell? ⟨(a.add (j * 3)).block, (a.add (j * 3)).off + 1, none⟩ = some (.int .u64 (xs : Nat)) ∧ w'.cell? ⟨(a.add (j * 3)).block, (a.add (j * 3)).off + 2, none⟩ = some (.int .i64 xt) ∧ w'.cell? (a.add (q * 3)) = some (.int .u64 (yi : Nat)) ∧ w'.cell? ⟨(a.add (q * 3)).block, (a.add (q * 3)).off + 1, none⟩ = some (.int .u64 (ys : Nat)) ∧ w'.cell? ⟨(a.add (q * 3)).block, (a.add (q * 3)).off + 2, none⟩ = some (.int .i64 yt)) (by kernel_rfl) (KC.out _ HB0) (fun hHeld => ?_)
      refine wpAnyH_take (i := 0) (v := ?_) (by (simp only [List.getElem?_toArray, List.getElem?_cons_zero]; exact rfl)) (by kernel_rfl) (by kernel_rfl) (by kernel_rfl) (by exact fun _ _ _ h => h) (Or.inl ⟨by rfl, ?_⟩) (by assumption) ?_
      rotate_left
      · (intro w hSw; (try dsimp only at hSw); first | (go_simp; done) | (go_simp; with_reducible rfl))
      try simp only [Act.put, List.setIfInBounds_toArray, List.set_cons_zero, List.set_cons_succ]
      refine wpAnyH_take (i := 1) (v := ?_) (by (simp only [List.getElem?_toArray, List.getElem?_cons_zero, List.getElem?_cons_succ]; exact rfl)) (by kernel_rfl) (by kernel_rfl) (by kernel_rfl) (by exact fun _ _ _ h => h) (Or.inl ⟨by rfl, ?_⟩) (by assumption) ?_
      rotate_left
      · (intro w hSw; (try dsimp only at hSw); first | (go_simp; done) | (go_simp; with_reducible rfl))
      try simp only [Act.put, List.setIfInBounds_toArray, List.set_cons_zero, List.set_cons_succ]
      refine wpAnyH_take (i := 2) (v := ?_) (by (simp only [List.getElem?_toArray, List.getElem?_cons_zero, List.getElem?_cons_succ]; exact rfl)) (by kernel_rfl) (by kernel_rfl) (by kernel_rfl) (by exact fun _ _ _ h => h) (Or.inl ⟨by rfl, ?_⟩) (by assumption) ?_
      rotate_left
      · (intro w hSw; (try dsimp only at hSw); first | (go_simp; done) | (go_simp; with_reducible rfl))
      try simp only [Act.put, List.setIfInBounds_toArray, List.set_cons_zero, List.set_cons_succ]
      refine wpAnyH_take (i := 3) (v := ?_) (by (simp only [List.getElem?_toArray, List.getElem?_cons_zero, List.getElem?_cons_succ]; exact rfl)) (by kernel_rfl) (by kernel_rfl) (by kernel_rfl) (by exact fun _ _ _ h => h) (Or.inl ⟨by rfl, ?_⟩) (by assumption) ?_
      rotate_left
      · (intro w hSw; (try dsimp only at hSw); first | (go_simp; done) | (go_simp; with_reducible rfl))
      try simp only [Act.put, List.setIfInBounds_toArray, List.set_cons_zero, List.set_cons_succ]
      refine wpAnyH_take (i := 4) (v := ?_) (by (simp only [List.getElem?_toArray, List.getElem?_cons_zero, List.getElem?_cons_succ]; exact rfl)) (by kernel_rfl) (by kernel_rfl) (by kernel_rfl) (by exact fun _ _ _ h => h) (Or.inl ⟨by rfl, ?_⟩) (by assumption) ?_
      rotate_left
      · (intro w hSw; (try dsimp only at hSw); first | (go_simp; done) | (go_simp; with_reducible rfl))
      try simp only [Act.put, List.setIfInBounds_toArray, List.set_cons_zero, List.set_cons_succ]
      refine wpAnyH_take (i := 5) (v := ?_) (by (simp only [List.getElem?_toArray, List.getElem?_cons_zero, List.getElem?_cons_succ]; exact rfl)) (by kernel_rfl) (by kernel_rfl) (by kernel_rfl) (by exact fun _ _ _ h => h) (Or.inl ⟨by rfl, ?_⟩) (by assumption) ?_
      rotate_left
      · (intro w hSw; (try dsimp only at hSw); first | (go_simp; done) | (go_simp; with_reducible rfl))
      try simp only [Act.put, List.setIfInBounds_toArray, List.set_cons_zero, List.set_cons_succ]
      refine wpAnyH_take (i := 6) (v := ?_) (by (simp only [List.getElem?_toArray, List.getElem?_cons_zero, List.getElem?_cons_succ]; exact rfl)) (by kernel_rfl) (by kernel_rfl) (by kernel_rfl) (by exact fun _ _ _ h => h) (Or.inl ⟨by rfl, ?_⟩) (by assumption) ?_
      rotate_left
      · (intro w hSw; (try dsimp only at hSw); first | (go_simp; done) | (go_simp; with_reducible rfl))
      try simp only [Act.put, List.setIfInBounds_toArray, List.set_cons_zero, List.set_cons_succ]
      refine wpAnyH_take (i := 7) (v := ?_) (by (simp only [List.getElem?_toArray, List.getElem?_cons_zero, List.getElem?_cons_succ]; exact rfl)) (by kernel_rfl) (by kernel_rfl) (by kernel_rfl) (by exact fun _ _ _ h => h) (Or.inl ⟨by rfl, ?_⟩) (by assumption) ?_
      rotate_left
      · (intro w hSw; (try dsimp only at hSw); first | (go_simp; done) | (go_simp; with_reducible rfl))
      try simp only [Act.put, List.setIfInBounds_toArray, List.set_cons_zero, List.set_cons_succ]
      refine wpAnyH_take (i := 8) (v := ?_) (by (simp only [List.getElem?_toArray, List.getElem?_cons_zero, List.getElem?_cons_succ]; exact rfl)) (by kernel_rfl) (by kernel_rfl) (by kernel_rfl) (by exact fun _ _ _ h => h) (Or.inl ⟨by rfl, ?_⟩) (by assumption) ?_
      rotate_left
      · (intro w hSw; (try dsimp only at hSw); first | (go_simp; done) | (go_simp; with_reducible rfl))
      try simp only [Act.put, List.setIfInBounds_toArray, List.set_cons_zero, List.set_cons_succ]
      refine wpAnyH_take (i := 9) (v := ?_) (by (simp only [List.getElem?_toArray, List.getElem?_cons_zero, List.getElem?_cons_succ]; exact rfl)) (by kernel_rfl) (by kernel_rfl) (by kernel_rfl) (by exact fun _ _ _ h => h) (Or.inl ⟨by rfl, ?_⟩) (by assumption) ?_
      rotate_left
      · (intro w hSw; (try dsimp only at hSw); first | (go_simp; done) | (go_simp; with_reducible rfl))
      try simp only [Act.put, List.setIfInBounds_toArray, List.set_cons_zero, List.set_cons_succ]
      refine wpAnyH_take (i := 10) (v := ?_) (by (simp only [List.getElem?_toArray, List.getElem?_cons_zero, List.getElem?_cons_succ]; exact rfl)) (by kernel_rfl) (by kernel_rfl) (by kernel_rfl) (by exact fun _ _ _ h => h) (Or.inl ⟨by rfl, ?_⟩) (by assumption) ?_
      rotate_left
      · (intro w hSw; (try dsimp only at hSw); first | (go_simp; done) | (go_simp; with_reducible rfl))
      try simp only [Act.put, List.setIfInBounds_toArray, List.set_cons_zero, List.set_cons_succ]
      refine wpAnyH_take (i := 11) (v := ?_) (by (simp only [List.getElem?_toArray, List.getElem?_cons_zero, List.getElem?_cons_succ]; exact rfl)) (by kernel_rfl) (by kernel_rfl) (by kernel_rfl) (by exact fun _ _ _ h => h) (Or.inl ⟨by rfl, ?_⟩) (by assumption) ?_
      rotate_left
      · (intro w hSw; (try dsimp only at hSw); first | (go_simp; done) | (go_simp; with_reducible rfl))
      try simp only [Act.put, List.setIfInBounds_toArray, List.set_cons_zero, List.set_cons_succ]
      refine wpAnyH_take (i := 12) (v := ?_) (by (simp only [List.getElem?_toArray, List.getElem?_cons_zero, List.getElem?_cons_succ]; exact rfl)) (by kernel_rfl) (by kernel_rfl) (by kernel_rfl) (by exact fun _ _ _ h => h) (Or.inl ⟨by rfl, ?_⟩) (by assumption) ?_
      rotate_left
      · (intro w hSw; (try dsimp only at hSw); first | (go_simp; done) | (go_simp; with_reducible rfl))
      try simp only [Act.put, List.setIfInBounds_toArray, List.set_cons_zero, List.set_cons_succ]
      refine wpAnyH_take (i := 13) (v := ?_) (by (simp only [List.getElem?_toArray, List.getElem?_cons_zero, List.getElem?_cons_succ]; exact rfl)) (by kernel_rfl) (by kernel_rfl) (by kernel_rfl) (by exact fun _ _ _ h => h) (Or.inl ⟨by rfl, ?_⟩) (by assumption) ?_
      rotate_left
      · (intro w hSw; (try dsimp only at hSw); first | (go_simp; done) | (go_simp; with_reducible rfl))
      try simp only [Act.put, List.setIfInBounds_toArray, List.set_cons_zero, List.set_cons_succ]
      refine wpAnyH_take (i := 14) (v := ?_) (by (simp only [List.getElem?_toArray, List.getElem?_cons_zero, List.getElem?_cons_succ]; exact rfl)) (by kernel_rfl) (by kernel_rfl) (by kernel_rfl) (by exact fun _ _ _ h => h) (Or.inl ⟨by rfl, ?_⟩) (by assumption) ?_
      rotate_left
      · (intro w hSw; (try dsimp only at hSw); first | (go_simp; done) | (go_simp; with_reducible rfl))
      try simp only [Act.put, List.setIfInBounds_toArray, List.set_cons_zero, List.set_cons_succ]
      refine wpAnyH_ready (rs := [15]) (by kernel_rfl) (by simp) ?_
      refine AllReadyH.cons (by (simp only [List.getElem?_toArray, List.getElem?_cons_zero, List.getElem?_cons_succ]; exact rfl)) (fun K hK => ?_) AllReadyH.nil
      go_simp
      refine (PA.out _).mono ?_; rintro e w5 ⟨rfl, rfl⟩
      go_wp2_with fail
      refine hK.out _ _ (KC.out _ HB0) (fun hHeld => ?_)
      clear hK K
      try simp only [Act.put, List.setIfInBounds_toArray, List.set_cons_zero, List.set_cons_succ]
      refine wpAnyH_take (i := 16) (v := ?_) (by (simp only [List.getElem?_toArray, List.getElem?_cons_zero, List.getElem?_cons_succ]; exact rfl)) (by kernel_rfl) (by kernel_rfl) (by kernel_rfl) (by exact fun _ _ _ h => h) (Or.inl ⟨by rfl, ?_⟩) (by assumption) ?_
      rotate_left
      · (intro w hSw; (try dsimp only at hSw); first | (go_simp; done) | (go_simp; with_reducible rfl))
      try simp only [Act.put, List.setIfInBounds_toArray, List.set_cons_zero, List.set_cons_succ]
      refine wpAnyH_take (i := 17) (v := ?_) (by (simp only [List.getElem?_toArray, List.getElem?_cons_zero, List.getElem?_cons_succ]; exact rfl)) (by kernel_rfl) (by kernel_rfl) (by kernel_rfl) (by exact fun _ _ _ h => h) (Or.inl ⟨by rfl, ?_⟩) (by assumption) ?_
      rotate_left
      · (intro w hSw; (try dsimp only at hSw); first | (go_simp; done) | (go_simp; with_reducible rfl))
      try simp only [Act.put, List.setIfInBounds_toArray, List.set_cons_zero, List.set_cons_succ]
      refine wpAnyH_ready (rs := [18]) (by kernel_rfl) (by simp) ?_
      refine AllReadyH.cons (by (simp only [List.getElem?_toArray, List.getElem?_cons_zero, List.getElem?_cons_succ]; exact rfl)) (fun K hK => ?_) AllReadyH.nil
      go_simp
      refine (AA.out _ HB0).mono ?_; rintro e w5 ⟨rfl, HB1⟩
      go_wp2_with fail
      refine hK.out _ _ (KC.out _ HB1) (fun hHeld => ?_)
      clear hK K
      try simp only [Act.put, List.setIfInBounds_toArray, List.set_cons_zero, List.set_cons_succ]
      refine wpAnyH_take (i := 19) (v := ?_) (by (simp only [List.getElem?_toArray, List.getElem?_cons_zero, List.getElem?_cons_succ]; exact rfl)) (by kernel_rfl) (by kernel_rfl) (by kernel_rfl) (by exact fun _ _ _ h => h) (Or.inl ⟨by rfl, ?_⟩) (by assumption) ?_
      rotate_left
      · (intro w hSw; (try dsimp only at hSw); first | (go_simp; done) | (go_simp; with_reducible rfl))
      try simp only [Act.put, List.setIfInBounds_toArray, List.set_cons_zero, List.set_cons_succ]
      refine wpAnyH_done (by kernel_rfl) ?_ _
      /- more: end -/
      have L5 := Lib.hid HB1
      clear HB0 HB1 AA KC
      cases g
      · have F : Hid (∀ g : Bool, upB l k = g → Ending.returned (.bool g) = .returned (.bool (upB l k)) ∧ PQ w N b (some a) c sz (upL l k) w5) := fun g hg => by
          have s : ahd (gt l' j) (gt l' (par j)) = false := by rw [XY.out.2.2.1, XY.out.1, XY.out.2.1]; exact HG.out
          have r := I.out.res
          rw [upL_stop s] at r
          exact ⟨by rw [hg], by rw [← r]; exact I.out.q.below L5.out⟩
        have S : Hid ((j = k ∧ upB l k = false) ∨ (j < k ∧ upB l k = true)) := by
          have s : ahd (gt l' j) (gt l' (par j)) = false := by rw [XY.out.2.2.1, XY.out.1, XY.out.2.1]; exact HG.out
          rcases I.out.st with ⟨e1, e2⟩ | ⟨e1, e2⟩
          · exact .inl ⟨e1, by rw [← e1, ← e2, upB_at XY.out.2.2.2]; exact s⟩
          · exact .inr ⟨e1, e2⟩
        clear I HG
        rcases S.out with ⟨e1, e2⟩ | ⟨e1, e2⟩
        · have F := Lib.hid (F.out _ e2)
          have d1 : ((j : Int) != (k : Int)) = false := by rw [e1]; simp
          clear e1 e2 S
          go_wp2
          go_ret
          exact F.out
        · have F := Lib.hid (F.out _ e2)
          have d1 : ((j : Int) != (k : Int)) = true := by simp; omega
          clear e1 e2 S
          go_wp2
          go_ret
          exact F.out
      · have s : ahd (gt l' j) (gt l' (par j)) = true := by rw [XY.out.2.2.1, XY.out.1, XY.out.2.1]; exact HG.out
        have q5 := Lib.hid (I.out.q.below L5.out)
        have x5 := Lib.hid (I.out.bx.below L5.out)
        have SW := Lib.hid (pswap13 w5 N b c sz a l' B j q q5.out.1 x5.out I.out.far JL.out QL.out)
        have NS : Hid (∀ w', PQ w5 N b (some a) c sz (sw l' j q) w' → PUpS w w' N b c sz a B l k (sw l' j q) q) := fun w' Q => by
          refine ⟨q5.out.next Q, (Q.2.keep B I.out.far (Array.getElem?_eq_some_iff.1 x5.out).1).trans x5.out, I.out.far, by rw [sw_len]; exact I.out.len, by have := QL.out; have := I.out.len; omega, ?_, .inr ?_⟩
          · rw [← I.out.res, upL_go XY.out.2.2.2 s, XY.out.2.2.1]
          · rcases I.out.st with ⟨e1, e2⟩ | ⟨e1, e2⟩
            · exact ⟨by omega, by rw [← e1, ← e2, upB_at XY.out.2.2.2]; exact s⟩
            · exact ⟨by omega, e2⟩
        clear s q5 x5 XY LN I HG
        go_wp2_with (first | (go_at_call 30; refine (PA.out _).mono ?_; rintro e w6 ⟨rfl, rfl⟩) | (go_at_call 36; refine SW.out.mono ?_; rintro e w7 ⟨rfl, Q7⟩; replace NS := Lib.hid (NS.out _ Q7); clear Q7 SW))
        go_roundw
        case rel => exact ⟨q, sw l' j q, rfl, NS.out⟩
        case measure => simp [intOf]; omega
end Go.Proofs.Ytbfmmeapjfljbaa

