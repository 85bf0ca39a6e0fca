/- Layer 13 (heap), the document's own: an item goes down. -/
import Derived.Test.YtlfbenlojiiknaaHeapC
set_option maxRecDepth 100000
namespace Go.Proofs.Ytlfbenlojiiknaa
open Go.ChangeShapes Go.WideShapes Go.ChangeAt Go.RowKit HeapM

structure DownS (w wr : World) (M : Nat) (a : Addr) (c : Nat) (sz : Int) (l : List It) (k : Nat) (l' : List It) (k' : Nat) : Prop where
  hp : RHp wr M (some a) c sz l'
  len : l'.length = l.length
  kl : k' < l.length
  res : downL l' k' = downL l k
  t : Turn a.block w wr
theorem DownS.below {w wr w' : World} {M : Nat} {a : Addr} {c : Nat} {sz : Int} {l l' : List It} {k k' : Nat} (h : DownS w wr M a c sz l k l' k') (b : Below wr.heap.size wr w') : DownS w w' M a c sz l k l' k' := ⟨h.hp.below b, h.len, h.kl, h.res, h.t.trans (Turn.of_below b)⟩
theorem bestF_lt {l : List It} {k : Nat} (h : k < l.length) (i : Nat) : bestF l k i < l.length := by
  rcases bestF_in l k i with e | ⟨_, _, e⟩
  · rw [e]; exact h
  · exact e

def RDownP (w : World) (M : Nat) (a : Addr) (c : Nat) (sz : Int) (l : List It) (e : Ending) (w' : World) : Prop := e = .returned (.tuple #[]) ∧ RHp w' M (some a) c sz l ∧ Turn a.block w w'

set_option maxHeartbeats 4000000 in
theorem rdown13_any (w : World) (M : Nat) (a : Addr) (c : Nat) (sz : Int) (l : List It) (k : Nat) (h : RHp w M (some a) c sz l) (hk : k < l.length) :
    Calls Try.prog 38 #[.pointer (some ⟨M, 0, none⟩), .int .i64 (k : Nat)] w (RDownP w M a c sz (downL l k)) := by
  have I0 : Hid (DownS w w M a c sz l k l k) := ⟨h, rfl, hk, rfl, Turn.of_below (Below.refl _ _)⟩
  have fit := h.fit
  obtain ⟨n, hn⟩ : ∃ n, l.length = n := ⟨_, rfl⟩
  have HN := Lib.hid hn
  rw [hn] at fit
  have nb : (n : Int) ≤ 1048576 := by omega
  have AH := Lib.hid rahead13_any
  clear h hk hn fit
  go_enter Try.func38, Try.ntmps38
  go_wp2
  go_loopw [1] (fun kk wr => ∃ (k' : Nat) (l' : List It), kk = .int .i64 (k' : Nat) ∧ Hid (DownS w wr M a c sz l k l' k')) (fun kk _ => 2000000 - (intOf kk).toNat)
  case atStart => exact ⟨k, l, rfl, I0.out⟩
  case round =>
    clear I0
    obtain ⟨j, l', rfl, I⟩ := hrel
    have j0 : (0 : Int) ≤ (j : Int) := by omega
    have jn : (j : Int) < (n : Int) := by have := I.out.kl; have := HN.out; omega
    have JL : Hid (j < l'.length) := by have := I.out.kl; have := I.out.len; unfold Hid; omega
    have LN : Hid (l'.length = n) := by unfold Hid; rw [I.out.len]; exact HN.out
    obtain ⟨u, hu⟩ : ∃ u, 4 * (j : Int) = u := ⟨_, rfl⟩
    obtain ⟨m0, hm0⟩ : ∃ m : Nat, 4 * j + 1 = m := ⟨_, rfl⟩
    have hs : u + 1 = (m0 : Int) := by omega
    obtain ⟨t, ht⟩ : ∃ t, u + 4 = t := ⟨_, rfl⟩
    have w1 : wrap64 u = u := by unfold wrap64; omega
    have w2 : IntKind.i64.wrap u = u := by rw [IntKind.wrap_i64]; omega
    have w3 : wrap64 (m0 : Int) = (m0 : Int) := by unfold wrap64; omega
    have w4 : IntKind.i64.wrap (m0 : Int) = (m0 : Int) := by rw [IntKind.wrap_i64]; omega
    have w5 : wrap64 t = t := by unfold wrap64; omega
    have w6 : IntKind.i64.wrap t = t := by rw [IntKind.wrap_i64]; omega
    have SJ : Hid (4 * j + 1 = m0 ∧ t = (m0 : Int) + 3 ∧ u ≤ 4194304) := by unfold Hid; omega
    clear hm0
    go_wp2_with fail
    go_loopw [4, 5] (fun bb cc wi => ∃ i m : Nat, bb = .int .i64 (bestF l' j i : Nat) ∧ cc = .int .i64 (m : Nat) ∧ Hid (m = m0 + i ∧ i ≤ 4) ∧ Hid (DownS w wi M a c sz l k l' j)) (fun _ cc _ => 100000000 - (intOf cc).toNat)
    case atStart => exact ⟨0, m0, rfl, rfl, ⟨rfl, Nat.zero_le _⟩, I.out⟩
    case round =>
      clear I
      obtain ⟨i, m, rfl, rfl, I4, I⟩ := hrel
      have m1 : (0 : Int) ≤ (m : Int) := by omega
      have BL : Hid (bestF l' j i < l'.length) := bestF_lt JL.out i
      obtain ⟨b, hb⟩ : ∃ b, bestF l' j i = b := ⟨_, rfl⟩
      have HB := Lib.hid hb
      rw [hb] at BL
      rw [hb]
      clear hb
      have b0 : (0 : Int) ≤ (b : Int) := by omega
      have bn : (b : Int) < (n : Int) := by have := BL.out; have := LN.out; omega
      have mb : (m : Int) ≤ 5000000 := by have := I4.out; have := SJ.out; omega
      by_cases stop : i = 4
      · have d1 : decide ((m : Int) ≤ t) = false := decide_eq_false (by have := I4.out; have := SJ.out; omega)
        have d2 : t < (m : Int) := by have := I4.out; have := SJ.out; omega
        by_cases e : b = j
        · have e1 : ((b : Int) == (j : Int)) = true := by rw [beq_iff_eq, e]
          have F : Hid (RDownP w M a c sz (downL l k) (.returned (.tuple #[])) wr) := by
            have r := I.out.res
            rw [downL_stop (show best l' j = j by show bestF l' j 4 = j; rw [← stop, HB.out, e])] at r
            exact ⟨rfl, by rw [← r]; exact I.out.hp, I.out.t⟩
          clear I BL HB e stop I4 SJ LN JL AH
          go_wp2
          refine bodyPost_ret (results_none rfl _ _ _) rfl ?_
          exact F.out
        · have e1 : ((b : Int) == (j : Int)) = false := by rw [beq_eq_false_iff_ne]; omega
          obtain ⟨x, hx⟩ : ∃ x, gt l' j = x := ⟨_, rfl⟩
          obtain ⟨y, hy⟩ : ∃ y, gt l' b = y := ⟨_, rfl⟩
          have BE : Hid (best l' j = b ∧ b ≠ j ∧ j < b) := by
            have r : best l' j = b := by show bestF l' j 4 = b; rw [← stop, HB.out]
            have s := best_in l' j
            rw [r] at s
            exact ⟨r, e, by omega⟩
          have XY : Hid (gt l' j = x ∧ gt l' b = y) := ⟨hx, hy⟩
          have UC := I.out.hp.up JL.out BL.out
          rw [hx, hy, LN.out] at UC
          obtain ⟨xi, xs, xt⟩ := x
          obtain ⟨yi, ys, yt⟩ := y
          unfold UpC at UC
          dsimp only at UC
          obtain ⟨r0, r1, r2, r3, r4, r5, r6⟩ := UC
          clear e stop I4 HB AH hx hy
          go_upto_region 8 with (fail)
          have AL : Below wr.heap.size wr (wr.alloc (.cells #[.int .u64 (xi : Nat), .int .u64 (xs : Nat), .int .i64 xt] 38)) := (Below.refl _ _).alloc (Nat.le_refl _) _
          have BX : Hid ((wr.alloc (.cells #[.int .u64 (xi : Nat), .int .u64 (xs : Nat), .int .i64 xt] 38)).heap[wr.heap.size]? = some (.cells #[.int .u64 (xi : Nat), .int .u64 (xs : Nat), .int .i64 xt] 38 (0, 0))) := heap_alloc_new _ _
          have NX : Hid (a.block ≠ wr.heap.size ∧ M ≠ wr.heap.size) := by
            have e := I.out.hp.o.lt
            have f := (Array.getElem?_eq_some_iff.1 I.out.hp.b).1
            unfold Hid
            omega
          have I6 := Lib.hid (I.out.below AL)
          generalize wr.alloc (.cells #[.int .u64 (xi : Nat), .int .u64 (xs : Nat), .int .i64 xt] 38) = w6 at *
          generalize wr.heap.size = bx at *
          clear r0 r1 r2 r3 r4 r5 r6 AL I
          have UC := I6.out.hp.up JL.out BL.out
          rw [XY.out.1, XY.out.2, LN.out] at UC
          unfold UpC at UC
          dsimp only at UC
          obtain ⟨r0, r1, r2, r3, r4, r5, r6⟩ := UC
          obtain ⟨f0, f1, f2⟩ := own_free I6.out.hp.o j
          obtain ⟨s1, s2⟩ := set3_mid r2 r3 (.int .u64 (yi : Nat)) (.int .u64 (ys : Nat))
          have H7 : Hid (RHp ((((w6.setCell (a.add (j * 3)) (.int .u64 (yi : Nat))).setCell ⟨(a.add (j * 3)).block, (a.add (j * 3)).off + 1, none⟩ (.int .u64 (ys : Nat))).setCell ⟨(a.add (j * 3)).block, (a.add (j * 3)).off + 2, none⟩ (.int .i64 yt)).drew) M (some a) c sz (l'.set j ⟨yi, ys, yt⟩)) := (I6.out.hp.set JL.out ⟨yi, ys, yt⟩).below (Below.refl _ _).drew
          have B7 : Hid (((((w6.setCell (a.add (j * 3)) (.int .u64 (yi : Nat))).setCell ⟨(a.add (j * 3)).block, (a.add (j * 3)).off + 1, none⟩ (.int .u64 (ys : Nat))).setCell ⟨(a.add (j * 3)).block, (a.add (j * 3)).off + 2, none⟩ (.int .i64 yt)).drew).heap[bx]? = some (.cells #[.int .u64 (xi : Nat), .int .u64 (xs : Nat), .int .i64 xt] 38 (0, 0))) := (set3_other w6 a j ⟨yi, ys, yt⟩ (Ne.symm NX.out.1)).trans BX.out
          have T7 : Hid (Turn a.block w ((((w6.setCell (a.add (j * 3)) (.int .u64 (yi : Nat))).setCell ⟨(a.add (j * 3)).block, (a.add (j * 3)).off + 1, none⟩ (.int .u64 (ys : Nat))).setCell ⟨(a.add (j * 3)).block, (a.add (j * 3)).off + 2, none⟩ (.int .i64 yt)).drew)) := (set3_turn I6.out.hp.o j ⟨yi, ys, yt⟩ I6.out.t).drew
          go_region
          generalize ((((w6.setCell (a.add (j * 3)) (.int .u64 (yi : Nat))).setCell ⟨(a.add (j * 3)).block, (a.add (j * 3)).off + 1, none⟩ (.int .u64 (ys : Nat))).setCell ⟨(a.add (j * 3)).block, (a.add (j * 3)).off + 2, none⟩ (.int .i64 yt)).drew) = w7 at *
          clear r0 r1 r2 r3 r4 r5 r6 f0 f1 f2 s1 s2 BX
          have Q7 : Hid (b < (l'.set j ⟨yi, ys, yt⟩).length) := by unfold Hid; rw [List.length_set]; exact BL.out
          obtain ⟨l2, hl2⟩ : ∃ l2, l'.set j ⟨yi, ys, yt⟩ = l2 := ⟨_, rfl⟩
          have SW : Hid (l2.set b ⟨xi, xs, xt⟩ = sw l' j b) := by unfold Hid sw; rw [XY.out.1, XY.out.2, hl2]
          have L2 : Hid (l2.length = n) := by unfold Hid; rw [← hl2, List.length_set]; exact LN.out
          rw [hl2] at H7 Q7
          clear hl2
          have c0 := blk_cell (o := 0) H7.out.b
          rw [L2.out] at c0
          simp only [List.getElem?_toArray, List.getElem?_cons_zero] at c0
          have x0 := blk_cell (o := 0) B7.out
          have x1 := blk_cell (o := 1) B7.out
          have x2 := blk_cell (o := 2) B7.out
          simp only [List.getElem?_toArray, List.getElem?_cons_zero, List.getElem?_cons_succ] at x0 x1 x2
          obtain ⟨q1, q2, q3⟩ := own_at H7.out.o Q7.out
          obtain ⟨f0, f1, f2⟩ := own_free H7.out.o b
          obtain ⟨s1, s2⟩ := set3_mid q2 q3 (.int .u64 (xi : Nat)) (.int .u64 (xs : Nat))
          have H8 : Hid (RHp ((((w7.setCell (a.add (b * 3)) (.int .u64 (xi : Nat))).setCell ⟨(a.add (b * 3)).block, (a.add (b * 3)).off + 1, none⟩ (.int .u64 (xs : Nat))).setCell ⟨(a.add (b * 3)).block, (a.add (b * 3)).off + 2, none⟩ (.int .i64 xt)).drew) M (some a) c sz (sw l' j b)) := by
            have r := (H7.out.set Q7.out ⟨xi, xs, xt⟩).below (Below.refl _ _).drew
            rw [SW.out] at r
            exact r
          have T8 : Hid (Turn a.block w ((((w7.setCell (a.add (b * 3)) (.int .u64 (xi : Nat))).setCell ⟨(a.add (b * 3)).block, (a.add (b * 3)).off + 1, none⟩ (.int .u64 (xs : Nat))).setCell ⟨(a.add (b * 3)).block, (a.add (b * 3)).off + 2, none⟩ (.int .i64 xt)).drew)) := (set3_turn H7.out.o b ⟨xi, xs, xt⟩ T7.out).drew
          go_wp2_with fail
          go_region
          generalize ((((w7.setCell (a.add (b * 3)) (.int .u64 (xi : Nat))).setCell ⟨(a.add (b * 3)).block, (a.add (b * 3)).off + 1, none⟩ (.int .u64 (xs : Nat))).setCell ⟨(a.add (b * 3)).block, (a.add (b * 3)).off + 2, none⟩ (.int .i64 xt)).drew) = w8 at *
          have NS : Hid (DownS w w8 M a c sz l k (sw l' j b) b) := by
            refine ⟨H8.out, by rw [sw_len]; exact I6.out.len, by have := BL.out; have := I6.out.len; omega, ?_, T8.out⟩
            rw [← I6.out.res, downL_go (show best l' j ≠ j by rw [BE.out.1]; exact BE.out.2.1), BE.out.1]
          have ME : Hid (j < b) := BE.out.2.2
          clear c0 x0 x1 x2 q1 q2 q3 f0 f1 f2 s1 s2 H8 T8 H7 B7 T7 I6 SW L2 Q7 LN XY
          go_wp2
          go_roundw
          case rel => exact ⟨b, sw l' j b, rfl, NS⟩
          case measure => have := ME.out; simp [intOf]; omega
      · have d1 : decide ((m : Int) ≤ t) = true := decide_eq_true (by have := I4.out; have := SJ.out; omega)
        have d2 : (m : Int) ≤ t := by have := I4.out; have := SJ.out; omega
        have N1 : Hid (m + 1 = m0 + (i + 1) ∧ i + 1 ≤ 4) := by have := I4.out; unfold Hid; omega
        by_cases inn : m < n
        · have g1 : (m : Int) < (n : Int) := by omega
          have g2 : decide ((m : Int) < (n : Int)) = true := decide_eq_true g1
          have g3 : decide (m < n) = true := decide_eq_true inn
          have g4 : m < n := inn
          have ML : Hid (m < l'.length) := by have := LN.out; unfold Hid; omega
          obtain ⟨x, hx⟩ : ∃ x, gt l' m = x := ⟨_, rfl⟩
          obtain ⟨y, hy⟩ : ∃ y, gt l' b = y := ⟨_, rfl⟩
          obtain ⟨g, hg⟩ : ∃ g, ahd x y = g := ⟨_, rfl⟩
          have NB : Hid (bestF l' j (i + 1) = if g = true then m else b) := by
            show (if 4 * j + 1 + i < l'.length ∧ ahd (gt l' (4 * j + 1 + i)) (gt l' (bestF l' j i)) = true then 4 * j + 1 + i else bestF l' j i) = _
            rw [show 4 * j + 1 + i = m by have := SJ.out; have := I4.out; omega, HB.out, hx, hy, hg]
            by_cases z : g = true
            · rw [if_pos ⟨ML.out, z⟩, if_pos z]
            · rw [if_neg (fun r => z r.2), if_neg z]
          have KC : Hid (∀ w', Below wr.heap.size wr w' → UpC M n c a m b x y w') := fun w' r => by
            have r := (I.out.hp.below r).up ML.out BL.out
            rw [hx, hy, LN.out] at r
            exact r
          have AA : Hid (∀ w', Below wr.heap.size wr w' → Calls Try.prog 48 #[itV x, itV y] w' fun e w'' => e = .returned (.bool g) ∧ Below wr.heap.size wr w'') := fun w' r => (AH.out w' x y).mono fun e w'' ⟨e1, l1⟩ => ⟨by rw [e1, hg], r.trans (l1.mono r.size)⟩
          obtain ⟨xi, xs, xt⟩ := x
          obtain ⟨yi, ys, yt⟩ := y
          unfold itV at AA
          unfold UpC at KC
          dsimp only at AA KC
          have HB0 : Below wr.heap.size wr wr := Below.refl _ _
          clear stop I4 HB hx hy hg AH inn
          go_wp2_with fail
          go_region_held3 (fun w' => w'.cell? ⟨M, 0, none⟩ = some (.slice (some a) n c) ∧ w'.cell? (a.add (m * 3)) = some (.int .u64 (xi : Nat)) ∧ w'.cell? ⟨(a.add (m * 3)).block, (a.add (m * 3)).off + 1, none⟩ = some (.int .u64 (xs : Nat)) ∧ w'.cell? ⟨(a.add (m * 3)).block, (a.add (m * 3)).off + 2, none⟩ = some (.int .i64 xt) ∧
              w'.cell? (a.add (b * 3)) = some (.int .u64 (yi : Nat)) ∧ w'.cell? ⟨(a.add (b * 3)).block, (a.add (b * 3)).off + 1, none⟩ = some (.int .u64 (ys : Nat)) ∧ w'.cell? ⟨(a.add (b * 3)).block, (a.add (b * 3)).off + 2, none⟩ = some (.int .i64 yt))
            (first | exact KC.out _ HB0 | exact KC.out _ HB0.drew)
            (first
              | (go_at_call 48; refine (AA.out _ (by first | exact HB0 | exact HB0.drew)).mono ?_; rintro e w5 ⟨rfl, HB0⟩))
          have J := Lib.hid (I.out.below HB0)
          clear HB0 AA KC I
          cases g
          · rw [if_neg (by decide)] at NB
            go_wp2
            go_roundw
            case rel => exact ⟨i + 1, m + 1, by rw [NB.out], by go_num, N1.out, J.out⟩
            case measure => simp [intOf]; omega
          · rw [if_pos rfl] at NB
            go_wp2
            go_roundw
            case rel => exact ⟨i + 1, m + 1, by rw [NB.out], by go_num, N1.out, J.out⟩
            case measure => simp [intOf]; omega
        · have g1 : decide ((m : Int) < (n : Int)) = false := decide_eq_false (by omega)
          have g2 : (n : Int) ≤ (m : Int) := by omega
          have g3 : decide (m < n) = false := decide_eq_false inn
          have g4 : n ≤ m := by omega
          have NB : Hid (bestF l' j (i + 1) = b) := by
            show (if 4 * j + 1 + i < l'.length ∧ ahd (gt l' (4 * j + 1 + i)) (gt l' (bestF l' j i)) = true then 4 * j + 1 + i else bestF l' j i) = _
            rw [if_neg (fun r => by have := SJ.out; have := I4.out; have := LN.out; omega), HB.out]
          have J : Hid (DownS w wr.drew M a c sz l k l' j) := I.out.below (Below.refl _ _).drew
          have c0 := blk_cell (o := 0) I.out.hp.b
          rw [LN.out] at c0
          simp only [List.getElem?_toArray, List.getElem?_cons_zero] at c0
          clear stop I4 HB AH inn I
          go_wp2_with fail
          /- the region: begin -/
          refine wp_region_held_drew (S := fun w' => w'.cell? ⟨M, 0, none⟩ = some (.slice (some a) n c)) (by kernel_rfl) (c0) (fun hHeld => ?_)
          refine wpAnyH_take (i := 0) (v := ?_) (by (simp only [List.getElem?_toArray, List.getElem?_cons_zero]; exact rfl)) (by kernel_rfl) (by kernel_rfl) (by kernel_rfl) (by exact fun _ _ _ h => h) (Or.inl ⟨by rfl, ?_⟩) (by assumption) ?_
          rotate_left
          · (intro w hSw; (try dsimp only at hSw); first | (go_simp; done) | (go_simp; with_reducible rfl))
          try simp only [Act.put, List.setIfInBounds_toArray, List.set_cons_zero, List.set_cons_succ]
          refine wpAnyH_take (i := 1) (v := ?_) (by (simp only [List.getElem?_toArray, List.getElem?_cons_zero, List.getElem?_cons_succ]; exact rfl)) (by kernel_rfl) (by kernel_rfl) (by kernel_rfl) (by exact fun _ _ _ h => h) (Or.inl ⟨by rfl, ?_⟩) (by assumption) ?_
          rotate_left
          · (intro w hSw; (try dsimp only at hSw); first | (go_simp; done) | (go_simp; with_reducible rfl))
          try simp only [Act.put, List.setIfInBounds_toArray, List.set_cons_zero, List.set_cons_succ]
          refine wpAnyH_take (i := 2) (v := ?_) (by (simp only [List.getElem?_toArray, List.getElem?_cons_zero, List.getElem?_cons_succ]; exact rfl)) (by kernel_rfl) (by kernel_rfl) (by kernel_rfl) (by exact fun _ _ _ h => h) (Or.inl ⟨by rfl, ?_⟩) (by assumption) ?_
          rotate_left
          · (intro w hSw; (try dsimp only at hSw); first | (go_simp; done) | (go_simp; with_reducible rfl))
          try simp only [Act.put, List.setIfInBounds_toArray, List.set_cons_zero, List.set_cons_succ]
          refine wpAnyH_take (i := 3) (v := ?_) (by (simp only [List.getElem?_toArray, List.getElem?_cons_zero, List.getElem?_cons_succ]; exact rfl)) (by kernel_rfl) (by kernel_rfl) (by kernel_rfl) (by exact fun _ _ _ h => h) (Or.inl ⟨by rfl, ?_⟩) (by assumption) ?_
          rotate_left
          · (intro w hSw; (try dsimp only at hSw); first | (go_simp; done) | (go_simp; with_reducible rfl))
          try simp only [Act.put, List.setIfInBounds_toArray, List.set_cons_zero, List.set_cons_succ]
          refine wpAnyH_take (i := 4) (v := ?_) (by (simp only [List.getElem?_toArray, List.getElem?_cons_zero, List.getElem?_cons_succ]; exact rfl)) (by kernel_rfl) (by kernel_rfl) (by kernel_rfl) (by exact fun _ _ _ h => h) (Or.inl ⟨by rfl, ?_⟩) (by assumption) ?_
          rotate_left
          · (intro w hSw; (try dsimp only at hSw); first | (go_simp; done) | (go_simp; with_reducible rfl))
          try simp only [Act.put, List.setIfInBounds_toArray, List.set_cons_zero, List.set_cons_succ]
          refine wpAnyH_take (i := 5) (v := ?_) (by (simp only [List.getElem?_toArray, List.getElem?_cons_zero, List.getElem?_cons_succ]; exact rfl)) (by kernel_rfl) (by kernel_rfl) (by kernel_rfl) (by exact fun _ _ _ h => h) (Or.inl ⟨by rfl, ?_⟩) (by assumption) ?_
          rotate_left
          · (intro w hSw; (try dsimp only at hSw); first | (go_simp; done) | (go_simp; with_reducible rfl))
          try simp only [Act.put, List.setIfInBounds_toArray, List.set_cons_zero, List.set_cons_succ]
          refine wpAnyH_take (i := 6) (v := ?_) (by (simp only [List.getElem?_toArray, List.getElem?_cons_zero, List.getElem?_cons_succ]; exact rfl)) (by kernel_rfl) (by kernel_rfl) (by kernel_rfl) (by exact fun _ _ _ h => h) (Or.inl ⟨by rfl, ?_⟩) (by assumption) ?_
          rotate_left
          · (intro w hSw; (try dsimp only at hSw); first | (go_simp; done) | (go_simp; with_reducible rfl))
          try simp only [Act.put, List.setIfInBounds_toArray, List.set_cons_zero, List.set_cons_succ]
          refine wpAnyH_take (i := 7) (v := ?_) (by (simp only [List.getElem?_toArray, List.getElem?_cons_zero, List.getElem?_cons_succ]; exact rfl)) (by kernel_rfl) (by kernel_rfl) (by kernel_rfl) (by exact fun _ _ _ h => h) (Or.inl ⟨by rfl, ?_⟩) (by assumption) ?_
          rotate_left
          · (intro w hSw; (try dsimp only at hSw); first | (go_simp; done) | (go_simp; with_reducible rfl))
          try simp only [Act.put, List.setIfInBounds_toArray, List.set_cons_zero, List.set_cons_succ]
          refine wpAnyH_take (i := 8) (v := undef) (by (simp only [List.getElem?_toArray, List.getElem?_cons_zero, List.getElem?_cons_succ]; exact rfl)) (by kernel_rfl) (by kernel_rfl) (by kernel_rfl) (by exact fun _ _ _ h => h) (Or.inr ⟨by rfl, rfl⟩) (by assumption) ?_
          try simp only [Act.put, List.setIfInBounds_toArray, List.set_cons_zero, List.set_cons_succ]
          refine wpAnyH_take (i := 9) (v := undef) (by (simp only [List.getElem?_toArray, List.getElem?_cons_zero, List.getElem?_cons_succ]; exact rfl)) (by kernel_rfl) (by kernel_rfl) (by kernel_rfl) (by exact fun _ _ _ h => h) (Or.inr ⟨by rfl, rfl⟩) (by assumption) ?_
          try simp only [Act.put, List.setIfInBounds_toArray, List.set_cons_zero, List.set_cons_succ]
          refine wpAnyH_take (i := 10) (v := undef) (by (simp only [List.getElem?_toArray, List.getElem?_cons_zero, List.getElem?_cons_succ]; exact rfl)) (by kernel_rfl) (by kernel_rfl) (by kernel_rfl) (by exact fun _ _ _ h => h) (Or.inr ⟨by rfl, rfl⟩) (by assumption) ?_
          try simp only [Act.put, List.setIfInBounds_toArray, List.set_cons_zero, List.set_cons_succ]
          refine wpAnyH_take (i := 11) (v := undef) (by (simp only [List.getElem?_toArray, List.getElem?_cons_zero, List.getElem?_cons_succ]; exact rfl)) (by kernel_rfl) (by kernel_rfl) (by kernel_rfl) (by exact fun _ _ _ h => h) (Or.inr ⟨by rfl, rfl⟩) (by assumption) ?_
          try simp only [Act.put, List.setIfInBounds_toArray, List.set_cons_zero, List.set_cons_succ]
          refine wpAnyH_take (i := 12) (v := undef) (by (simp only [List.getElem?_toArray, List.getElem?_cons_zero, List.getElem?_cons_succ]; exact rfl)) (by kernel_rfl) (by kernel_rfl) (by kernel_rfl) (by exact fun _ _ _ h => h) (Or.inr ⟨by rfl, rfl⟩) (by assumption) ?_
          try simp only [Act.put, List.setIfInBounds_toArray, List.set_cons_zero, List.set_cons_succ]
          refine wpAnyH_take (i := 13) (v := undef) (by (simp only [List.getElem?_toArray, List.getElem?_cons_zero, List.getElem?_cons_succ]; exact rfl)) (by kernel_rfl) (by kernel_rfl) (by kernel_rfl) (by exact fun _ _ _ h => h) (Or.inr ⟨by rfl, rfl⟩) (by assumption) ?_
          try simp only [Act.put, List.setIfInBounds_toArray, List.set_cons_zero, List.set_cons_succ]
          refine wpAnyH_take (i := 14) (v := undef) (by (simp only [List.getElem?_toArray, List.getElem?_cons_zero, List.getElem?_cons_succ]; exact rfl)) (by kernel_rfl) (by kernel_rfl) (by kernel_rfl) (by exact fun _ _ _ h => h) (Or.inr ⟨by rfl, rfl⟩) (by assumption) ?_
          try simp only [Act.put, List.setIfInBounds_toArray, List.set_cons_zero, List.set_cons_succ]
          refine wpAnyH_take (i := 15) (v := undef) (by (simp only [List.getElem?_toArray, List.getElem?_cons_zero, List.getElem?_cons_succ]; exact rfl)) (by kernel_rfl) (by kernel_rfl) (by kernel_rfl) (by exact fun _ _ _ h => h) (Or.inr ⟨by rfl, rfl⟩) (by assumption) ?_
          try simp only [Act.put, List.setIfInBounds_toArray, List.set_cons_zero, List.set_cons_succ]
          refine wpAnyH_take (i := 16) (v := undef) (by (simp only [List.getElem?_toArray, List.getElem?_cons_zero, List.getElem?_cons_succ]; exact rfl)) (by kernel_rfl) (by kernel_rfl) (by kernel_rfl) (by exact fun _ _ _ h => h) (Or.inr ⟨by rfl, rfl⟩) (by assumption) ?_
          try simp only [Act.put, List.setIfInBounds_toArray, List.set_cons_zero, List.set_cons_succ]
          refine wpAnyH_take (i := 17) (v := undef) (by (simp only [List.getElem?_toArray, List.getElem?_cons_zero, List.getElem?_cons_succ]; exact rfl)) (by kernel_rfl) (by kernel_rfl) (by kernel_rfl) (by exact fun _ _ _ h => h) (Or.inr ⟨by rfl, rfl⟩) (by assumption) ?_
          try simp only [Act.put, List.setIfInBounds_toArray, List.set_cons_zero, List.set_cons_succ]
          refine wpAnyH_take (i := 18) (v := undef) (by (simp only [List.getElem?_toArray, List.getElem?_cons_zero, List.getElem?_cons_succ]; exact rfl)) (by kernel_rfl) (by kernel_rfl) (by kernel_rfl) (by exact fun _ _ _ h => h) (Or.inr ⟨by rfl, rfl⟩) (by assumption) ?_
          try simp only [Act.put, List.setIfInBounds_toArray, List.set_cons_zero, List.set_cons_succ]
          refine wpAnyH_take (i := 19) (v := undef) (by (simp only [List.getElem?_toArray, List.getElem?_cons_zero, List.getElem?_cons_succ]; exact rfl)) (by kernel_rfl) (by kernel_rfl) (by kernel_rfl) (by exact fun _ _ _ h => h) (Or.inr ⟨by rfl, rfl⟩) (by assumption) ?_
          try simp only [Act.put, List.setIfInBounds_toArray, List.set_cons_zero, List.set_cons_succ]
          refine wpAnyH_take (i := 20) (v := undef) (by (simp only [List.getElem?_toArray, List.getElem?_cons_zero, List.getElem?_cons_succ]; exact rfl)) (by kernel_rfl) (by kernel_rfl) (by kernel_rfl) (by exact fun _ _ _ h => h) (Or.inr ⟨by rfl, rfl⟩) (by assumption) ?_
          try simp only [Act.put, List.setIfInBounds_toArray, List.set_cons_zero, List.set_cons_succ]
          refine wpAnyH_take (i := 21) (v := undef) (by (simp only [List.getElem?_toArray, List.getElem?_cons_zero, List.getElem?_cons_succ]; exact rfl)) (by kernel_rfl) (by kernel_rfl) (by kernel_rfl) (by exact fun _ _ _ h => h) (Or.inr ⟨by rfl, rfl⟩) (by assumption) ?_
          try simp only [Act.put, List.setIfInBounds_toArray, List.set_cons_zero, List.set_cons_succ]
          refine wpAnyH_take (i := 22) (v := undef) (by (simp only [List.getElem?_toArray, List.getElem?_cons_zero, List.getElem?_cons_succ]; exact rfl)) (by kernel_rfl) (by kernel_rfl) (by kernel_rfl) (by exact fun _ _ _ h => h) (Or.inr ⟨by rfl, rfl⟩) (by assumption) ?_
          try simp only [Act.put, List.setIfInBounds_toArray, List.set_cons_zero, List.set_cons_succ]
          refine wpAnyH_take (i := 23) (v := ?_) (by (simp only [List.getElem?_toArray, List.getElem?_cons_zero, List.getElem?_cons_succ]; exact rfl)) (by kernel_rfl) (by kernel_rfl) (by kernel_rfl) (by exact fun _ _ _ h => h) (Or.inl ⟨by rfl, ?_⟩) (by assumption) ?_
          rotate_left
          · (intro w hSw; (try dsimp only at hSw); first | (go_simp; done) | (go_simp; with_reducible rfl))
          try simp only [Act.put, List.setIfInBounds_toArray, List.set_cons_zero, List.set_cons_succ]
          refine wpAnyH_done (by kernel_rfl) ?_ _
          /- the region: end -/
          go_wp2
          go_roundw
          case rel => exact ⟨i + 1, m + 1, by rw [NB.out], by go_num, N1.out, J.out⟩
          case measure => simp [intOf]; omega
end Go.Proofs.Ytlfbenlojiiknaa
