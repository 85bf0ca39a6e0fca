/- Layer 13 (heap), the program's own: first, down, settle. -/
import Derived.Test.YtbfmmeapjfljbaaHpE
set_option maxRecDepth 100000
namespace Go.Proofs.Ytbfmmeapjfljbaa
open Go.ChangeShapes Go.WideShapes Go.ChangeAt Go.RowKit Go.Maps HeapM

theorem bestF_stop (l : List It) (k : Nat) {i : Nat} (h : l.length ≤ 4 * k + 1 + i) : ∀ d, bestF l k (i + d) = bestF l k i
  | 0 => rfl
  | d + 1 => by
    show (if 4 * k + 1 + (i + d) < l.length ∧ _ then _ else bestF l k (i + d)) = _
    rw [if_neg (fun g => by have := g.1; omega)]
    exact bestF_stop l k h d

set_option maxHeartbeats 4000000 in
theorem pfirst13 (w : World) (N b c sz : Nat) (a : Addr) (l : List It) (k : Nat) (h : PHp w N b (some a) c sz l) (hk : k < l.length) :
    Calls Try.prog 43 #[.pointer (some ⟨N, 0, none⟩), .int .i64 (k : Nat)] w fun e w' => e = .returned (.int .i64 (best l k : Nat)) ∧ Below w.heap.size w w' := by
  have F : Hid (∀ r w', r = best l k → Below w.heap.size w w' → Ending.returned (.int .i64 (r : Nat)) = .returned (.int .i64 (best l k : Nat)) ∧ Below w.heap.size w w') := fun r w' e l => ⟨by rw [e], l⟩
  have HH := Lib.hid h
  obtain ⟨n, hn⟩ : ∃ n, l.length = n := ⟨_, rfl⟩
  have fit := h.fit
  have HN := Lib.hid hn
  rw [hn] at fit
  have nb : (n : Int) ≤ 1048576 := by omega
  have kn : (k : Int) < (n : Int) := by omega
  have AH := Lib.hid pahead13_any
  have HK := Lib.hid hk
  obtain ⟨g, hg⟩ : ∃ g, 4 * k + 1 = g := ⟨_, rfl⟩
  obtain ⟨e, he⟩ : ∃ e, min (g + 4) n = e := ⟨_, rfl⟩
  obtain ⟨u, hu⟩ : ∃ u, (k : Int) * 4 = u := ⟨_, rfl⟩
  have w1 : wrap64 u = u := by unfold wrap64; omega
  have w2 : IntKind.i64.wrap u = u := by rw [IntKind.wrap_i64]; omega
  have ug : u + 1 = (g : Int) := by omega
  have w3 : wrap64 (g : Int) = (g : Int) := by unfold wrap64; omega
  have w4 : IntKind.i64.wrap (g : Int) = (g : Int) := by rw [IntKind.wrap_i64]; omega
  obtain ⟨t, ht⟩ : ∃ t, (g : Int) + 4 = t := ⟨_, rfl⟩
  have w5 : wrap64 t = t := by unfold wrap64; omega
  have w6 : IntKind.i64.wrap t = t := by rw [IntKind.wrap_i64]; omega
  have me : min t (n : Int) = (e : Int) := by omega
  have me2 : (if (n : Int) < t then (n : Int) else t) = (e : Int) := by split <;> omega
  have E := Lib.hid he
  have G := Lib.hid hg
  clear h hk hn fit he hg
  go_enter Try.func43, Try.ntmps43
  go_wp2
  go_loopw [5, 7] (fun ff cc wr => ∃ (i f : Nat), cc = .int .i64 (g + i : Nat) ∧ ff = .int .i64 (f : Nat) ∧ Hid (f = bestF l k i ∧ i ≤ 4) ∧ Hid (Below w.heap.size w wr)) (fun _ cc _ => (2000000000 - intOf cc).toNat)
  case atStart => exact ⟨0, k, rfl, rfl, ⟨rfl, by decide⟩, Below.refl _ _⟩
  case round =>
    obtain ⟨i, f, rfl, rfl, hi, low⟩ := hrel
    obtain ⟨j, hj⟩ : ∃ j, g + i = j := ⟨_, rfl⟩
    have J := Lib.hid hj
    rw [hj]
    have jb : (j : Int) ≤ 4194310 := by have := hi.out.2; have := G.out; omega
    have c1 := (HH.out.below low.out).c1
    rw [HN.out] at c1
    clear hj
    by_cases z : j < e
    · have z1 : (j : Int) < (e : Int) := by omega
      have z2 : decide ((j : Int) < (e : Int)) = true := decide_eq_true z1
      have jn : (j : Int) < (n : Int) := by have := E.out; omega
      have j0 : (0 : Int) ≤ (j : Int) := by omega
      have i4 : Hid (i + 1 ≤ 4) := by have := E.out; have := J.out; unfold Hid; omega
      have JL : Hid (j < l.length) := by have := HN.out; unfold Hid; omega
      have FL : Hid (f < l.length) := by
        unfold Hid
        rcases bestF_in l k i with e | ⟨-, -, e⟩
        · rw [hi.out.1, e]; exact HK.out
        · rw [hi.out.1]; exact e
      have fn : (f : Int) < (n : Int) := by have := FL.out; have := HN.out; omega
      have f0 : (0 : Int) ≤ (f : Int) := by omega
      obtain ⟨x, hx⟩ : ∃ x, gt l j = x := ⟨_, rfl⟩
      obtain ⟨y, hy⟩ : ∃ y, gt l f = y := ⟨_, rfl⟩
      have XY : Hid (gt l j = x ∧ gt l f = y) := ⟨hx, hy⟩
      have KC : Hid (∀ w', Below wr.heap.size wr w' → PpC N n c a j f x y w') := fun w' b => by
        have r := ((HH.out.below low.out).below b).two JL.out FL.out
        rw [hx, hy, HN.out] at r
        exact r
      obtain ⟨d, hd⟩ : ∃ d, ahd x y = d := ⟨_, rfl⟩
      have HD := Lib.hid hd
      have AA : Hid (∀ w', Below wr.heap.size wr w' → Calls Try.prog 29 #[itV x, itV y] w' fun e w'' => e = .returned (.bool d) ∧ Below wr.heap.size wr w'') := fun w' b => (AH.out w' x y).mono fun e w'' ⟨e1, l1⟩ => ⟨by rw [e1, hd], b.trans (l1.mono b.size)⟩
      have NX : Hid (bestF l k (i + 1) = if d = true then j else f) := by
        unfold Hid
        show (if 4 * k + 1 + i < l.length ∧ ahd (gt l (4 * k + 1 + i)) (gt l (bestF l k i)) = true then 4 * k + 1 + i else bestF l k i) = _
        rw [← hi.out.1, show 4 * k + 1 + i = j by have := J.out; have := G.out; omega, hx, hy, hd]
        cases d
        · rw [if_neg (fun h => by cases h.2), if_neg (by decide)]
        · rw [if_pos ⟨JL.out, rfl⟩, if_pos rfl]
      have J1 : Hid (g + (i + 1) = j + 1) := by have := J.out; unfold Hid; omega
      obtain ⟨xi, xs, xt⟩ := x
      obtain ⟨yi, ys, yt⟩ := y
      unfold itV at AA
      unfold PpC at KC
      dsimp only at AA KC
      have HB0 : Below wr.heap.size wr wr := Below.refl _ _
      obtain ⟨v, hv⟩ : ∃ v, (j : Int) + 1 = v := ⟨_, rfl⟩
      have v1 : wrap64 v = v := by unfold wrap64; omega
      have v2 : IntKind.i64.wrap v = v := by rw [IntKind.wrap_i64]; omega
      have vj : Hid (v = ((g + (i + 1) : Nat) : Int)) := by have := J1.out; unfold Hid; omega
      have VB : Hid ((2000000000 - v).toNat < (2000000000 - (j : Int)).toNat) := by unfold Hid; omega
      have VE := Lib.hid hv
      clear z hx hy hd AH hv
      go_wp2_with fail
      go_region_held3 (fun w' => w'.cell? ⟨N, 1, none⟩ = some (.slice (some a) n c) ∧ w'.cell? (a.add (j * 3)) = some (.int .u64 (xi : Nat)) ∧ w'.cell? ⟨(a.add (j * 3)).block, (a.add (j * 3)).off + 1, none⟩ = some (.int .u64 (xs : Nat)) ∧ w'.cell? ⟨(a.add (j * 3)).block, (a.add (j * 3)).off + 2, none⟩ = some (.int .i64 xt) ∧
          w'.cell? (a.add (f * 3)) = some (.int .u64 (yi : Nat)) ∧ w'.cell? ⟨(a.add (f * 3)).block, (a.add (f * 3)).off + 1, none⟩ = some (.int .u64 (ys : Nat)) ∧ w'.cell? ⟨(a.add (f * 3)).block, (a.add (f * 3)).off + 2, none⟩ = some (.int .i64 yt))
        (first | exact KC.out _ HB0 | exact KC.out _ HB0.drew)
        (first
          | (go_at_call 29; refine (AA.out _ (by first | exact HB0 | exact HB0.drew)).mono ?_; rintro e w5 ⟨rfl, HB0⟩))
      have L5 := Lib.hid (low.out.trans (HB0.mono low.out.size))
      clear HB0 AA KC c1 low
      have hv := VE.out
      clear VE
      cases d
      · go_wp2
        go_roundw
        case rel => exact ⟨i + 1, f, by rw [vj.out], rfl, ⟨NX.out.symm, i4.out⟩, L5.out⟩
        case measure => simp only [intOf]; exact VB.out
      · go_wp2
        go_roundw
        case rel => exact ⟨i + 1, j, by rw [vj.out], rfl, ⟨NX.out.symm, i4.out⟩, L5.out⟩
        case measure => simp only [intOf]; exact VB.out
    · have z1 : ¬ (j : Int) < (e : Int) := by omega
      have z2 : decide ((j : Int) < (e : Int)) = false := decide_eq_false z1
      have FF : Hid (Ending.returned (.int .i64 (f : Nat)) = .returned (.int .i64 (best l k : Nat)) ∧ Below w.heap.size w wr) := by
        refine F.out f wr ?_ low.out
        rw [hi.out.1]
        unfold best
        have i4 := hi.out.2
        by_cases q : i = 4
        · rw [q]
        · have := bestF_stop l k (i := i) (by have := E.out; have := J.out; have := G.out; have := HN.out; omega) (4 - i)
          rw [← this, show i + (4 - i) = 4 by omega]
      clear z hi low F AH HH
      go_wp2
      go_ret
      exact FF.out

/-- While an item goes down. -/
structure PDnS (w wr : World) (N b c sz : Nat) (a : Addr) (B : Nat) (l : List It) (k : Nat) (l' : List It) (k' : Nat) : Prop where
  q : PQ w N b (some a) c sz l' wr
  bx : ExB wr B N
  far : ¬ HF N b (some a) B
  len : l'.length = l.length
  kl : k' < l.length
  res : downL l' k' = downL l k

set_option maxHeartbeats 4000000 in
theorem pdown13 (w : World) (N b c sz : Nat) (a : Addr) (l : List It) (k : Nat) (h : PHp w N b (some a) c sz l) (hk : k < l.length) :
    Calls Try.prog 40 #[.pointer (some ⟨N, 0, none⟩), .int .i64 (k : Nat)] w fun e w' => e = .returned (.tuple #[]) ∧ PQ w N b (some a) c sz (downL l k) w' := by
  have HH := Lib.hid h
  have LT := Lib.hid h.lt
  have HK := Lib.hid hk
  have nb : (l.length : Int) ≤ 1048576 := by have := h.fit; omega
  have NB := Lib.hid nb
  clear h hk nb
  go_enter Try.func40, Try.ntmps40
  go_wp2_with fail
  refine (pexchange13 w N).mono ?_; rintro e w1 ⟨B, rfl, hB, lB, l1⟩
  have I0 : Hid (PDnS w w1 N b c sz a B l k l k) := ⟨⟨HH.out.below l1, FT.of_below l1⟩, hB, fun f => absurd (LT.out B f) (by omega), rfl, HK.out, rfl⟩
  clear hB lB l1 LT
  unfold ExF
  go_wp2_with fail
  go_loopw [1] (fun kk wr => ∃ (k' : Nat) (l' : List It), kk = .int .i64 (k' : Nat) ∧ Hid (PDnS w wr N b c sz a B l k l' k')) (fun kk _ => (2000000000 - intOf kk).toNat)
  case atStart => exact ⟨k, l, rfl, I0.out⟩
  case round =>
    clear I0
    obtain ⟨j, l', rfl, I⟩ := hrel
    have JL : Hid (j < l'.length) := by have := I.out.kl; have := I.out.len; unfold Hid; omega
    have FS := Lib.hid (pfirst13 wr N b c sz a l' j I.out.q.1 JL.out)
    obtain ⟨q, hq⟩ : ∃ q, best l' j = q := ⟨_, rfl⟩
    rw [hq] at FS
    have HQ := Lib.hid hq
    have BI := Lib.hid (best_in l' j)
    rw [hq] at BI
    clear hq
    by_cases z : q = j
    · subst z
      have F : Hid (∀ w', Below wr.heap.size wr w' → (PQ w N b (some a) c sz (downL l k) w')) := fun w' b => by
        have r := I.out.res
        rw [downL_stop HQ.out] at r
        rw [← r]
        exact I.out.q.below b
      clear I HQ BI JL
      go_wp2_with (go_at_call 43; refine FS.out.mono ?_; rintro e w5 ⟨rfl, L5⟩; replace F := Lib.hid (F.out _ L5); clear L5 FS)
      refine bodyPost_ret (results_none rfl _ _ _) rfl ?_
      exact ⟨rfl, F.out⟩
    · have z1 : ((q : Int) == (j : Int)) = false := by rw [beq_eq_false_iff_ne]; omega
      have z2 : (q == j) = false := by rw [beq_eq_false_iff_ne]; exact z
      have z3 : ¬ (q : Int) = (j : Int) := by omega
      have QL : Hid (j < q ∧ q < l'.length) := by
        rcases BI.out with e | ⟨e1, e2, e3⟩
        · exact absurd e z
        · exact ⟨by omega, e3⟩
      have NS : Hid (∀ w', Below wr.heap.size wr w' → ExB w' B N ∧ PHp w' N b (some a) c sz l' ∧ ∀ w'', PQ w' N b (some a) c sz (sw l' j q) w'' → PDnS w w'' N b c sz a B l k (sw l' j q) q) := fun w' bl => by
        have q5 := I.out.q.below bl
        have x5 := I.out.bx.below bl
        refine ⟨x5, q5.1, fun w'' Q => ⟨q5.next Q, (Q.2.keep B I.out.far (Array.getElem?_eq_some_iff.1 x5).1).trans x5, I.out.far, by rw [sw_len]; exact I.out.len, by have := QL.out.2; have := I.out.len; omega, ?_⟩⟩
        rw [← I.out.res, downL_go (l := l') (k := j) (by rw [HQ.out]; exact z), HQ.out]
      have FB := Lib.hid I.out.far
      have VB : Hid ((2000000000 - (q : Int)).toNat < (2000000000 - (j : Int)).toNat) := by have := NB.out; have := I.out.len; have := QL.out; unfold Hid; omega
      clear I HQ BI z
      go_wp2_with (first | (go_at_call 43; refine FS.out.mono ?_; rintro e w5 ⟨rfl, L5⟩; replace NS := Lib.hid (NS.out _ L5); clear L5 FS) | (go_at_call 36; refine (pswap13 _ N b c sz a l' B j q NS.out.2.1 NS.out.1 FB.out JL.out QL.out.2).mono ?_; rintro e w7 ⟨rfl, Q7⟩; replace NS := Lib.hid (NS.out.2.2 _ Q7); clear Q7))
      go_roundw
      case rel => exact ⟨q, sw l' j q, rfl, NS.out⟩
      case measure => simp only [intOf]; exact VB.out

set_option maxHeartbeats 4000000 in
theorem psettle13 (w : World) (N b c sz : Nat) (a : Addr) (l : List It) (k : Nat) (h : PHp w N b (some a) c sz l) (hk : k < l.length) :
    Calls Try.prog 35 #[.pointer (some ⟨N, 0, none⟩), .int .i64 (k : Nat)] w fun e w' => e = .returned (.tuple #[]) ∧ PQ w N b (some a) c sz (settleL l k) w' := by
  have UP := Lib.hid (pup13 w N b c sz a l k h hk)
  obtain ⟨g, hg⟩ : ∃ g, upB l k = g := ⟨_, rfl⟩
  have HG := Lib.hid hg
  have HK := Lib.hid hk
  rw [hg] at UP
  clear h hk hg
  cases g
  · have SL : Hid (settleL l k = downL l k) := by unfold Hid settleL; rw [HG.out, if_neg (by decide)]
    have UE : Hid (upL l k = l) := upL_stay HG.out
    rw [UE.out] at UP
    go_enter Try.func35, Try.ntmps35
    go_wp2_with (first | (go_at_call 23; refine UP.out.mono ?_; rintro e w5 ⟨rfl, Q5⟩; have Q5 := Lib.hid Q5) | (go_at_call 40; refine (pdown13 _ N b c sz a l k Q5.out.1 HK.out).mono ?_; rintro e w6 ⟨rfl, Q6⟩; have Q6 := Lib.hid (Q5.out.next Q6)))
    go_end0
    rw [SL.out]
    exact ⟨rfl, Q6.out⟩
  · have SL : Hid (settleL l k = upL l k) := by unfold Hid settleL; rw [HG.out, if_pos rfl]
    go_enter Try.func35, Try.ntmps35
    go_wp2_with (go_at_call 23; refine UP.out.mono ?_; rintro e w5 ⟨rfl, Q5⟩; have Q5 := Lib.hid Q5)
    go_end0
    rw [SL.out]
    exact ⟨rfl, Q5.out⟩
end Go.Proofs.Ytbfmmeapjfljbaa

