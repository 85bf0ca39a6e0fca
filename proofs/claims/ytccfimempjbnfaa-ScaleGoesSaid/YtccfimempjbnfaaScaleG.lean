/- Layer 10 (scale): the document's own: Total, To. -/
import Derived.Test.YtccfimempjbnfaaScaleF
set_option maxRecDepth 100000
namespace Go.Proofs.Ytccfimempjbnfaa
open Go.ChangeShapes Go.WideShapes Go.ChangeAt Go.RowKit ScaleM BigM

/-- What a total is made of. -/
structure TotQ (h n q : Nat) : Prop where
  e : n * 1000000000 / h = q
  t : totT h n = min q 4611686018427387904
theorem totQ_of (h n : Nat) : TotQ h n (n * 1000000000 / h) := ⟨rfl, rfl⟩

set_option maxHeartbeats 4000000 in
theorem rtotal10_any (w : World) (M h n : Nat) (c : RSc w M h n) (h0 : 0 < h) (h1 : h ≤ 1000000000000) (hn : n < 1180591620717411303424) :
    Calls Try.prog 17 #[.pointer (some ⟨M, 0, none⟩)] w fun r w' => r = .returned (.int .i64 (totT h n : Nat)) ∧ Below w.heap.size w w' := by
  obtain ⟨p, k, cc, hM, gM⟩ := c
  obtain ⟨P, hP⟩ : ∃ P, n * 1000000000 = P := ⟨_, rfl⟩
  have TQ := Lib.hid (totQ_of h n)
  have hP7 : P < 5192296858534827628530496329220096 := by omega
  have OB : Hid (∀ w', Below w.heap.size w w' → Calls Try.prog 26 #[.int .i64 1000000000] w' fun e w'' => ∃ y, e = .returned y ∧ BigIs w'' y false 1000000000 4 ∧ Below w.heap.size w w'' ∧ (∀ (M : Nat) (o : Obj), w'.heap[M]? = some o → w''.heap[M]? = some o)) := fun w' l =>
    (of10_any w' 1000000000 (by decide)).mono fun e w'' ⟨y, a, g, b⟩ => ⟨y, a, g, l.trans (b.mono l.size), fun M o h => (b.block M (Array.getElem?_eq_some_iff.1 h).1).trans h⟩
  have TM : Hid (∀ w' y, Below w.heap.size w w' → BigIs w' y false 1000000000 4 → Calls Try.prog 25 #[.agg #[.bool false, .slice p k cc], y] w' fun e w'' => ∃ p' k' c', e = .returned (.agg #[.bool false, .slice p' k' c']) ∧ BigIs w'' (.agg #[.bool false, .slice p' k' c']) false P 7 ∧ Below w.heap.size w w'' ∧ (∀ (M : Nat) (o : Obj), w'.heap[M]? = some o → w''.heap[M]? = some o)) := fun w' y l gy => by
    refine (times10_any w' _ y n 1000000000 P 5 4 7 (gM.below l) gy (by decide) (by decide) hP 5192296858534827628530496329220096 (by decide +kernel) hP7).mono ?_
    rintro e w'' ⟨z, rfl, g, b⟩
    obtain ⟨p', k', c', rfl⟩ := g.slice
    exact ⟨p', k', c', rfl, g, l.trans (b.mono l.size), fun M o h => (b.block M (Array.getElem?_eq_some_iff.1 h).1).trans h⟩
  have OH : Hid (∀ (V w' : World), Below V.heap.size V w' → Calls Try.prog 26 #[.int .i64 (h : Nat)] w' fun e w'' => ∃ p' k' c', e = .returned (.agg #[.bool false, .slice p' k' c']) ∧ BigIs w'' (.agg #[.bool false, .slice p' k' c']) false h 4 ∧ Below V.heap.size V w'') := fun V w' l => by
    refine (of10_any w' h (by omega)).mono ?_
    rintro e w'' ⟨z, rfl, g, b⟩
    obtain ⟨p', k', c', rfl⟩ := g.slice
    exact ⟨p', k', c', rfl, g, l.trans (b.mono l.size)⟩
  have KM : Hid (∀ w', Below w.heap.size w w' → w'.cell? ⟨M, 1, none⟩ = some (.bool false) ∧ w'.cell? ⟨M, 2, none⟩ = some (.slice p k cc) ∧ w'.cell? ⟨M, 0, none⟩ = some (.int .i64 (h : Nat))) := fun w' b => by
    have e := (b.block _ (Array.getElem?_eq_some_iff.1 hM).1).trans hM
    exact ⟨blk_cell e, blk_cell e, blk_cell e⟩
  have H0 := Lib.hid h0
  have HB0 : Below w.heap.size w w := Below.refl _ _
  rw [show n * 1000000000 = P from hP] at TQ
  clear gM hM hP hP7 hn h0 h1
  go_enter Try.func17, Try.ntmps17
  go_upto_region 1 with (fail)
  go_cut [3] (fun o wx => ∃ N p k c, o = .pointer (some ⟨N, 0, none⟩) ∧ Hid (wx.heap[N]? = some (.cells #[.bool false, .slice p k c] 44 (0, 0)) ∧ BigIs wx (.agg #[.bool false, .slice p k c]) false P 7 ∧ Below w.heap.size w wx))
  case first =>
    go_wp2_with fail
    go_region_held3 (fun w' => w'.cell? ⟨M, 1, none⟩ = some (.bool false) ∧ w'.cell? ⟨M, 2, none⟩ = some (.slice p k cc))
      (first | exact ⟨(KM.out _ HB0).1, (KM.out _ HB0).2.1⟩ | exact ⟨(KM.out _ HB0.drew).1, (KM.out _ HB0.drew).2.1⟩ | exact ⟨(KM.out _ (HB0.alloc HB0.size _)).1, (KM.out _ (HB0.alloc HB0.size _)).2.1⟩ | exact ⟨(KM.out _ (HB0.alloc HB0.size _).drew).1, (KM.out _ (HB0.alloc HB0.size _).drew).2.1⟩ | exact ⟨(KM.out _ ((HB0.setCell (Nat.le_refl _) _).setCell (Nat.le_refl _) _)).1, (KM.out _ ((HB0.setCell (Nat.le_refl _) _).setCell (Nat.le_refl _) _)).2.1⟩ | exact ⟨(KM.out _ ((HB0.setCell HS _).setCell HS _)).1, (KM.out _ ((HB0.setCell HS _).setCell HS _)).2.1⟩)
      (first
        | (go_at_call 26; refine (OB.out _ (by first | exact HB0 | exact HB0.drew | exact HB0.alloc HB0.size _ | exact (HB0.alloc HB0.size _).drew)).mono ?_; rintro e w4 ⟨y, rfl, gy, HB0, kp⟩; have HS := HB0.size; try (have KA : w4.heap[w.heap.size]? = some (.cells #[.bool false, .slice none 0 0] 44 (0, 0)) := kp _ _ (heap_alloc_new _ _)))
        | (go_at_call 25; refine (TM.out _ y (by first | exact HB0 | exact HB0.drew | exact HB0.alloc HB0.size _ | exact (HB0.alloc HB0.size _).drew) (by first | exact gy | exact gy.below ((Below.refl _ _).alloc (Nat.le_refl _) _) | exact gy.below ((Below.refl _ _).alloc (Nat.le_refl _) _).drew)).mono ?_; rintro e w5 ⟨p5, k5, c5, rfl, g5, HB0, kp⟩; try (first | have KA := kp _ _ KA | have KA : w5.heap[w4.heap.size]? = some (.cells #[.bool false, .slice none 0 0] 44 (0, 0)) := kp _ _ (heap_alloc_new _ _)); try (have F0 := blk_free (o := 0) KA; have F1 := blk_free (o := 1) KA; have C0 := blk_cell (o := 0) KA; have C1 := blk_cell (o := 1) KA)))
    all_goals
      go_wp2_with fail
      go_meet
      first
        | exact ⟨_, p5, k5, c5, rfl, heap_alloc_new _ _, g5.below ((Below.refl _ _).alloc (Nat.le_refl _) _), HB0.alloc HB0.size _⟩
        | exact ⟨_, p5, k5, c5, rfl, two_set KA _ _, (g5.set KA (by decide) _).set (set_block KA) (by decide) _, (HB0.setCell (Nat.le_refl _) _).setCell (Nat.le_refl _) _⟩
        | exact ⟨_, p5, k5, c5, rfl, two_set KA _ _, (g5.set KA (by decide) _).set (set_block KA) (by decide) _, (HB0.setCell HS _).setCell HS _⟩
  case rest =>
  obtain ⟨N, p5, k5, c5, rfl, H⟩ := hcut
  have KN : Hid (∀ w', Below wc.heap.size wc w' → w'.cell? ⟨N, 1, none⟩ = some (.slice p5 k5 c5) ∧ w'.cell? ⟨M, 0, none⟩ = some (.int .i64 (h : Nat))) := fun w' b => by
    have e := (b.block _ (Array.getElem?_eq_some_iff.1 H.out.1).1).trans H.out.1
    exact ⟨blk_cell e, (KM.out w' (H.out.2.2.trans (b.mono H.out.2.2.size))).2.2⟩
  obtain ⟨q, hq⟩ : ∃ q, P / h = q := ⟨_, rfl⟩
  have OV : Hid (∀ w' p2 k2 c2, Below wc.heap.size wc w' → BigIs w' (.agg #[.bool false, .slice p2 k2 c2]) false h 4 → Calls Try.prog 27 #[.slice p5 k5 c5, .slice p2 k2 c2] w' fun e w'' => ∃ p k c vr, e = .returned (.tuple #[.slice p k c, vr]) ∧ BigRaw w'' (.agg #[.bool false, .slice p k c]) false q 7 ∧ Below wc.heap.size wc w'') := fun w' p2 k2 c2 l g => by
    refine (over10_any w' p5 k5 c5 p2 k2 c2 P h 7 4 (H.out.2.1.below l) g (by decide) (by decide) H0.out q hq).mono ?_
    rintro e w'' ⟨p, k, c, vr, rfl, g', b⟩
    exact ⟨p, k, c, vr, rfl, g', l.trans (b.mono l.size)⟩
  have fb := fun (m : Bool) (p : Option Addr) (k c : Nat) (w : World) => field_big m p k c w
  have LW := Lib.hid H.out.2.2
  have HB1 : Below wc.heap.size wc wc := Below.refl _ _
  rw [hq] at TQ
  clear H KM OB TM hq HB0 H0
  go_wp2_with fail
  go_region_held3 (fun w' => w'.cell? ⟨N, 1, none⟩ = some (.slice p5 k5 c5) ∧ w'.cell? ⟨M, 0, none⟩ = some (.int .i64 (h : Nat)))
    (first | exact KN.out _ HB1 | exact KN.out _ HB1.drew)
    (first
      | (go_at_call 26; refine (OH.out wc _ (by first | exact HB1 | exact HB1.drew)).mono ?_; rintro e w6 ⟨p6, k6, c6, rfl, g6, HB1⟩; replace g6 := Lib.hid g6)
      | (go_at_call 27; refine (OV.out _ p6 k6 c6 (by first | exact HB1 | exact HB1.drew) g6.out).mono ?_; rintro e w7 ⟨p7, k7, c7, v7, rfl, g7, HB1⟩; replace g7 := Lib.hid g7))
  have L7 := Lib.hid (LW.out.trans (HB1.mono LW.out.size))
  clear HB1 KN OV LW
  go_wp2_with fail
  refine (Int_any w7 _ false q 7 g7.out (by decide)).mono ?_; rintro e w8 ⟨z, ok, rfl, y1, y2, l8⟩
  have L8 := Lib.hid (L7.out.trans (l8.mono L7.out.size))
  have sgq : sg false q = (q : Int) := rfl
  rw [sgq] at y1 y2
  have Y1 := Lib.hid y1
  have Y2 := Lib.hid y2
  have TT := Lib.hid TQ.out.t
  clear l8 L7 g7 y1 y2 sgq TQ
  cases ok
  · have B := Y2.out rfl
    have E : Hid (totT h n = 4611686018427387904) := by unfold Hid; rw [TT.out]; unfold I64 at B; omega
    clear B Y1 Y2 TT
    go_wp2
    go_ret
    exact ⟨by rw [E.out]; rfl, L8.out⟩
  · obtain ⟨i, rfl⟩ := Y1.out rfl
    clear Y1 Y2
    by_cases f : q ≤ 4611686018427387904
    · have E : Hid (totT h n = q) := by unfold Hid; rw [TT.out]; omega
      have d1 : decide ((4611686018427387904 : Int) < (q : Int)) = false := decide_eq_false (by omega)
      have d2 : (q : Int) ≤ 4611686018427387904 := by omega
      clear i f TT
      go_wp2
      go_ret
      exact ⟨by rw [E.out]; rfl, L8.out⟩
    · have E : Hid (totT h n = 4611686018427387904) := by unfold Hid; rw [TT.out]; omega
      have d1 : decide ((4611686018427387904 : Int) < (q : Int)) = true := decide_eq_true (by omega)
      have d2 : (4611686018427387904 : Int) < (q : Int) := by omega
      clear i f TT
      go_wp2
      go_ret
      exact ⟨by rw [E.out]; rfl, L8.out⟩

def RToP10 (w : World) (M h n d : Nat) (r : Ending) (w' : World) : Prop := r = .returned (.int .i64 (d : Nat)) ∧ RSc w' M h n ∧ Turn M w w'

set_option maxHeartbeats 4000000 in
theorem rto10_any (w : World) (M h n x m d : Nat) (c : RSc w M h n) (h0 : 0 < h) (h1 : h ≤ 1000000000000) (hn : m < 1180591620717411303424) (hx : x < 18446744073709551616) (hm : n + x = m) (hd : totT h n + d = totT h m) :
    Calls Try.prog 15 #[.pointer (some ⟨M, 0, none⟩), .int .u64 (x : Nat)] w (RToP10 w M h m d) := by
  have T1 := Lib.hid (rtotal10_any w M h n c h0 h1 (by omega))
  have T2 := Lib.hid (fun w' c' => rtotal10_any w' M h m c' h0 h1 hn)
  have tl := tot_le h m
  have CR := Lib.hid c
  have WH := Lib.hid (fun w' => rwhole10_any w' x hx)
  have HM := Lib.hid hm
  have hm5 : m < 1208925819614629174706176 := by omega
  have HM5 := Lib.hid hm5
  generalize totT h n = t0 at *
  generalize totT h m = t1 at *
  have D1 : (t1 : Int) - (t0 : Int) = (d : Int) := by omega
  have D2 : IntKind.i64.wrap (d : Int) = (d : Int) := by rw [IntKind.wrap_i64]; omega
  clear c h0 h1 hn hx hm hd tl hm5
  go_enter Try.func15, Try.ntmps15
  go_wp2_with fail
  refine T1.out.mono ?_; rintro e w1 ⟨rfl, l1⟩
  obtain ⟨p, k, cc, hM, gM⟩ := CR.out.below l1
  have TW := Lib.hid (Turn.of_below (N := M) l1)
  have KM : Hid (∀ w', Below w1.heap.size w1 w' → w'.heap[M]? = some (.cells #[.int .i64 (h : Nat), .bool false, .slice p k cc] 46 (0, 0))) := fun w' b => (b.block _ (Array.getElem?_eq_some_iff.1 hM).1).trans hM
  have WB : Hid (∀ w', Below w1.heap.size w1 w' → Calls Try.prog 24 #[.int .u64 (x : Nat)] w' fun e w'' => ∃ y, e = .returned y ∧ BigIs w'' y false x 4 ∧ Below w1.heap.size w1 w'') := fun w' l =>
    (WH.out w').mono fun e w'' ⟨y, a, g, b⟩ => ⟨y, a, g, l.trans (b.mono l.size)⟩
  have PL : Hid (∀ w' y, Below w1.heap.size w1 w' → BigIs w' y false x 4 → Calls Try.prog 23 #[.agg #[.bool false, .slice p k cc], y] w' fun e w'' => ∃ p' k' c', e = .returned (.agg #[.bool false, .slice p' k' c']) ∧ BigIs w'' (.agg #[.bool false, .slice p' k' c']) false m 5 ∧ Below w1.heap.size w1 w'') := fun w' y l gy => by
    refine (plus10_any w' _ y n x m 5 4 5 (gM.below l) gy (by decide) (by decide) HM.out 1208925819614629174706176 (by decide +kernel) HM5.out).mono ?_
    rintro e w'' ⟨z, rfl, g, b⟩
    obtain ⟨p', k', c', rfl⟩ := g.slice
    exact ⟨p', k', c', rfl, g, l.trans (b.mono l.size)⟩
  have FIN : Hid (∀ w' p' k' c', Below w1.heap.size w1 w' → BigIs w' (.agg #[.bool false, .slice p' k' c']) false m 5 → RSc ((w'.setCell ⟨M, 1, none⟩ (.bool false)).setCell ⟨M, 2, none⟩ (.slice p' k' c')) M h m ∧ Turn M w ((w'.setCell ⟨M, 1, none⟩ (.bool false)).setCell ⟨M, 2, none⟩ (.slice p' k' c'))) := fun w' p' k' c' l g =>
    ⟨⟨p', k', c', blk_set (blk_set (KM.out w' l)), (g.set (KM.out w' l) (by decide) _).set (set_block (KM.out w' l)) (by decide) _⟩, (((TW.out.trans (Turn.of_below l)).set (o := 1) _).set (o := 2) _)⟩
  have KC : Hid (∀ w', Below w1.heap.size w1 w' → w'.cell? ⟨M, 1, none⟩ = some (.bool false) ∧ w'.cell? ⟨M, 2, none⟩ = some (.slice p k cc)) := fun w' b => ⟨blk_cell (KM.out w' b), blk_cell (KM.out w' b)⟩
  have HB0 : Below w1.heap.size w1 w1 := Below.refl _ _
  clear l1 hM gM T1 CR WH HM HM5
  go_wp2_with fail
  obtain ⟨K1, K2⟩ := KC.out w1 HB0
  obtain ⟨K3, K4⟩ := KC.out w1.drew HB0.drew
  go_region_with (first
      | (go_at_call 24; refine (WB.out _ (by first | exact HB0 | exact HB0.drew)).mono ?_; rintro e w5 ⟨y, rfl, gy, HB0⟩; replace gy := Lib.hid gy; obtain ⟨K5, K6⟩ := KC.out _ HB0)
      | (go_at_call 23; refine (PL.out _ y (by first | exact HB0 | exact HB0.drew) gy.out).mono ?_; rintro e w6 ⟨p6, k6, c6, rfl, g6, HB0⟩; have E0 := blk_free (o := 1) (KM.out _ HB0); have E1 := blk_free (o := 2) (KM.out _ HB0); have D0 := blk_cell (o := 1) (KM.out _ HB0); have D3 := blk_cell (o := 2) (KM.out _ HB0); have FF := Lib.hid (FIN.out _ _ _ _ HB0 g6); clear g6))
  all_goals
    go_wp2_with fail
    refine (T2.out _ FF.out.1).mono ?_; rintro e w9 ⟨rfl, l9⟩
    have RR := Lib.hid (FF.out.1.below l9)
    have TT := Lib.hid (FF.out.2.trans (Turn.of_below l9))
    clear l9 FF
    go_wp2
    go_ret
    exact ⟨rfl, RR.out, TT.out⟩
end Go.Proofs.Ytccfimempjbnfaa
