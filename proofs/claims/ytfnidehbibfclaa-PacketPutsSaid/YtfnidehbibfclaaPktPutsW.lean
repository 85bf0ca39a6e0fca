/- The walk of PacketPuts: packets as bytes, whether they may be, are right, and are the same, and what Sign tells, are the document's. -/
import Derived.Test.YtfnidehbibfclaaPktK
import Derived.Test.YtfnidehbibfclaaPktN
import Derived.Test.YtfnidehbibfclaaGD
import Derived.Deep.DeepCutAuto
import Derived.Deep.RegionHeld3
import Derived.Deep.RegionWith
set_option maxRecDepth 100000
namespace Go.Proofs.Ytfnidehbibfclaa
open Go.ChangeShapes Go.WideShapes Go.ChangeAt Go.RowKit OctM

theorem three_old (w : World) (a b c : Obj) : (((w.alloc a).alloc b).alloc c).heap[w.heap.size]? = some a ∧ (((w.alloc a).alloc b).alloc c).heap[w.heap.size + 1]? = some b ∧ (((w.alloc a).alloc b).alloc c).heap[w.heap.size + 1 + 1]? = some c ∧
    Below w.heap.size w (((w.alloc a).alloc b).alloc c) ∧ (((w.alloc a).alloc b).alloc c).heap.size = w.heap.size + 1 + 1 + 1 := by
  have s1 : (w.alloc a).heap.size = w.heap.size + 1 := by simp
  have s2 : ((w.alloc a).alloc b).heap.size = w.heap.size + 1 + 1 := by simp
  have l1 : Below w.heap.size w (w.alloc a) := (Below.refl _ _).alloc (Nat.le_refl _) a
  have l2 : Below (w.alloc a).heap.size (w.alloc a) ((w.alloc a).alloc b) := (Below.refl _ _).alloc (Nat.le_refl _) b
  have l3 : Below ((w.alloc a).alloc b).heap.size ((w.alloc a).alloc b) (((w.alloc a).alloc b).alloc c) := (Below.refl _ _).alloc (Nat.le_refl _) c
  refine ⟨?_, ?_, ?_, l1.trans ((l2.trans (l3.mono l2.size)).mono l1.size), by simp⟩
  · rw [l3.block _ (by omega), l2.block _ (by omega)]; exact heap_alloc_new w a
  · rw [l3.block _ (by omega), ← s1]; exact heap_alloc_new _ b
  · rw [← s2]; exact heap_alloc_new _ c

/-- Two packets of few fields in their boxes, and a key in its. -/
structure Two (w wx : World) (K J : Pak) (q : Ky) (h : Hd) (x : Xt) (fs : List Fld) (g : Hd) (y : Xt) (gs : List Fld) : Prop where
  i : Pk wx h x fs K
  j : Pk wx g y gs J
  bi : wx.heap[w.heap.size]? = some (.cells (pkC h x) 27 (0, 0))
  bj : wx.heap[w.heap.size + 1]? = some (.cells (pkC g y) 27 (0, 0))
  bk : wx.heap[w.heap.size + 1 + 1]? = some (.cells #[.int .u32 (q.id : Nat), .int .u64 (q.a : Nat), .int .u64 (q.b : Nat)] 29 (0, 0))
  low : Below w.heap.size w wx
theorem two_meet {w w1 w2 : World} {K J : Pak} {q : Ky} {h1 g1 : Hd} {x1 y1 : Xt} {fs gs : List Fld} {n1 n2 : Nat} {B : Nat} (dx : DataX w fs) (dy : DataX w gs) (hB : w.heap.size + 1 + 1 + 1 ≤ B) (I1 : Pk w1 h1 x1 ((fs.take n1).map cutF) K) (p1 : ∀ a, x1.p = some a → B ≤ a.block)
    (J1 : Pk w2 g1 y1 ((gs.take n2).map cutF) J) (p2 : ∀ a, y1.p = some a → B ≤ a.block) {h1' g1' : Hd} {x1' y1' : Xt} (l1 : Below w.heap.size w w1) (l2 : Below w1.heap.size w1 w2)
    (b1 : w2.heap[w.heap.size]? = some (.cells (pkC h1' x1') 27 (0, 0))) (b2 : w2.heap[w.heap.size + 1]? = some (.cells (pkC g1' y1') 27 (0, 0)))
    (b3 : w2.heap[w.heap.size + 1 + 1]? = some (.cells #[.int .u32 (q.id : Nat), .int .u64 (q.a : Nat), .int .u64 (q.b : Nat)] 29 (0, 0))) :
    Two w ((w2.setRow w.heap.size (pkC h1 x1)).setRow (w.heap.size + 1) (pkC g1 y1)) K J q h1 x1 ((fs.take n1).map cutF) g1 y1 ((gs.take n2).map cutF) := by
  have low2 : Below w.heap.size w w2 := l1.trans (l2.mono l1.size)
  have low : Below w.heap.size w ((w2.setRow w.heap.size (pkC h1 x1)).setRow (w.heap.size + 1) (pkC g1 y1)) := Below.setRow (Below.setRow low2 (Nat.le_refl _) _) (by omega) _
  have far : ∀ j, w.heap.size + 1 + 1 + 1 ≤ j → ((w2.setRow w.heap.size (pkC h1 x1)).setRow (w.heap.size + 1) (pkC g1 y1)).heap[j]? = w2.heap[j]? := fun j hj =>
    (setRow_other _ _ _ _ (by omega)).trans (setRow_other _ _ _ _ (by omega))
  have e1 : (w2.setRow w.heap.size (pkC h1 x1)).heap[w.heap.size + 1]? = _ := (setRow_other w2 w.heap.size (w.heap.size + 1) (pkC h1 x1) (by omega)).trans b2
  refine ⟨I1.far (B := B) (fun j hj hl => (far j (by omega)).trans (l2.block j hl)) p1 (cut_data (dx.below low) n1), J1.far (B := B) (fun j hj hl => far j (by omega)) p2 (cut_data (dy.below low) n2), ?_, setRow_heap _ _ _ _ _ _ e1, ?_, low⟩
  · exact (setRow_other _ _ _ _ (by omega)).trans (setRow_heap _ _ _ _ _ _ b1)
  · exact ((setRow_other _ _ _ _ (by omega)).trans (setRow_other _ _ _ _ (by omega))).trans b3

attribute [local go_sem ↓] loadP_eq storeP_eq boxP_eq allocP_eq zeroP_eq zeroP_eq'

set_option maxHeartbeats 16000000 in
theorem puts7_walk (w : World) (h g : Hd) (x y : Xt) (fs gs : List Fld) (k j : Pak) (q : Ky) (I : Pk w h x fs k) (J : Pk w g y gs j) (hq : KeyOk q) :
    Calls Try.prog 3 #[pkV h x, pkV g y, keyV q] w (SaidB w true) := by
  have bx := box_pk h x
  have by' := box_pk g y
  have az := alloc_pk
  have zz := zero_pk
  obtain ⟨b1, b2, b3, l0, z0⟩ := three_old w (.cells (pkC h x) 27) (.cells (pkC g y) 27) (.cells #[.int .u32 (q.id : Nat), .int .u64 (q.a : Nat), .int .u64 (q.b : Nat)] 29)
  have LD1 := load_pk b1
  have LD2 := load_pk b2
  have L0 := Lib.hid l0
  have B1 := Lib.hid b1
  have B2 := Lib.hid b2
  have B3 := Lib.hid b3
  clear b1 b2 b3 l0
  unfold keyV
  go_enter Try.func3, Try.ntmps3
  go_wp2_with fail
  generalize ((w.alloc (.cells (pkC h x) 27)).alloc (.cells (pkC g y) 27)).alloc (.cells #[.int .u32 (q.id : Nat), .int .u64 (q.a : Nat), .int .u64 (q.b : Nat)] 29) = v at *
  have FP := Lib.hid (fun w' (b : Below v.heap.size v w') => few7_all w' h x fs k (I.below (L0.out.trans (b.mono L0.out.size))))
  have FQ := Lib.hid (fun w' (b : Below v.heap.size v w') => few7_all w' g y gs j (J.below (L0.out.trans (b.mono L0.out.size))))
  have HB0 : Below v.heap.size v v.drew := (Below.refl _ _).drew
  have LD1' := load_pk (show v.drew.heap[w.heap.size]? = _ from B1.out)
  have LD2' := load_pk (show v.drew.heap[w.heap.size + 1]? = _ from B2.out)
  go_upto_region 1 with fail
  go_cut [15] (fun _ wx => ∃ h1 x1 f1 g1 y1 f2, Hid (Two w wx (fewP k) (fewP j) q h1 x1 f1 g1 y1 f2))
  case first =>
    go_wp2_with fail
    go_region_with (first
      | (go_at_call_of 9 h; refine (FP.out _ HB0).mono ?_; rintro e w1 ⟨h1, x1, n1, rfl, I1, p1, l1⟩; have K1 := pk_keep (show v.drew.heap[w.heap.size]? = _ from B1.out) l1; have K2 := pk_keep (show v.drew.heap[w.heap.size + 1]? = _ from B2.out) l1; have K3 := pk_keep (show v.drew.heap[w.heap.size + 1 + 1]? = _ from B3.out) l1; have LD3 := load_pk K1; have LD4 := load_pk K2; have HB1 := HB0.trans (l1.mono HB0.size))
      | (go_at_call_of 9 g; refine (FQ.out _ HB1).mono ?_; rintro e w2 ⟨g1, y1, n2, rfl, J1, p2, l2⟩; have M1 := pk_keep K1 l2; have M2 := pk_keep K2 l2; have M3 := pk_keep K3 l2; have SF1 := store_pk h1 x1 M1 rfl; have G2 := (setRow_other w2 w.heap.size (w.heap.size + 1) (pkC h1 x1) (by omega)).trans M2; have SF2 := store_pk g1 y1 G2 rfl))
    all_goals
      have R := Lib.hid (two_meet (B := v.heap.size) I.hx.data J.hx.data (by omega) I1 p1 J1 (fun a ha => Nat.le_trans HB1.size (p2 a ha)) (L0.out.trans (HB1.mono L0.out.size)) l2 M1 M2 M3)
      go_wp2_with fail
      go_meet
      exact ⟨_, _, _, _, _, _, R⟩
  case rest =>
  obtain ⟨h1, x1, f1, g1, y1, f2, T⟩ := hcut
  obtain ⟨K, hK⟩ : ∃ K, fewP k = K := ⟨_, rfl⟩
  have FI : Hid (fewP K = K) := by unfold Hid; rw [← hK]; unfold fewP; rw [fewX_idem]
  rw [hK] at T
  generalize fewP j = Jp at *
  have LW := Lib.hid T.out.low
  have KQ := Lib.hid hq
  clear FP FQ HB0 LD1' LD2' LD1 LD2 B1 B2 B3 L0 z0 I J hK hq
  obtain ⟨E, hE⟩ : ∃ E, putE7 K = E := ⟨_, rfl⟩
  obtain ⟨n, hn⟩ : ∃ n, (putD7 K).length = n := ⟨_, rfl⟩
  obtain ⟨X1, hX1⟩ : ∃ Z, (signP K q).1 = Z := ⟨_, rfl⟩
  obtain ⟨E2, hE2⟩ : ∃ Z, (signP K q).2 = Z := ⟨_, rfl⟩
  obtain ⟨m, hm⟩ : ∃ m, decide (mayP K) = m := ⟨_, rfl⟩
  obtain ⟨b, hb⟩ : ∃ b, decide (sameP K Jp) = b := ⟨_, rfl⟩
  obtain ⟨r1, hr1⟩ : ∃ b, decide (rightP K q) = b := ⟨_, rfl⟩
  obtain ⟨r2, hr2⟩ : ∃ b, decide (rightP X1 q) = b := ⟨_, rfl⟩
  have yD : Hid (Byt (putD7 K)) := putD_byt T.out.i.ok
  have A1 : Hid (∀ W, Below wc.heap.size wc W → Calls Try.prog 10 #[pkV h1 x1] W fun e w' => ∃ p c, e = .returned (.tuple #[.slice p n c, .int .i64 (E : Nat)]) ∧ Holds w' p n c (valsN .u8 (putD7 K)) ∧ Below W.heap.size W w') := fun W l => by
    refine (pput7_any W h1 x1 f1 K (T.out.i.below l)).mono ?_
    rintro e w' ⟨p, c, rfl, nw, l⟩
    rw [hE, hn]
    exact ⟨p, c, rfl, hn ▸ nw.holds, l⟩
  have A2 : Hid (∀ W, Below wc.heap.size wc W → Calls Try.prog 11 #[pkV h1 x1] W fun e w' => ∃ p c, e = .returned (.tuple #[.slice p n c, .int .i64 (E : Nat)]) ∧ Holds w' p n c (valsN .u8 (putD7 K)) ∧ Below W.heap.size W w') := fun W l => by
    refine (rput7_any W h1 x1 f1 K (T.out.i.below l)).mono ?_
    rintro e w' ⟨p, c, rfl, nw, l⟩
    rw [hE, hn]
    exact ⟨p, c, rfl, hn ▸ nw.holds, l⟩
  have A3 := Lib.hid (fun W (l : Below wc.heap.size wc W) => psign7_any W h1 x1 f1 K q (T.out.i.below l) KQ.out)
  have A4 := Lib.hid (fun W (l : Below wc.heap.size wc W) => rsign7_any W h1 x1 f1 K q (T.out.i.below l) KQ.out)
  rw [hX1, hE2] at A3 A4
  have A5 : Hid (∀ W, Below wc.heap.size wc W → Calls Try.prog 17 #[pkV h1 x1] W (SaidB W m)) := fun W l => hm ▸ pmay7_any W h1 x1 f1 K (T.out.i.below l)
  have A6 : Hid (∀ W, Below wc.heap.size wc W → Calls Try.prog 18 #[pkV h1 x1] W (SaidB W m)) := fun W l => hm ▸ rmay7_any W h1 x1 f1 K (T.out.i.below l)
  have A7 : Hid (∀ W, Below wc.heap.size wc W → Calls Try.prog 19 #[pkV h1 x1, pkV g1 y1] W (SaidB W b)) := fun W l => hb ▸ psame7_any W h1 g1 x1 y1 f1 f2 K Jp (T.out.i.below l) (T.out.j.below l)
  have A8 : Hid (∀ W, Below wc.heap.size wc W → Calls Try.prog 16 #[pkV h1 x1, pkV g1 y1] W (SaidB W b)) := fun W l => hb ▸ rsame7_any W h1 g1 x1 y1 f1 f2 K Jp (T.out.i.below l) (T.out.j.below l)
  have A9 : Hid (∀ W, Below wc.heap.size wc W → Calls Try.prog 9 #[pkV h1 x1] W (PkT W K)) := fun W l => by
    have r := few7_any W h1 x1 f1 K (T.out.i.below l)
    rwa [FI.out] at r
  have AA : Hid (∀ W h5 x5 f5, Pk W h5 x5 f5 K → Below wc.heap.size wc W → Calls Try.prog 19 #[pkV h1 x1, pkV h5 x5] W (SaidB W true)) := fun W h5 x5 f5 i5 l => by
    have r := psame7_any W h1 h5 x1 x5 f1 f5 K K (T.out.i.below l) i5
    rwa [decide_eq_true (same_eq.2 rfl)] at r
  have AB : Hid (∀ W, Below wc.heap.size wc W → Calls Try.prog 20 #[pkV h1 x1, .agg #[.int .u32 (q.id : Nat), .int .u64 (q.a : Nat), .int .u64 (q.b : Nat)]] W (SaidB W r1)) := fun W l => hr1 ▸ pright7_any W h1 x1 f1 K q (T.out.i.below l) KQ.out
  have AC : Hid (∀ W, Below wc.heap.size wc W → Calls Try.prog 21 #[pkV h1 x1, .agg #[.int .u32 (q.id : Nat), .int .u64 (q.a : Nat), .int .u64 (q.b : Nat)]] W (SaidB W r1)) := fun W l => hr1 ▸ rright7_any W h1 x1 f1 K q (T.out.i.below l) KQ.out
  have AD : Hid (∀ W h5 x5 f5, Pk W h5 x5 f5 X1 → Calls Try.prog 20 #[pkV h5 x5, .agg #[.int .u32 (q.id : Nat), .int .u64 (q.a : Nat), .int .u64 (q.b : Nat)]] W (SaidB W r2)) := fun W h5 x5 f5 i5 => hr2 ▸ pright7_any W h5 x5 f5 X1 q i5 KQ.out
  have AE : Hid (∀ W h5 x5 f5, Pk W h5 x5 f5 X1 → Calls Try.prog 21 #[pkV h5 x5, .agg #[.int .u32 (q.id : Nat), .int .u64 (q.a : Nat), .int .u64 (q.b : Nat)]] W (SaidB W r2)) := fun W h5 x5 f5 i5 => hr2 ▸ rright7_any W h5 x5 f5 X1 q i5 KQ.out
  have AF : Hid (∀ W h5 x5 f5 h6 x6 f6, Pk W h5 x5 f5 X1 → Pk W h6 x6 f6 X1 → Calls Try.prog 16 #[pkV h5 x5, pkV h6 x6] W (SaidB W true)) := fun W h5 x5 f5 h6 x6 f6 i5 i6 => by
    have r := rsame7_any W h5 h6 x5 x6 f5 f6 X1 X1 i5 i6
    rwa [decide_eq_true (same_eq.2 rfl)] at r
  have BI := Lib.hid T.out.bi
  have BJ := Lib.hid T.out.bj
  have BK := Lib.hid T.out.bk
  have mm : (m == m) = true := beq_self_eq_true m
  have bb : (b == b) = true := beq_self_eq_true b
  have rr1 : (r1 == r1) = true := beq_self_eq_true r1
  have rr2 : (r2 == r2) = true := beq_self_eq_true r2
  have LD1 := load_pk BI.out
  clear hE hn hX1 hE2 hm hb hr1 hr2 T FI KQ
  go_wp2_with fail
  refine (A1.out _ (Below.refl _ _)).mono ?_; rintro e w1 ⟨pa, ca, rfl, ha, l1⟩
  have HA := Lib.hid ha
  have L1 := Lib.hid l1
  have LD2 := load_pk (pk_keep BI.out l1)
  clear LD1 ha l1 A1
  go_wp2_with fail
  refine (A2.out _ L1.out).mono ?_; rintro e w2 ⟨pb, cb, rfl, hb, l2⟩
  have HB := Lib.hid hb
  have HA2 := Lib.hid (HA.out.below l2)
  have L2 : Hid (Below wc.heap.size wc w2) := L1.out.trans (l2.mono L1.out.size)
  have LD3 := load_pk (pk_keep BI.out L2.out)
  have K2 := pk_keep BK.out L2.out
  have k0 := blk_cell (o := 0) K2
  have k1 := blk_cell (o := 1) K2
  have k2 := blk_cell (o := 2) K2
  simp only [List.getElem?_toArray, List.getElem?_cons_zero, List.getElem?_cons_succ] at k0 k1 k2
  clear LD2 hb l2 A2 HA L1
  go_wp2_with fail
  refine (A3.out _ L2.out).mono ?_; rintro e w3 ⟨h3, x3, f3, rfl, I3, l3⟩
  have SN3 := store_new w3 (pkC Hd.zero Xt.zero) h3 x3 rfl
  have AL3 : Below w3.heap.size w3 (w3.alloc (.cells (pkC h3 x3) 27)) := (Below.refl _ _).alloc (Nat.le_refl _) _
  have L3 : Hid (Below w2.heap.size w2 (w3.alloc (.cells (pkC h3 x3) 27))) := l3.trans (AL3.mono l3.size)
  have HB3 := Lib.hid (HB.out.below L3.out)
  have HA3 := Lib.hid (HA2.out.below L3.out)
  have LC3 : Hid (Below wc.heap.size wc (w3.alloc (.cells (pkC h3 x3) 27))) := L2.out.trans (L3.out.mono L2.out.size)
  have B3 : Hid ((w3.alloc (.cells (pkC h3 x3) 27)).heap[w3.heap.size]? = some (.cells (pkC h3 x3) 27 (0, 0))) := heap_alloc_new w3 _
  have I3' := Lib.hid (I3.below AL3)
  clear l3 AL3 I3 LD3 k0 k1 k2 K2 A3 HB HA2 L2 L3
  have LD4 := load_pk (pk_keep BI.out LC3.out)
  have K4 := pk_keep BK.out LC3.out
  have k0 := blk_cell (o := 0) K4
  have k1 := blk_cell (o := 1) K4
  have k2 := blk_cell (o := 2) K4
  simp only [List.getElem?_toArray, List.getElem?_cons_zero, List.getElem?_cons_succ] at k0 k1 k2
  go_wp2_with fail
  generalize w3.alloc (.cells (pkC h3 x3) 27) = w4 at *
  generalize w3.heap.size = N3 at *
  refine (A4.out _ LC3.out).mono ?_; rintro e w5 ⟨h5, x5, f5, rfl, I5, l5⟩
  have SN5 := store_new w5 (pkC Hd.zero Xt.zero) h5 x5 rfl
  have AL5 : Below w5.heap.size w5 (w5.alloc (.cells (pkC h5 x5) 27)) := (Below.refl _ _).alloc (Nat.le_refl _) _
  have L5 : Hid (Below w4.heap.size w4 (w5.alloc (.cells (pkC h5 x5) 27))) := l5.trans (AL5.mono l5.size)
  have HB5 := Lib.hid (HB3.out.below L5.out)
  have HA5 := Lib.hid (HA3.out.below L5.out)
  have LC5 : Hid (Below wc.heap.size wc (w5.alloc (.cells (pkC h5 x5) 27))) := LC3.out.trans (L5.out.mono LC3.out.size)
  have B5 : Hid ((w5.alloc (.cells (pkC h5 x5) 27)).heap[w5.heap.size]? = some (.cells (pkC h5 x5) 27 (0, 0))) := heap_alloc_new w5 _
  have I5' := Lib.hid (I5.below AL5)
  have I35 := Lib.hid (I3'.out.below L5.out)
  have B35 := Lib.hid (pk_keep B3.out L5.out)
  clear l5 AL5 I5 LD4 k0 k1 k2 K4 A4 HB3 HA3 L5 LC3 I3' B3
  go_wp2_with fail
  generalize w5.alloc (.cells (pkC h5 x5) 27) = w6 at *
  generalize w5.heap.size = N5 at *
  have HB0 : Below w6.heap.size w6 w6.drew := (Below.refl _ _).drew
  have EQ := Lib.hid (fun (w' : World) (b : Below w6.heap.size w6 w') => bequal_same w' pa pb n ca n cb _ (HA5.out.below b) (HB5.out.below b) yD.out)
  have UP := Lib.hid (fun (w' : World) (b : Below w6.heap.size w6 w') => LC5.out.trans (b.mono LC5.out.size))
  have S1 := Lib.hid (fun (w' : World) (b : Below w6.heap.size w6 w') => AD.out w' h3 x3 f3 (I35.out.below b))
  have S2 := Lib.hid (fun (w' : World) (b : Below w6.heap.size w6 w') => AE.out w' h3 x3 f3 (I35.out.below b))
  have S3 := Lib.hid (fun (w' : World) (b : Below w6.heap.size w6 w') => AF.out w' h3 x3 f3 h5 x5 f5 (I35.out.below b) (I5'.out.below b))
  have LL : Hid (∀ w', Below w6.heap.size w6 w' → (loadP (.pointer (some ⟨w.heap.size, 0, none⟩))).run Try.prog w' = .ok (pkV h1 x1) w' ∧ (loadP (.pointer (some ⟨w.heap.size + 1, 0, none⟩))).run Try.prog w' = .ok (pkV g1 y1) w' ∧ (loadP (.pointer (some ⟨N3, 0, none⟩))).run Try.prog w' = .ok (pkV h3 x3) w' ∧ (loadP (.pointer (some ⟨N5, 0, none⟩))).run Try.prog w' = .ok (pkV h5 x5) w' ∧ w'.cell? ⟨w.heap.size + 1 + 1, 0, none⟩ = some (.int .u32 (q.id : Nat)) ∧ w'.cell? ⟨w.heap.size + 1 + 1, 1, none⟩ = some (.int .u64 (q.a : Nat)) ∧ w'.cell? ⟨w.heap.size + 1 + 1, 2, none⟩ = some (.int .u64 (q.b : Nat))) := fun w' k =>
    ⟨load_pk (pk_keep (pk_keep BI.out LC5.out) k), load_pk (pk_keep (pk_keep BJ.out LC5.out) k), load_pk (pk_keep B35.out k), load_pk (pk_keep B5.out k), blk_cell (o := 0) (pk_keep (pk_keep BK.out LC5.out) k), blk_cell (o := 1) (pk_keep (pk_keep BK.out LC5.out) k), blk_cell (o := 2) (pk_keep (pk_keep BK.out LC5.out) k)⟩
  have ee : ((E : Int) == (E : Int)) = true := beq_self_eq_true _
  have ee2 : ((E2 : Int) == (E2 : Int)) = true := beq_self_eq_true _
  have FW : Hid (Below w.heap.size w w6) := LW.out.trans (LC5.out.mono LW.out.size)
  clear HA5 HB5 B5 B35 I5' I35 AD AE AF BI BJ BK yD LW LC5
  go_wp2_with fail
  go_region_held3 (fun w' => (loadP (.pointer (some ⟨w.heap.size, 0, none⟩))).run Try.prog w' = .ok (pkV h1 x1) w' ∧ (loadP (.pointer (some ⟨w.heap.size + 1, 0, none⟩))).run Try.prog w' = .ok (pkV g1 y1) w' ∧ (loadP (.pointer (some ⟨N3, 0, none⟩))).run Try.prog w' = .ok (pkV h3 x3) w' ∧ (loadP (.pointer (some ⟨N5, 0, none⟩))).run Try.prog w' = .ok (pkV h5 x5) w' ∧ w'.cell? ⟨w.heap.size + 1 + 1, 0, none⟩ = some (.int .u32 (q.id : Nat)) ∧ w'.cell? ⟨w.heap.size + 1 + 1, 1, none⟩ = some (.int .u64 (q.a : Nat)) ∧ w'.cell? ⟨w.heap.size + 1 + 1, 2, none⟩ = some (.int .u64 (q.b : Nat)))
    (exact LL.out _ HB0)
    (first
      | (go_at_call 14; refine (awake7_any _).mono ?_; rintro e w7 ⟨rfl, o7⟩; have HB0 := HB0.trans (o7.mono HB0.size); clear o7)
      | (go_at_call 15; refine (EQ.out _ HB0).mono ?_; rintro e w7 ⟨rfl, rfl⟩)
      | (go_at_call_of 16 h3; refine (S3.out _ HB0).mono ?_; rintro e w7 ⟨rfl, o7⟩; have HB0 := HB0.trans (o7.mono HB0.size); clear o7)
      | (go_at_call 17; refine (A5.out _ (UP.out _ HB0)).mono ?_; rintro e w7 ⟨rfl, o7⟩; have HB0 := HB0.trans (o7.mono HB0.size); clear o7)
      | (go_at_call 18; refine (A6.out _ (UP.out _ HB0)).mono ?_; rintro e w7 ⟨rfl, o7⟩; have HB0 := HB0.trans (o7.mono HB0.size); clear o7)
      | (go_at_call_of 19 g1; refine (A7.out _ (UP.out _ HB0)).mono ?_; rintro e w7 ⟨rfl, o7⟩; have HB0 := HB0.trans (o7.mono HB0.size); clear o7)
      | (go_at_call_of 16 g1; refine (A8.out _ (UP.out _ HB0)).mono ?_; rintro e w7 ⟨rfl, o7⟩; have HB0 := HB0.trans (o7.mono HB0.size); clear o7)
      | (go_at_call 9; refine (A9.out _ (UP.out _ HB0)).mono ?_; rintro e w7 ⟨h9, x9, f9, rfl, i9, o7⟩; have HB0 := HB0.trans (o7.mono HB0.size); clear o7)
      | (go_at_call_of 19 h9; refine (AA.out _ _ _ _ i9 (UP.out _ HB0)).mono ?_; rintro e w7 ⟨rfl, o7⟩; have HB0 := HB0.trans (o7.mono HB0.size); clear o7)
      | (go_at_call_of 20 h1; refine (AB.out _ (UP.out _ HB0)).mono ?_; rintro e w7 ⟨rfl, o7⟩; have HB0 := HB0.trans (o7.mono HB0.size); clear o7)
      | (go_at_call_of 21 h1; refine (AC.out _ (UP.out _ HB0)).mono ?_; rintro e w7 ⟨rfl, o7⟩; have HB0 := HB0.trans (o7.mono HB0.size); clear o7)
      | (go_at_call_of 20 h3; refine (S1.out _ HB0).mono ?_; rintro e w7 ⟨rfl, o7⟩; have HB0 := HB0.trans (o7.mono HB0.size); clear o7)
      | (go_at_call_of 21 h3; refine (S2.out _ HB0).mono ?_; rintro e w7 ⟨rfl, o7⟩; have HB0 := HB0.trans (o7.mono HB0.size); clear o7))
  all_goals
    have FIN := FW.out.trans (HB0.mono FW.out.size)
    go_wp2
    go_ret
    exact ⟨rfl, FIN⟩
end Go.Proofs.Ytfnidehbibfclaa
