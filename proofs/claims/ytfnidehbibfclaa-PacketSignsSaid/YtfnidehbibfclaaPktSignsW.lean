/- The walk of PacketSigns: what is signed. -/
import Derived.Test.YtfnidehbibfclaaPktOne
import Derived.Deep.DeepCutAuto
import Derived.Deep.RegionHeld3
set_option maxRecDepth 100000
namespace Go.Proofs.Ytfnidehbibfclaa
open Go.ChangeShapes Go.WideShapes Go.ChangeAt Go.RowKit OctM

theorem signE_two {k : Pak} {q : Ky} (h : (signP k q).2 ≠ 0) : (signP k q).2 = 1 ∨ (signP k q).2 = 3 := (sign_err h).2
theorem right_zero (k : Pak) : ¬ rightP k ⟨0, 0, 0⟩ := fun ⟨a, b, c, _⟩ => by
  have m := (putE_may a).1.2.2
  rcases m with ⟨-, n⟩ | ⟨s, -⟩
  · exact n c
  · rw [b] at s; cases s
theorem right_other {k : Pak} {q l : Ky} (h : rightP k q) (n : l.id ≠ q.id) : ¬ rightP k l := fun ⟨_, _, c, _⟩ => n (c.symm.trans h.2.2.1)
theorem right_tag {k : Pak} {q : Ky} (h : rightP k q) {t : Nat} (n : t ≠ k.tg) : ¬ rightP { k with tg := t } q := fun ⟨_, _, _, d⟩ => n (d.symm.trans h.2.2.2)
theorem right_key {k : Pak} {q : Ky} (h : rightP k q) {t : Nat} (n : t ≠ k.ky) : ¬ rightP { k with ky := t } q := fun ⟨_, _, c, _⟩ => n (c.trans h.2.2.1.symm)
theorem right_bare (k : Pak) (q : Ky) : ¬ rightP { k with sg := false, ky := 0, tg := 0 } q := fun ⟨_, b, _, _⟩ => by cases b
theorem may_bare {k : Pak} (h : mayP k) : mayP { k with sg := false, ky := 0, tg := 0 } := ⟨h.1, h.2.1, .inr ⟨rfl, rfl, rfl⟩⟩

attribute [local go_sem ↓] loadP_eq storeP_eq boxP_eq allocP_eq zeroP_eq zeroP_eq'

set_option maxHeartbeats 16000000 in
theorem signs7_walk (w : World) (h : Hd) (x : Xt) (fs : List Fld) (k : Pak) (q : Ky) (t0 t1 : Nat) (I : Pk w h x fs k) (hq : KeyOk q) (h1 : t1 < 18446744073709551616) :
    Calls Try.prog 6 #[pkV h x, keyV q, .agg #[.int .u64 (t0 : Nat), .int .u64 (t1 : Nat)]] w (SaidB w true) := by
  have bx := box_pk h x
  have az := alloc_pk
  have zz := zero_pk
  obtain ⟨b1, b2, b3, l0, z0⟩ := three_one w (.cells (pkC h x) 27) (.cells #[.int .u32 (q.id : Nat), .int .u64 (q.a : Nat), .int .u64 (q.b : Nat)] 29) (.cells #[.int .u64 (t0 : Nat), .int .u64 (t1 : Nat)] 55)
  have LD1 := load_pk b1
  have L0 := Lib.hid l0
  have B1 := Lib.hid b1
  have B2 := Lib.hid b2
  have B3 := Lib.hid b3
  have FP := Lib.hid (few7_all _ h x fs k (I.below l0))
  have DX := Lib.hid I.hx.data
  have KQ := Lib.hid hq
  have T1L := Lib.hid h1
  clear b1 b2 b3 l0 I
  unfold keyV
  go_enter Try.func6, Try.ntmps6
  go_wp2_with fail
  generalize (((w.alloc (.cells (pkC h x) 27)).alloc (.cells #[.int .u32 (q.id : Nat), .int .u64 (q.a : Nat), .int .u64 (q.b : Nat)] 29)).alloc (.cells #[.int .u64 (t0 : Nat), .int .u64 (t1 : Nat)] 55)) = v at *
  refine FP.out.mono ?_; rintro e w1 ⟨h1', x1, n1, rfl, I1, p1, l1⟩
  have K1 := pk_keep B1.out l1
  have SF := store_pk h1' x1 K1 rfl
  have T := Lib.hid (one_meet (B := v.heap.size) DX.out (Nat.le_refl _) (by omega) I1 p1 (L0.out.trans (l1.mono L0.out.size)) K1)
  have BK := Lib.hid ((setRow_other w1 w.heap.size (w.heap.size + 1) (pkC h1' x1) (by omega)).trans (pk_keep B2.out l1))
  have BT := Lib.hid ((setRow_other w1 w.heap.size (w.heap.size + 1 + 1) (pkC h1' x1) (by omega)).trans (pk_keep B3.out l1))
  generalize fewP k = K at *
  generalize (fs.take n1).map cutF = f1 at *
  clear FP DX I1 p1 l1 K1 LD1 B1 L0 z0 B2 B3 h1
  go_upto_region 2 with fail
  generalize w1.setRow w.heap.size (pkC h1' x1) = wp at *
  clear SF
  have LD2 := load_pk T.out.bi
  have k0 := blk_cell (o := 0) BK.out
  have k1 := blk_cell (o := 1) BK.out
  have k2 := blk_cell (o := 2) BK.out
  simp only [List.getElem?_toArray, List.getElem?_cons_zero, List.getElem?_cons_succ] at k0 k1 k2
  have A1 := psign7_any wp h1' x1 f1 K q T.out.i KQ.out
  obtain ⟨E, hE⟩ : ∃ E, (signP K q).2 = E := ⟨_, rfl⟩
  have G1 : Hid (E ≠ 0 → (signP K q).1 = Pak.zero ∧ (E = 1 ∨ E = 3)) := fun g => by rw [← hE] at g ⊢; exact sign_err g
  have G2 : Hid (E = 0 → rightP (signP K q).1 q ∧ signP (signP K q).1 q = ((signP K q).1, 0) ∧ putE7 (signP K q).1 = 0 ∧ parP (putD7 (signP K q).1) = ((signP K q).1, 0) ∧ mayP (signP K q).1 ∧ (signP K q).1.ky = q.id ∧ q.id ≠ 0) := fun g => by
    have z := hE.trans g
    have s := sign_put z
    have r := sign_again z
    refine ⟨sign_right z, ?_, s.1, ?_, s.2.2.2.2.2, s.2.2.1, ?_⟩
    · rw [r, ← z]
    · rw [putD_ok s.1]; exact par_back (sign_pak T.out.i.ok KQ.out) s.1
    · have m := s.2.2.2.2.2.2.2
      rcases m with ⟨-, n⟩ | ⟨n, -⟩
      · rw [s.2.2.1] at n; exact n
      · rw [s.2.1] at n; cases n
  rw [hE] at A1
  replace A1 := Lib.hid A1
  have RZ := Lib.hid (fun W (b : Below wp.heap.size wp W) => show Calls Try.prog 20 #[pkV h1' x1, .agg #[.int .u32 0, .int .u64 0, .int .u64 0]] W (SaidB W false) from by
    have r := pright7_any W h1' x1 f1 K ⟨0, 0, 0⟩ (T.out.i.below b) ⟨by decide, by decide, by decide⟩
    rwa [decide_eq_false (right_zero K)] at r)
  generalize (signP K q).1 = X at *
  clear hE
  go_upto_region 3 with fail
  refine A1.out.mono ?_; rintro e w3 ⟨h3, x3, f3, rfl, I3, l3⟩
  have SN3 := store_new w3 (pkC Hd.zero Xt.zero) h3 x3 rfl
  have AL3 : Below w3.heap.size w3 (w3.alloc (.cells (pkC h3 x3) 27)) := (Below.refl _ _).alloc (Nat.le_refl _) _
  have L3 : Hid (Below wp.heap.size wp (w3.alloc (.cells (pkC h3 x3) 27))) := l3.trans (AL3.mono l3.size)
  have B3 : Hid ((w3.alloc (.cells (pkC h3 x3) 27)).heap[w3.heap.size]? = some (.cells (pkC h3 x3) 27 (0, 0))) := heap_alloc_new w3 _
  have I3' := Lib.hid (I3.below AL3)
  have Z3 : Hid (w.heap.size + 1 + 1 < w3.heap.size) := Nat.lt_of_lt_of_le (Array.getElem?_eq_some_iff.1 BT.out).1 l3.size
  have T3 := Lib.hid (T.out.below L3.out)
  have BK3 := Lib.hid (pk_keep BK.out L3.out)
  have BT3 := Lib.hid (pk_keep BT.out L3.out)
  clear l3 AL3 I3 A1 LD2 k0 k1 k2 T BK BT
  go_upto_region 3 with fail
  generalize w3.alloc (.cells (pkC h3 x3) 27) = w4 at *
  generalize w3.heap.size = N3 at *
  have AW := Lib.hid (fun W => awake7_any W)
  by_cases g : E = 0
  case neg =>
    have g1 : ((E : Int) != 0) = true := by rw [bne_iff_ne]; omega
    have g2 : ((E : Int) == 0) = false := by rw [beq_eq_false_iff_ne]; omega
    have g3 : ¬ (E : Int) = 0 := by omega
    obtain ⟨r1, r2⟩ := G1.out g
    subst r1
    have S3 := Lib.hid (fun (W : World) (b : Below w4.heap.size w4 W) => show Calls Try.prog 19 #[pkV h3 x3, pkV Hd.zero Xt.zero] W (SaidB W true) from by
      have r := psame7_any W h3 Hd.zero x3 Xt.zero f3 [] Pak.zero Pak.zero (I3'.out.below b) (pk_zero W)
      rwa [decide_eq_true (same_eq.2 rfl)] at r)
    clear G1 G2 g I3' BK3 BT3 Z3
    rcases r2 with r2 | r2
    all_goals
      subst r2
      go_wp2_with fail
      refine (AW.out _).mono ?_; rintro e w5 ⟨rfl, l5⟩
      have LD5 := load_pk (pk_keep B3.out l5)
      have S5 := Lib.hid (S3.out _ l5)
      have L5 := Lib.hid l5
      clear l5
      go_wp2_with fail
      refine S5.out.mono ?_; rintro e w6 ⟨rfl, l6⟩
      have L6 : Hid (Below w4.heap.size w4 w6) := L5.out.trans (l6.mono L5.out.size)
      have LD6 := load_pk (pk_keep T3.out.bi L6.out)
      have R6 := Lib.hid (RZ.out _ (L3.out.trans (L6.out.mono L3.out.size)))
      clear l6 S5 LD5
      go_wp2_with fail
      refine R6.out.mono ?_; rintro e w7 ⟨rfl, l7⟩
      have F7 : Hid (Below w.heap.size w w7) := (T3.out.low.trans (L6.out.mono T3.out.low.size)).trans (l7.mono (T3.out.low.trans (L6.out.mono T3.out.low.size)).size)
      clear l7
      go_wp2
      go_ret
      exact ⟨rfl, F7.out⟩
  subst g
  obtain ⟨r1, r2, r3, r4, r5, r6, r7⟩ := G2.out rfl
  have EK : Hid (x3.ky = q.id) := by unfold Hid; rw [← r6, I3'.out.e]
  have PX := Lib.hid (fun W (b : Below w4.heap.size w4 W) => pput7_any W h3 x3 f3 X (I3'.out.below b))
  have SX := Lib.hid (fun W (b : Below w4.heap.size w4 W) => show Calls Try.prog 12 #[pkV h3 x3, .agg #[.int .u32 (q.id : Nat), .int .u64 (q.a : Nat), .int .u64 (q.b : Nat)]] W _ from psign7_any W h3 x3 f3 X q (I3'.out.below b) KQ.out)
  have RG := Lib.hid (fun W h5 x5 f5 (i5 : Pk W h5 x5 f5 X) => show Calls Try.prog 20 #[pkV h5 x5, .agg #[.int .u32 (q.id : Nat), .int .u64 (q.a : Nat), .int .u64 (q.b : Nat)]] W (SaidB W true) from by
    have r := pright7_any W h5 x5 f5 X q i5 KQ.out
    rwa [decide_eq_true r1] at r)
  have SM := Lib.hid (fun W h5 x5 f5 (b : Below w4.heap.size w4 W) (i5 : Pk W h5 x5 f5 X) => show Calls Try.prog 19 #[pkV h3 x3, pkV h5 x5] W (SaidB W true) from by
    have r := psame7_any W h3 h5 x3 x5 f3 f5 X X (I3'.out.below b) i5
    rwa [decide_eq_true (same_eq.2 rfl)] at r)
  rw [r2] at SX
  have YX := Lib.hid (putD_byt I3'.out.ok)
  have PP := Lib.hid (fun W p c (hh : Holds W p (putD7 X).length c (valsN .u8 (putD7 X))) => show Calls Try.prog 23 #[.slice p (putD7 X).length c] W _ from pparse7_any W p _ c _ hh YX.out)
  rw [r4] at PP
  rw [r3] at PX
  have R1 := Lib.hid r1
  have R5 := Lib.hid r5
  have R7 := Lib.hid r7
  have LD4 := load_pk B3.out
  have LW4 := Lib.hid T3.out.low
  clear G1 G2 r1 r2 r3 r4 r5 r6 r7 RZ L3 T3
  go_wp2_with fail
  refine (PX.out _ (Below.refl _ _)).mono ?_; rintro e w5 ⟨pb, cb, rfl, nb, l5⟩
  have HB := Lib.hid nb.holds
  have L5 := Lib.hid l5
  clear nb l5 LD4
  go_wp2_with fail
  refine (PP.out _ _ _ HB.out).mono ?_; rintro e w6 ⟨h6, x6, f6, rfl, I6, -, l6⟩
  have SN6 := store_new w6 (pkC Hd.zero Xt.zero) h6 x6 rfl
  have AL6 : Below w6.heap.size w6 (w6.alloc (.cells (pkC h6 x6) 27)) := (Below.refl _ _).alloc (Nat.le_refl _) _
  have L6 : Hid (Below w5.heap.size w5 (w6.alloc (.cells (pkC h6 x6) 27))) := l6.trans (AL6.mono l6.size)
  have B6 : Hid ((w6.alloc (.cells (pkC h6 x6) 27)).heap[w6.heap.size]? = some (.cells (pkC h6 x6) 27 (0, 0))) := heap_alloc_new w6 _
  have I6' := Lib.hid (I6.below AL6)
  have L46 : Hid (Below w4.heap.size w4 (w6.alloc (.cells (pkC h6 x6) 27))) := L5.out.trans (L6.out.mono L5.out.size)
  have LD6 := load_pk (pk_keep B3.out L46.out)
  have K6 := pk_keep BK3.out L46.out
  have k0 := blk_cell (o := 0) K6
  have k1 := blk_cell (o := 1) K6
  have k2 := blk_cell (o := 2) K6
  simp only [List.getElem?_toArray, List.getElem?_cons_zero, List.getElem?_cons_succ] at k0 k1 k2
  clear l6 AL6 I6 PP HB L5 L6 K6
  go_wp2_with fail
  generalize w6.alloc (.cells (pkC h6 x6) 27) = w7 at *
  generalize w6.heap.size = N6 at *
  refine (SX.out _ L46.out).mono ?_; rintro e w8 ⟨h8, x8, f8, rfl, I8, l8⟩
  have SN8 := store_new w8 (pkC Hd.zero Xt.zero) h8 x8 rfl
  have AL8 : Below w8.heap.size w8 (w8.alloc (.cells (pkC h8 x8) 27)) := (Below.refl _ _).alloc (Nat.le_refl _) _
  have L8 : Hid (Below w7.heap.size w7 (w8.alloc (.cells (pkC h8 x8) 27))) := l8.trans (AL8.mono l8.size)
  have B8 : Hid ((w8.alloc (.cells (pkC h8 x8) 27)).heap[w8.heap.size]? = some (.cells (pkC h8 x8) 27 (0, 0))) := heap_alloc_new w8 _
  have I8' := Lib.hid (I8.below AL8)
  have I68 := Lib.hid (I6'.out.below L8.out)
  have B68 := Lib.hid (pk_keep B6.out L8.out)
  have L48 : Hid (Below w4.heap.size w4 (w8.alloc (.cells (pkC h8 x8) 27))) := L46.out.trans (L8.out.mono L46.out.size)
  have LD8 := load_pk (pk_keep B3.out L48.out)
  have K8 := pk_keep BK3.out L48.out
  have k0' := blk_cell (o := 0) K8
  have k1' := blk_cell (o := 1) K8
  have k2' := blk_cell (o := 2) K8
  simp only [List.getElem?_toArray, List.getElem?_cons_zero, List.getElem?_cons_succ] at k0' k1' k2'
  clear l8 AL8 I8 SX L46 L8 LD6 k0 k1 k2 K8 B6 I6'
  go_wp2_with fail
  generalize w8.alloc (.cells (pkC h8 x8) 27) = w9 at *
  generalize w8.heap.size = N8 at *
  refine (RG.out _ _ _ _ (I3'.out.below L48.out)).mono ?_; rintro e wa ⟨rfl, la⟩
  have LDa := load_pk (pk_keep B68.out la)
  have Ka := pk_keep (pk_keep BK3.out L48.out) la
  have k0 := blk_cell (o := 0) Ka
  have k1 := blk_cell (o := 1) Ka
  have k2 := blk_cell (o := 2) Ka
  simp only [List.getElem?_toArray, List.getElem?_cons_zero, List.getElem?_cons_succ] at k0 k1 k2
  have La := Lib.hid la
  clear la Ka LD8 k0' k1' k2'
  go_wp2_with fail
  refine (RG.out _ _ _ _ (I68.out.below La.out)).mono ?_; rintro e wb ⟨rfl, lb⟩
  have Lb : Hid (Below w9.heap.size w9 wb) := La.out.trans (lb.mono La.out.size)
  have LDb := load_pk (pk_keep (pk_keep B3.out L48.out) Lb.out)
  have LDc := load_pk (pk_keep B8.out Lb.out)
  clear lb LDa k0 k1 k2 La
  go_wp2_with fail
  refine (SM.out _ _ _ _ (L48.out.trans (Lb.out.mono L48.out.size)) (I8'.out.below Lb.out)).mono ?_; rintro e wc ⟨rfl, lc⟩
  have Lc : Hid (Below w4.heap.size w4 wc) := (L48.out.trans (Lb.out.mono L48.out.size)).trans (lc.mono (L48.out.trans (Lb.out.mono L48.out.size)).size)
  have c15 := (pk_at (pk_keep B3.out Lc.out)).2.2.1
  rw [EK.out] at c15
  have Kc := pk_keep BK3.out Lc.out
  have k0 := blk_cell (o := 0) Kc
  have k1 := blk_cell (o := 1) Kc
  have k2 := blk_cell (o := 2) Kc
  simp only [List.getElem?_toArray, List.getElem?_cons_zero, List.getElem?_cons_succ] at k0 k1 k2
  have q0 : ¬ (q.id : Int) = 0 := by have := R7.out; omega
  have q1 : ((q.id : Int) == 0) = false := by rw [beq_eq_false_iff_ne]; exact q0
  have q2 : ((q.id : Int) != (q.id : Int)) = false := bne_self_eq_false _
  clear lc LDb LDc Lb L48 B68 B8 I68 I8' SM RG PX Kc
  go_upto_region 10 with fail
  obtain ⟨t, ht⟩ : ∃ t, t = t0 % 4294967296 := ⟨_, rfl⟩
  have et : (t0 : Int) % 4294967296 = (t : Int) := by omega
  have wt : IntKind.u32.wrap (t0 : Int) = (t : Int) := by
    have hw : IntKind.u32.wrap (t0 : Int) = (t0 : Int) % 4294967296 := by simp [IntKind.wrap, IntKind.bits, IntKind.signed]
    rw [hw, et]
  have TL : Hid (t < 4294967296) := by unfold Hid; omega
  clear ht
  go_upto_region 11 with fail
  have ALd : Below wc.heap.size wc (wc.alloc (.cells #[.int .u32 (q.id : Nat), .int .u64 (q.a : Nat), .int .u64 (q.b : Nat)] 29)) := (Below.refl _ _).alloc (Nat.le_refl _) _
  have BL0 : Hid ((wc.alloc (.cells #[.int .u32 (q.id : Nat), .int .u64 (q.a : Nat), .int .u64 (q.b : Nat)] 29)).heap[wc.heap.size]? = some (.cells #[.int .u32 (q.id : Nat), .int .u64 (q.a : Nat), .int .u64 (q.b : Nat)] 29 (0, 0))) := heap_alloc_new wc _
  have Ld : Hid (Below w4.heap.size w4 (wc.alloc (.cells #[.int .u32 (q.id : Nat), .int .u64 (q.a : Nat), .int .u64 (q.b : Nat)] 29))) := Lc.out.trans (ALd.mono Lc.out.size)
  have Zc : Hid (w4.heap.size ≤ wc.heap.size) := Lc.out.size
  generalize wc.alloc (.cells #[.int .u32 (q.id : Nat), .int .u64 (q.a : Nat), .int .u64 (q.b : Nat)] 29) = wd at *
  generalize wc.heap.size = NL at *
  have o0 := blk_cell (o := 0) (pk_keep BT3.out Ld.out)
  have l0 := blk_cell (o := 0) BL0.out
  have m0 := blk_free (o := 0) BL0.out
  simp only [List.getElem?_toArray, List.getElem?_cons_zero] at o0 l0
  clear ALd Lc k0 k1 k2 c15
  go_upto_region 12 with fail
  have BL : Hid ((wd.setCell ⟨NL, 0, none⟩ (.int .u32 (t : Nat))).heap[NL]? = some (.cells #[.int .u32 (t : Nat), .int .u64 (q.a : Nat), .int .u64 (q.b : Nat)] 29 (0, 0))) := blk_set (o := 0) (u := .int .u32 (t : Nat)) BL0.out
  have Le : Hid (Below w4.heap.size w4 (wd.setCell ⟨NL, 0, none⟩ (.int .u32 (t : Nat)))) := Ld.out.setCell Zc.out _
  clear o0 l0 m0 et wt BL0 Ld
  generalize wd.setCell ⟨NL, 0, none⟩ (.int .u32 (t : Nat)) = we at *
  have RL := Lib.hid (fun W (b : Below w4.heap.size w4 W) (n : t ≠ q.id) => show Calls Try.prog 20 #[pkV h3 x3, .agg #[.int .u32 (t : Nat), .int .u64 (q.a : Nat), .int .u64 (q.b : Nat)]] W (SaidB W false) from by
    have r := pright7_any W h3 x3 f3 X ⟨t, q.a, q.b⟩ (I3'.out.below b) ⟨TL.out, KQ.out.2.1, KQ.out.2.2⟩
    rwa [decide_eq_false (right_other (l := ⟨t, q.a, q.b⟩) R1.out n)] at r)
  go_cut [117] (fun b wx => b = .bool false ∧ Hid (Below we.heap.size we wx))
  case first =>
    have LDe := load_pk (pk_keep B3.out Le.out)
    have Ke := pk_keep BK3.out Le.out
    have k0 := blk_cell (o := 0) Ke
    have l0 := blk_cell (o := 0) BL.out
    have l1 := blk_cell (o := 1) BL.out
    have l2 := blk_cell (o := 2) BL.out
    simp only [List.getElem?_toArray, List.getElem?_cons_zero, List.getElem?_cons_succ] at k0 l0 l1 l2
    clear Ke
    by_cases g : t = q.id
    · have g1 : ((t : Int) != (q.id : Int)) = false := by rw [g]; exact bne_self_eq_false _
      have g2 : ((t : Int) == (q.id : Int)) = true := by rw [g]; exact beq_self_eq_true _
      have R : Hid (Below we.heap.size we we) := Below.refl _ _
      clear g RL
      go_wp2_with fail
      go_meet
      exact ⟨rfl, R⟩
    · have g0 : ¬ (t : Int) = (q.id : Int) := by omega
      have g1 : ((t : Int) != (q.id : Int)) = true := by rw [bne_iff_ne]; exact g0
      have g2 : ((t : Int) == (q.id : Int)) = false := by rw [beq_eq_false_iff_ne]; exact g0
      have RN := Lib.hid (RL.out _ Le.out g)
      clear g RL
      go_wp2_with fail
      refine RN.out.mono ?_; rintro e wf ⟨rfl, lf⟩
      have R := Lib.hid lf
      clear lf RN
      go_wp2_with fail
      go_meet
      exact ⟨rfl, R⟩
  case rest =>
  obtain ⟨rfl, Lf⟩ := hcut
  have Lg : Hid (Below w4.heap.size w4 wc) := Le.out.trans (Lf.out.mono Le.out.size)
  have BLg := Lib.hid (pk_keep BL.out Lf.out)
  have EG : Hid (X.tg = x3.tg) := by unfold Hid; rw [I3'.out.e]
  have EX : Hid (X.ky = x3.ky) := by unfold Hid; rw [I3'.out.e]
  have LDg := load_pk (pk_keep B3.out Lg.out)
  have SNg := store_new wc (pkC Hd.zero Xt.zero) h3 x3 rfl
  clear RL BL Le Lf
  go_upto_region 15 with fail
  have ALh : Below wc.heap.size wc (wc.alloc (.cells (pkC h3 x3) 27)) := (Below.refl _ _).alloc (Nat.le_refl _) _
  have BW0 : Hid ((wc.alloc (.cells (pkC h3 x3) 27)).heap[wc.heap.size]? = some (.cells (pkC h3 x3) 27 (0, 0))) := heap_alloc_new wc _
  have Lh : Hid (Below w4.heap.size w4 (wc.alloc (.cells (pkC h3 x3) 27))) := Lg.out.trans (ALh.mono Lg.out.size)
  have BLh := Lib.hid (pk_keep BLg.out ALh)
  have Zw : Hid (w4.heap.size ≤ wc.heap.size) := Lg.out.size
  have ZL : Hid (NL ≠ wc.heap.size) := by have := (Array.getElem?_eq_some_iff.1 BLg.out).1; unfold Hid; omega
  have Z3w : Hid (N3 ≠ wc.heap.size) := by have := (Array.getElem?_eq_some_iff.1 (pk_keep B3.out Lg.out)).1; unfold Hid; omega
  generalize wc.alloc (.cells (pkC h3 x3) 27) = wh at *
  generalize wc.heap.size = NW at *
  have o0 := blk_cell (o := 1) (pk_keep BT3.out Lh.out)
  have c16 := (pk_at BW0.out).2.2.2
  have f16 := blk_free (o := 16) BW0.out
  simp only [List.getElem?_toArray, List.getElem?_cons_zero, List.getElem?_cons_succ] at o0
  clear ALh Lg LDg SNg BLg
  go_upto_region 16 with fail
  have BW1 := Lib.hid (set_tag BW0.out t1)
  have Li : Hid (Below w4.heap.size w4 (wh.setCell ⟨NW, 16, none⟩ (.int .u64 (t1 : Nat)))) := Lh.out.setCell Zw.out _
  have BL1 := Lib.hid (set_far BLh.out 16 ZL.out (.int .u64 (t1 : Nat)))
  clear o0 c16 f16 BW0 Lh BLh
  generalize wh.setCell ⟨NW, 16, none⟩ (.int .u64 (t1 : Nat)) = wi at *
  have RT := Lib.hid (fun W (b : Below w4.heap.size w4 W) (n : t1 ≠ x3.tg) => show Calls Try.prog 20 #[pkV h3 { x3 with tg := t1 }, .agg #[.int .u32 (q.id : Nat), .int .u64 (q.a : Nat), .int .u64 (q.b : Nat)]] W (SaidB W false) from by
    have r := pright7_any W h3 { x3 with tg := t1 } f3 { X with tg := t1 } q ((I3'.out.below b).tag T1L.out) KQ.out
    rwa [decide_eq_false (right_tag R1.out (by rw [EG.out]; exact n))] at r)
  go_cut [131] (fun b wx => b = .bool false ∧ Hid (Below wi.heap.size wi wx))
  case first =>
    have LDi := load_pk BW1.out
    have Ki := pk_keep BK3.out Li.out
    have k0 := blk_cell (o := 0) Ki
    have k1 := blk_cell (o := 1) Ki
    have k2 := blk_cell (o := 2) Ki
    simp only [List.getElem?_toArray, List.getElem?_cons_zero, List.getElem?_cons_succ] at k0 k1 k2
    have c16 := (pk_at BW1.out).2.2.2
    have d16 := (pk_at (pk_keep B3.out Li.out)).2.2.2
    simp only at c16
    clear Ki
    by_cases g : t1 = x3.tg
    · have g1 : ((t1 : Int) != (x3.tg : Int)) = false := by rw [g]; exact bne_self_eq_false _
      have g2 : ((t1 : Int) == (x3.tg : Int)) = true := by rw [g]; exact beq_self_eq_true _
      have R : Hid (Below wi.heap.size wi wi) := Below.refl _ _
      clear g RT
      go_wp2_with fail
      go_meet
      exact ⟨rfl, R⟩
    · have g0 : ¬ (t1 : Int) = (x3.tg : Int) := by omega
      have g1 : ((t1 : Int) != (x3.tg : Int)) = true := by rw [bne_iff_ne]; exact g0
      have g2 : ((t1 : Int) == (x3.tg : Int)) = false := by rw [beq_eq_false_iff_ne]; exact g0
      have RN := Lib.hid (RT.out _ Li.out g)
      clear g RT
      go_wp2_with fail
      refine RN.out.mono ?_; rintro e wf ⟨rfl, lf⟩
      have R := Lib.hid lf
      clear lf RN
      go_wp2_with fail
      go_meet
      exact ⟨rfl, R⟩
  case rest =>
  obtain ⟨rfl, Lj⟩ := hcut
  have Lk : Hid (Below w4.heap.size w4 wc) := Li.out.trans (Lj.out.mono Li.out.size)
  have BW2 := Lib.hid (pk_keep BW1.out Lj.out)
  have BL2 := Lib.hid (pk_keep BL1.out Lj.out)
  have LDk := load_pk (pk_keep B3.out Lk.out)
  have SFk := store_pk h3 x3 BW2.out rfl
  clear RT Lj Li BW1 BL1
  go_upto_region 19 with fail
  have BW3 := Lib.hid (setRow_heap _ NW _ (pkC h3 x3) _ _ BW2.out)
  have Ll : Hid (Below w4.heap.size w4 (wc.setRow NW (pkC h3 x3))) := Below.setRow Lk.out Zw.out _
  have BL3 := Lib.hid ((setRow_other wc NW NL (pkC h3 x3) ZL.out).trans BL2.out)
  clear LDk SFk Lk BW2 BL2
  generalize wc.setRow NW (pkC h3 x3) = wl at *
  have l0 := blk_cell (o := 0) BL3.out
  have c15 := (pk_at BW3.out).2.2.1
  have f15 := blk_free (o := 15) BW3.out
  simp only [List.getElem?_toArray, List.getElem?_cons_zero] at l0
  go_upto_region 20 with fail
  have BW4 : Hid ((wl.setCell ⟨NW, 15, none⟩ (.int .u32 (t : Nat))).heap[NW]? = some (.cells (pkC h3 ⟨x3.p, x3.n, x3.c, x3.sg, t, x3.tg⟩) 27 (0, 0))) := by
    have e : pkC h3 ⟨x3.p, x3.n, x3.c, x3.sg, t, x3.tg⟩ = (pkC h3 x3).set! 15 (.int .u32 (t : Nat)) := rfl
    unfold Hid
    rw [e]
    exact blk_set BW3.out
  have Lm : Hid (Below w4.heap.size w4 (wl.setCell ⟨NW, 15, none⟩ (.int .u32 (t : Nat)))) := Ll.out.setCell Zw.out _
  clear l0 c15 f15 BW3 Ll BL3
  generalize wl.setCell ⟨NW, 15, none⟩ (.int .u32 (t : Nat)) = wm at *
  have RK := Lib.hid (fun W (b : Below w4.heap.size w4 W) (n : t ≠ x3.ky) => show Calls Try.prog 20 #[pkV h3 ⟨x3.p, x3.n, x3.c, x3.sg, t, x3.tg⟩, .agg #[.int .u32 (q.id : Nat), .int .u64 (q.a : Nat), .int .u64 (q.b : Nat)]] W (SaidB W false) from by
    have i5 := I3'.out.below b
    have r := pright7_any W h3 ⟨x3.p, x3.n, x3.c, x3.sg, t, x3.tg⟩ f3 { X with ky := t } q ⟨by rw [i5.e], i5.hx, ⟨i5.ok.wf, i5.ok.fl, TL.out, i5.ok.tg⟩⟩ KQ.out
    rwa [decide_eq_false (right_key R1.out (by rw [EX.out]; exact n))] at r)
  go_cut [145] (fun b wx => b = .bool false ∧ Hid (Below wm.heap.size wm wx))
  case first =>
    have LDi := load_pk BW4.out
    have Ki := pk_keep BK3.out Lm.out
    have k0 := blk_cell (o := 0) Ki
    have k1 := blk_cell (o := 1) Ki
    have k2 := blk_cell (o := 2) Ki
    simp only [List.getElem?_toArray, List.getElem?_cons_zero, List.getElem?_cons_succ] at k0 k1 k2
    have c15 := (pk_at BW4.out).2.2.1
    have d15 := (pk_at (pk_keep B3.out Lm.out)).2.2.1
    simp only at c15
    clear Ki
    by_cases g : t = x3.ky
    · have g1 : ((t : Int) != (x3.ky : Int)) = false := by rw [g]; exact bne_self_eq_false _
      have g2 : ((t : Int) == (x3.ky : Int)) = true := by rw [g]; exact beq_self_eq_true _
      have R : Hid (Below wm.heap.size wm wm) := Below.refl _ _
      clear g RK
      go_wp2_with fail
      go_meet
      exact ⟨rfl, R⟩
    · have g0 : ¬ (t : Int) = (x3.ky : Int) := by omega
      have g1 : ((t : Int) != (x3.ky : Int)) = true := by rw [bne_iff_ne]; exact g0
      have g2 : ((t : Int) == (x3.ky : Int)) = false := by rw [beq_eq_false_iff_ne]; exact g0
      have RN := Lib.hid (RK.out _ Lm.out g)
      clear g RK
      go_wp2_with fail
      refine RN.out.mono ?_; rintro e wf ⟨rfl, lf⟩
      have R := Lib.hid lf
      clear lf RN
      go_wp2_with fail
      go_meet
      exact ⟨rfl, R⟩
  case rest =>
  obtain ⟨rfl, Ln⟩ := hcut
  have Lo : Hid (Below w4.heap.size w4 wc) := Lm.out.trans (Ln.out.mono Lm.out.size)
  have BW5 := Lib.hid (pk_keep BW4.out Ln.out)
  have LDo := load_pk (pk_keep B3.out Lo.out)
  have SFo := store_pk h3 x3 BW5.out rfl
  clear RK Ln Lm BW4
  go_upto_region 23 with fail
  have BW6 := Lib.hid (setRow_heap _ NW _ (pkC h3 x3) _ _ BW5.out)
  have Lp : Hid (Below w4.heap.size w4 (wc.setRow NW (pkC h3 x3))) := Below.setRow Lo.out Zw.out _
  clear LDo SFo Lo BW5
  generalize wc.setRow NW (pkC h3 x3) = wo at *
  obtain ⟨-, c14, c15, c16⟩ := pk_at BW6.out
  have f14 := blk_free (o := 14) BW6.out
  have f15 := blk_free (o := 15) BW6.out
  have f16 := blk_free (o := 16) BW6.out
  go_upto_region 24 with fail
  have BW7 : Hid ((((wo.setCell ⟨NW, 14, none⟩ (.bool false)).setCell ⟨NW, 15, none⟩ (.int .u32 0)).setCell ⟨NW, 16, none⟩ (.int .u64 0)).heap[NW]? = some (.cells (pkC h3 ⟨x3.p, x3.n, x3.c, false, 0, 0⟩) 27 (0, 0))) := set_seal BW6.out false 0 0
  have Lq : Hid (Below w4.heap.size w4 (((wo.setCell ⟨NW, 14, none⟩ (.bool false)).setCell ⟨NW, 15, none⟩ (.int .u32 0)).setCell ⟨NW, 16, none⟩ (.int .u64 0))) := ((Lp.out.setCell Zw.out _).setCell Zw.out _).setCell Zw.out _
  clear c14 c15 c16 f14 f15 f16 BW6 Lp
  generalize (((wo.setCell ⟨NW, 14, none⟩ (.bool false)).setCell ⟨NW, 15, none⟩ (.int .u32 0)).setCell ⟨NW, 16, none⟩ (.int .u64 0)) = wq at *
  have IB := Lib.hid (fun W (b : Below w4.heap.size w4 W) => show Pk W h3 ⟨x3.p, x3.n, x3.c, false, 0, 0⟩ f3 { X with sg := false, ky := 0, tg := 0 } from by
    have i5 := I3'.out.below b
    exact ⟨by rw [i5.e], i5.hx, ⟨i5.ok.wf, i5.ok.fl, Nat.zero_lt_succ _, Nat.zero_lt_succ _⟩⟩)
  have RB := Lib.hid (fun W (b : Below w4.heap.size w4 W) => show Calls Try.prog 20 #[pkV h3 ⟨x3.p, x3.n, x3.c, false, 0, 0⟩, .agg #[.int .u32 (q.id : Nat), .int .u64 (q.a : Nat), .int .u64 (q.b : Nat)]] W (SaidB W false) from by
    have r := pright7_any W _ _ f3 _ q (IB.out W b) KQ.out
    rwa [decide_eq_false (right_bare X q)] at r)
  have MB := Lib.hid (fun W (b : Below w4.heap.size w4 W) => show Calls Try.prog 17 #[pkV h3 ⟨x3.p, x3.n, x3.c, false, 0, 0⟩] W (SaidB W true) from by
    have r := pmay7_any W _ _ f3 _ (IB.out W b)
    rwa [decide_eq_true (may_bare R5.out)] at r)
  go_wp2_with fail
  refine (AW.out _).mono ?_; rintro e wr ⟨rfl, lr⟩
  have Lr : Hid (Below w4.heap.size w4 wr) := Lq.out.trans (lr.mono Lq.out.size)
  have BWr := Lib.hid (pk_keep BW7.out lr)
  have LDr := load_pk BWr.out
  have Kr := pk_keep BK3.out Lr.out
  have k0 := blk_cell (o := 0) Kr
  have k1 := blk_cell (o := 1) Kr
  have k2 := blk_cell (o := 2) Kr
  simp only [List.getElem?_toArray, List.getElem?_cons_zero, List.getElem?_cons_succ] at k0 k1 k2
  have Rr := Lib.hid (RB.out _ Lr.out)
  clear lr Kr RB Lq BW7
  go_wp2_with fail
  refine Rr.out.mono ?_; rintro e ws ⟨rfl, ls⟩
  have Ls : Hid (Below w4.heap.size w4 ws) := Lr.out.trans (ls.mono Lr.out.size)
  have LDs := load_pk (pk_keep BWr.out ls)
  have Ms := Lib.hid (MB.out _ Ls.out)
  clear ls LDr k0 k1 k2 MB Rr Lr BWr
  go_wp2_with fail
  refine Ms.out.mono ?_; rintro e wt ⟨rfl, lt⟩
  have F : Hid (Below w.heap.size w wt) := LW4.out.trans ((Ls.out.trans (lt.mono Ls.out.size)).mono LW4.out.size)
  clear lt Ms
  go_wp2
  go_ret
  exact ⟨rfl, F.out⟩
end Go.Proofs.Ytfnidehbibfclaa
