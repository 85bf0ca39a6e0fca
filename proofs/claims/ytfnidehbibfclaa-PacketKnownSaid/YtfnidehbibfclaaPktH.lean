/- Layer 7 (packet): the program's Parse. (Written by wip/tools/genpktparse.py.) -/
import Derived.Test.YtfnidehbibfclaaPktD
import Derived.Test.YtfnidehbibfclaaGH
import Derived.Test.YtfnidehbibfclaaGC
set_option maxRecDepth 100000
namespace Go.Proofs.Ytfnidehbibfclaa
open Go.ChangeShapes Go.WideShapes Go.ChangeAt Go.RowKit OctM

attribute [local go_sem ↓] loadP_eq storeP_eq boxP_eq allocP_eq zeroP_eq zeroP_eq'

theorem pkey7_any (w : World) (q : Option Addr) (m d : Nat) (t : List Nat) (hh : Holds w q m d (valsN .u8 t)) (hy : Byt t) (hm : m = 12) (hd : 4 ≤ m) (KY : Nat) (hK : numN (t.take 4) = KY) (kb : KY < 4294967296) :
    Calls Try.prog 49 #[.slice q m d] w fun e w' => e = .returned (.int .u32 (KY : Nat)) ∧ Below w.heap.size w w' := by
  have PA := Lib.hid (pat_ok w q m d 0 4 t hh hy (by decide) (by decide) (by omega) (by omega) KY hK)
  have w0 : IntKind.u32.wrap (KY : Int) = (KY : Int) := by rw [IntKind.wrap_u32]; omega
  clear hh hy hm hd hK kb
  go_enter Try.func49, Try.ntmps49
  go_wp2_with fail
  refine PA.out.mono ?_; rintro e w1 ⟨rfl, l⟩
  have L := Lib.hid l
  clear l
  go_wp2
  go_ret
  exact ⟨rfl, L.out⟩

theorem ptag7_any (w : World) (q : Option Addr) (m d : Nat) (t : List Nat) (hh : Holds w q m d (valsN .u8 t)) (hy : Byt t) (hm : t.length = 12) (TG : Nat) (hT : numN (t.drop 4) = TG) :
    Calls Try.prog 50 #[.slice q m d] w fun e w' => e = .returned (.int .u64 (TG : Nat)) ∧ Below w.heap.size w w' := by
  have ln : m = 12 := by have := hh.len; rw [valsN_len] at this; omega
  have PA := Lib.hid (pat_ok w q m d 4 8 t hh hy (by decide) (by decide) (by omega) (by omega) TG (by rw [List.take_of_length_le (by rw [List.length_drop]; omega)]; exact hT))
  clear hh hy hm hT ln
  go_enter Try.func50, Try.ntmps50
  go_wp2_with fail
  refine PA.out.mono ?_; rintro e w1 ⟨rfl, l⟩
  have L := Lib.hid l
  clear l
  go_wp2
  go_ret
  exact ⟨rfl, L.out⟩

set_option maxHeartbeats 16000000 in
theorem pparse7_any (w : World) (p : Option Addr) (n c : Nat) (ds : List Nat) (hd : Holds w p n c (valsN .u8 ds)) (hy : Byt ds) :
    Calls Try.prog 23 #[.slice p n c] w (PakN w (parP ds).1 (parP ds).2) := by
  have ln : ds.length = n := by have := hd.len; rwa [valsN_len] at this
  subst ln
  have az := alloc_pk
  have zz := zero_pk
  have A0 : Hid ((w.alloc (.cells (pkC Hd.zero Xt.zero) 27)).heap[w.heap.size]? = some (.cells (pkC Hd.zero Xt.zero) 27 (0, 0))) := heap_alloc_new w _
  have L0 : Hid (Below w.heap.size w (w.alloc (.cells (pkC Hd.zero Xt.zero) 27))) := (Below.refl _ _).alloc (Nat.le_refl _) _
  have FE : Hid (∀ (E : Nat) (W : World), parP ds = (Pak.zero, E) → Below w.heap.size w W → PakN w (parP ds).1 (parP ds).2 (.returned (.tuple #[pkV Hd.zero Xt.zero, .int .i64 (E : Nat)])) W) := fun E W e l => by
    rw [e]; exact pakN_err l
  have FO : Hid (∀ (K : Pak) (h : Hd) (x : Xt) (fs : List Fld) (W : World), parP ds = (K, 0) → Pk W h x fs K → NewsX w.heap.size W fs → Below w.heap.size w W → PakN w (parP ds).1 (parP ds).2 (.returned (.tuple #[pkV h x, .int .i64 0])) W) := fun K h x fs W e a b l => by
    rw [e]; exact ⟨h, x, fs, rfl, a, b, l⟩
  have HL : Hid (∀ hd' L es E, Told ds hd' L es E → Calls Try.prog _ #[.slice p ds.length c] (w.alloc (.cells (pkC Hd.zero Xt.zero) 27)) (PQ (w.alloc (.cells (pkC Hd.zero Xt.zero) 27)) hd' L es E)) := fun hd' L es E t => t.prog _ p c (hd.below ((Below.refl _ _).alloc (Nat.le_refl _) _))
  by_cases h512 : 512 < ds.length
  · have SF := store_same A0.out
    have F := Lib.hid (FE.out 3 (w.alloc (.cells (pkC Hd.zero Xt.zero) 27)) (par_long h512) L0.out)
    have g : (512 : Int) < (ds.length : Int) := by omega
    clear hd hy h512 FE FO HL
    go_enter Try.func23, Try.ntmps23
    go_wp2
    (try simp only [Exit.inBlock, Exit.then])
    refine bodyPost_ret (results_pk2 rfl _ _ w.heap.size Hd.zero Xt.zero rfl A0.out) rfl ?_
    exact F.out
  have g : (ds.length : Int) ≤ 512 := by omega
  have bad : ∀ (E : Nat) (hd' : Hd), E ≠ 0 → E < 100 → parP ds = (Pak.zero, E) → Told ds hd' 0 [] E → Calls Try.prog 23 #[.slice p ds.length c] w (PakN w (parP ds).1 (parP ds).2) := fun E hd' e0 eb e t => by
    have T := Lib.hid (HL.out _ _ _ _ t)
    have g1 : ((E : Int) != 0) = true := by rw [bne_iff_ne]; omega
    have g2 : ((E : Int) == 0) = false := by rw [beq_eq_false_iff_ne]; omega
    have g3 : ¬ (E : Int) = 0 := by omega
    have F := Lib.hid (fun W => FE.out E W e)
    clear hd hy h512 FE FO HL t e e0 eb
    go_enter Try.func23, Try.ntmps23
    go_wp2_with fail
    refine T.out.mono ?_; rintro e w1 ⟨pr, cr, rfl, -, l1⟩
    have SN := store_new w1 (pkC Hd.zero Xt.zero) hd' Xt.zero rfl
    have A1 := pk_keep (pk_keep A0.out l1) ((Below.refl w1.heap.size w1).alloc (Nat.le_refl _) (.cells (pkC hd' Xt.zero) 27))
    have SF := store_same A1
    have L1 : Hid (Below w.heap.size w (w1.alloc (.cells (pkC hd' Xt.zero) 27))) := (L0.out.trans (l1.mono L0.out.size)).alloc (L0.out.trans (l1.mono L0.out.size)).size _
    have A1h := Lib.hid A1
    clear l1 A1
    go_wp2
    (try simp only [Exit.inBlock, Exit.then])
    refine bodyPost_ret (results_pk2 rfl _ _ w.heap.size Hd.zero Xt.zero rfl A1h.out) rfl ?_
    exact F.out _ L1.out
  by_cases h48 : ds.length < 48
  · exact bad 4 _ (by decide) (by decide) (par_short h48) (told_short h48)
  by_cases hm : mayH (hdP ds)
  case neg => exact bad 5 _ (by decide) (by decide) (par_head (by omega) (by omega) hm) (told_form hy (by omega) (by omega) hm)
  clear bad
  have T := Lib.hid (HL.out _ _ _ _ (told_ok hy (by omega) (by omega) hm))
  have BY := Lib.hid (byt_drop hy 48)
  have HN : Hid (ds.length - 48 ≤ 10000) := by unfold Hid; omega
  have WF := Lib.hid (hdP_wf hy)
  have PE := Lib.hid (fun e (x : (parX (ds.drop 48)).2.2 = e) (e0 : e ≠ 0) => par_ext (by omega) (by omega) hm x e0)
  have P0 := Lib.hid (fun l (x : parX (ds.drop 48) = (l, [], 0)) => par_bare (by omega) (by omega) hm x)
  have PK := Lib.hid (fun l t (x : parX (ds.drop 48) = (l, t, 0)) => par_key (by omega) (by omega) hm x)
  have PS := Lib.hid (fun l t (x : parX (ds.drop 48) = (l, t, 0)) => par_seal (by omega) (by omega) hm x)
  have XS := Lib.hid (fun (x : (parX (ds.drop 48)).2.2 = 0) => parX_spec BY.out x)
  have XT := Lib.hid (parX_byt BY.out)
  generalize parP ds = R at *
  generalize hdP ds = H at *
  generalize ds.drop 48 = es at *
  generalize ds.length - 48 = m at *
  obtain ⟨l, t, E, hX⟩ : ∃ l t E, parX es = (l, t, E) := ⟨_, _, _, rfl⟩
  rw [hX] at PE P0 PK PS XS XT
  have P5 := Lib.hid (fun w' (pr : Option Addr) (cr : Nat) (hh : Holds w' pr m cr (valsN .u8 es)) => pparse5_any w' pr m cr es hh BY.out (by have := HN.out; omega))
  rw [hX] at P5
  clear hd hy h512 HL h48 hm hX
  go_enter Try.func23, Try.ntmps23
  go_wp2_with fail
  refine T.out.mono ?_; rintro e w1 ⟨pr, cr, rfl, nw, l1⟩
  have SN := store_new w1 (pkC Hd.zero Xt.zero) H Xt.zero rfl
  have AB : Below w1.heap.size w1 (w1.alloc (.cells (pkC H Xt.zero) 27)) := (Below.refl _ _).alloc (Nat.le_refl _) _
  have A1 := Lib.hid (pk_keep (pk_keep A0.out l1) AB)
  have M1 : Hid ((w1.alloc (.cells (pkC H Xt.zero) 27)).heap[w1.heap.size]? = some (.cells (pkC H Xt.zero) 27 (0, 0))) := heap_alloc_new w1 _
  have L1 : Hid (Below w.heap.size w (w1.alloc (.cells (pkC H Xt.zero) 27))) := (L0.out.trans (l1.mono L0.out.size)).alloc (L0.out.trans (l1.mono L0.out.size)).size _
  have Q5 := Lib.hid (P5.out _ pr cr (nw.holds.below AB))
  have NM : Hid (w.heap.size < w1.heap.size) := by have := l1.size; simp at this; unfold Hid; omega
  clear l1 nw AB P5 T
  go_wp2_with fail
  refine Q5.out.mono ?_; rintro e w2 ⟨px, cx, qx, dx, fs, rfl, es', hx, nx, nq, l2⟩
  have A2 := Lib.hid (pk_keep A1.out l2)
  have M2 := Lib.hid (pk_keep M1.out l2)
  have L2 : Hid (Below w.heap.size w w2) := L1.out.trans (l2.mono L1.out.size)
  have BS : Hid (w1.heap.size < (w1.alloc (.cells (pkC H Xt.zero) 27)).heap.size) := by simp [Hid]
  generalize (w1.alloc (.cells (pkC H Xt.zero) 27)).heap.size = B at *
  simp only at es' hx nq
  have HX := Lib.hid hx
  have NX := Lib.hid nx
  have NQ := Lib.hid nq
  have ES := Lib.hid es'
  have WB : Hid (w.heap.size ≤ B) := by have := NM.out; have := BS.out; unfold Hid; omega
  clear hx nx nq l2 Q5 SN A1 M1 L1 A0 L0 az es'
  by_cases e0 : E = 0
  case neg =>
    have g1 : ((E : Int) != 0) = true := by rw [bne_iff_ne]; omega
    have g2 : ((E : Int) == 0) = false := by rw [beq_eq_false_iff_ne]; omega
    have g3 : ¬ (E : Int) = 0 := by omega
    have F := Lib.hid (FE.out E w2 (PE.out E rfl e0) L2.out)
    have SF := store_same A2.out
    clear FE FO PE P0 PK PS XS XT e0
    go_wp2
    (try simp only [Exit.inBlock, Exit.then])
    refine bodyPost_ret (results_pk2 rfl _ _ w.heap.size Hd.zero Xt.zero rfl A2.out) rfl ?_
    exact F.out
  subst e0
  obtain ⟨dn, mx, gd, -⟩ := XS.out rfl
  have TB : Byt t := XT.out
  have FL : Hid (∀ x ∈ l, x.1 < 65536 ∧ Byt x.2) := fun x hx => ⟨(gd x hx).2.1, (gd x hx).2.2⟩
  have c13 := (pk_at M2.out).1
  have f13 := blk_free (o := 13) M2.out
  have M3 := Lib.hid (set_exts M2.out px l.length cx)
  have A3 := Lib.hid (set_far A2.out 13 (Nat.ne_of_lt NM.out) (.slice px l.length cx))
  have F3 : Hid (Far w2 (w2.setCell ⟨w1.heap.size, 13, none⟩ (.slice px l.length cx)) B) := far_setCell M2.out (pk_no16 _ _) BS.out _
  have L3 : Hid (Below w.heap.size w (w2.setCell ⟨w1.heap.size, 13, none⟩ (.slice px l.length cx))) := L2.out.setCell (Nat.le_of_lt NM.out) _
  have LL : ∀ (wb w3 : World) (x : Xt), HoldsX wb px l.length cx fs → NewsX B wb fs → Hid (w3.heap[w.heap.size]? = some (.cells (pkC Hd.zero Xt.zero) 27 (0, 0))) → Far wb w3 B → Below w.heap.size w w3 → (⟨px, l.length, cx⟩ : Option Addr × Nat × Nat) = ⟨x.p, x.n, x.c⟩ → x.ky < 4294967296 → x.tg < 18446744073709551616 → R = (⟨H, l, x.sg, x.ky, x.tg⟩, 0) →
      PakN w R.1 R.2 (.returned (.tuple #[pkV H x, .int .i64 0])) (w3.setRow w.heap.size (pkC H x)) := fun wb w3 x bx bn h3 fr lw ex kb tb e => by
    have f4 : Far wb (w3.setRow w.heap.size (pkC H x)) B := fr.trans (far_setRow h3.out (pk_no16 _ _) (Nat.lt_trans NM.out BS.out) _)
    have e' : px = x.p ∧ l.length = x.n ∧ cx = x.c := by simpa using ex
    obtain ⟨ep, en, ec⟩ := e'
    have hx := f4.holdsX bx bn
    rw [ep, en, ec] at hx
    refine FO.out _ H x fs _ e ⟨?_, hx, ⟨WF.out, FL.out, kb, tb⟩⟩ ((f4.news bn).low WB.out) (Below.setRow lw (Nat.le_refl _) _)
    rw [ES.out]
  have LLh := Lib.hid LL
  rcases dn with t0 | t12
  · have tn : t = [] := List.length_eq_zero_iff.1 t0
    subst tn
    have LD := load_pk M3.out
    have SF := store_pk H ⟨px, l.length, cx, false, 0, 0⟩ A3.out rfl
    have HG := Lib.hid (setRow_heap _ w.heap.size _ (pkC H ⟨px, l.length, cx, false, 0, 0⟩) _ _ A3.out)
    have F := Lib.hid (LLh.out _ _ ⟨px, l.length, cx, false, 0, 0⟩ HX.out NX.out A3 F3.out L3.out rfl (Nat.zero_lt_succ _) (Nat.zero_lt_succ _) (P0.out l rfl))
    clear FE FO PE P0 PK PS XS XT TB mx gd t0 LL LLh
    go_wp2
    (try simp only [Exit.inBlock, Exit.then])
    refine bodyPost_ret (results_pk2 rfl _ _ w.heap.size H ⟨px, l.length, cx, false, 0, 0⟩ rfl HG.out) rfl ?_
    exact F.out
  · rw [t12] at NQ
    obtain ⟨KY, hKY⟩ : ∃ z, numN (t.take 4) = z := ⟨_, rfl⟩
    obtain ⟨TG, hTG⟩ : ∃ z, numN (t.drop 4) = z := ⟨_, rfl⟩
    have kb : KY < 4294967296 := by
      have := numN_lt (byt_take TB 4)
      rw [List.length_take, hKY, t12] at this
      exact this
    have tb : TG < 18446744073709551616 := by
      have := numN_lt (byt_drop TB 4)
      rw [List.length_drop, hTG, t12] at this
      exact this
    have PK' := Lib.hid (PK.out l t rfl (by omega))
    have PS' := Lib.hid (PS.out l t rfl (by omega))
    rw [hKY] at PK'
    rw [hKY, hTG] at PS'
    have kbi : (KY : Int) < 4294967296 := by omega
    have FE5 := Lib.hid (fun W => FE.out 5 W)
    obtain ⟨X, hX⟩ : ∃ X : Xt, X = ⟨px, l.length, cx, true, KY, TG⟩ := ⟨_, rfl⟩
    have N4 := Lib.hid (fun w' (hh : Holds w' qx 12 dx (valsN .u8 t)) => pkey7_any w' qx 12 dx t hh TB (by omega) (by omega) KY hKY kb)
    have N8 := Lib.hid (fun w' (hh : Holds w' qx 12 dx (valsN .u8 t)) => ptag7_any w' qx 12 dx t hh TB t12 TG hTG)
    have H4 := Lib.hid (N4.out _ (F3.out.new NQ.out).holds)
    have NQ3 := Lib.hid (F3.out.new NQ.out).holds
    have HX3 := Lib.hid (F3.out.holdsX HX.out NX.out)
    have NX3 := Lib.hid (F3.out.news NX.out)
    have SZ : w.heap.size < B := Nat.lt_trans NM.out BS.out
    have SZh := Lib.hid SZ
    clear N4 HX NX NQ F3 SZ XS XT TB mx gd FE FO PE P0 PK PS LL
    go_wp2_with fail
    generalize (w2.setCell ⟨w1.heap.size, 13, none⟩ (.slice px l.length cx)) = v at *
    refine H4.out.mono ?_; rintro e w3 ⟨rfl, l3⟩
    have L4 : Hid (Below w.heap.size w w3) := L3.out.trans (l3.mono L3.out.size)
    have H8 := Lib.hid (N8.out _ (NQ3.out.below l3))
    have HX4 := Lib.hid (HX3.out.below l3)
    have NX4 := Lib.hid (NX3.out.below l3)
    have M4 := Lib.hid (pk_keep M3.out l3)
    have A4 := Lib.hid (pk_keep A3.out l3)
    clear l3 H4 NQ3 HX3 NX3 N8 M3 A3 L3 c13 f13 M2 A2 L2
    go_wp2_with fail
    refine H8.out.mono ?_; rintro e w4 ⟨rfl, l4⟩
    have L5 : Hid (Below w.heap.size w w4) := L4.out.trans (l4.mono L4.out.size)
    have HX5 := Lib.hid (HX4.out.below l4)
    have NX5 := Lib.hid (NX4.out.below l4)
    have M5 := Lib.hid (pk_keep M4.out l4)
    have A5 := Lib.hid (pk_keep A4.out l4)
    clear l4 H8 HX4 NX4 M4 A4 L4
    have c14 := (pk_at M5.out).2.1
    have c15 := (pk_at M5.out).2.2.1
    have c16 := (pk_at M5.out).2.2.2
    have f14 := blk_free (o := 14) M5.out
    have f15 := blk_free (o := 15) M5.out
    have f16 := blk_free (o := 16) M5.out
    have Q4 := blk_set (o := 14) (u := .bool true) M5.out
    have Q5 := blk_set (o := 15) (u := .int .u32 (KY : Nat)) Q4
    have M6 : Hid ((((w4.setCell ⟨w1.heap.size, 14, none⟩ (.bool true)).setCell ⟨w1.heap.size, 15, none⟩ (.int .u32 (KY : Nat))).setCell ⟨w1.heap.size, 16, none⟩ (.int .u64 (TG : Nat))).heap[w1.heap.size]? = some (.cells (pkC H X) 27 (0, 0))) := by rw [hX]; exact set_seal M5.out true KY TG
    have F6 : Hid (Far w4 (((w4.setCell ⟨w1.heap.size, 14, none⟩ (.bool true)).setCell ⟨w1.heap.size, 15, none⟩ (.int .u32 (KY : Nat))).setCell ⟨w1.heap.size, 16, none⟩ (.int .u64 (TG : Nat))) B) := ((far_setCell M5.out (pk_no16 _ _) BS.out _).trans (far_setCell (W := w4.setCell ⟨w1.heap.size, 14, none⟩ (.bool true)) Q4 (pk_no16 H ⟨px, l.length, cx, true, 0, 0⟩) BS.out _)).trans (far_setCell (W := (w4.setCell ⟨w1.heap.size, 14, none⟩ (.bool true)).setCell ⟨w1.heap.size, 15, none⟩ (.int .u32 (KY : Nat))) Q5 (pk_no16 H ⟨px, l.length, cx, true, KY, 0⟩) BS.out _)
    have A6 : Hid ((((w4.setCell ⟨w1.heap.size, 14, none⟩ (.bool true)).setCell ⟨w1.heap.size, 15, none⟩ (.int .u32 (KY : Nat))).setCell ⟨w1.heap.size, 16, none⟩ (.int .u64 (TG : Nat))).heap[w.heap.size]? = some (.cells (pkC Hd.zero Xt.zero) 27 (0, 0))) := set_far (set_far (set_far A5.out _ (Nat.ne_of_lt NM.out) _) _ (Nat.ne_of_lt NM.out) _) _ (Nat.ne_of_lt NM.out) _
    have L6 : Hid (Below w.heap.size w (((w4.setCell ⟨w1.heap.size, 14, none⟩ (.bool true)).setCell ⟨w1.heap.size, 15, none⟩ (.int .u32 (KY : Nat))).setCell ⟨w1.heap.size, 16, none⟩ (.int .u64 (TG : Nat)))) := ((L5.out.setCell (Nat.le_of_lt NM.out) _).setCell (Nat.le_of_lt NM.out) _).setCell (Nat.le_of_lt NM.out) _
    have LD := load_pk M6.out
    have c15' : (((w4.setCell ⟨w1.heap.size, 14, none⟩ (.bool true)).setCell ⟨w1.heap.size, 15, none⟩ (.int .u32 (KY : Nat))).setCell ⟨w1.heap.size, 16, none⟩ (.int .u64 (TG : Nat))).cell? ⟨w1.heap.size, 15, none⟩ = some (.int .u32 (KY : Nat)) := by have := (pk_at M6.out).2.2.1; rw [hX] at this; exact this
    clear Q4 Q5
    by_cases k0 : KY = 0
    · have F := Lib.hid (FE5.out _ (PK'.out k0) L6.out)
      have SF := store_same A6.out
      have g1 : ((KY : Int) != 0) = false := by rw [bne_eq_false_iff_eq]; omega
      have g2 : ((KY : Int) == 0) = true := by rw [beq_iff_eq]; omega
      clear k0 LLh PK' PS' kb tb hKY hTG kbi
      go_wp2
      (try simp only [Exit.inBlock, Exit.then])
      refine bodyPost_ret (results_pk2 rfl _ _ w.heap.size Hd.zero Xt.zero rfl A6.out) rfl ?_
      exact F.out
    · have SF := store_pk H X A6.out rfl
      have HG := Lib.hid (setRow_heap _ w.heap.size _ (pkC H X) _ _ A6.out)
      have F := Lib.hid (LLh.out _ _ X HX5.out NX5.out A6 F6.out L6.out (by rw [hX]) (by rw [hX]; exact kb) (by rw [hX]; exact tb) (by rw [hX]; exact PS'.out k0))
      have g1 : ((KY : Int) != 0) = true := by rw [bne_iff_ne]; omega
      have g2 : ((KY : Int) == 0) = false := by rw [beq_eq_false_iff_ne]; omega
      have g3 : ¬ (KY : Int) = 0 := by omega
      clear k0 LLh PK' PS' kb tb hKY hTG hX kbi
      go_wp2
      (try simp only [Exit.inBlock, Exit.then])
      refine bodyPost_ret (results_pk2 rfl _ _ w.heap.size H X rfl HG.out) rfl ?_
      exact F.out
end Go.Proofs.Ytfnidehbibfclaa
