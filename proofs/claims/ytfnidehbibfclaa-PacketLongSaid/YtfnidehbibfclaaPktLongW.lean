/- The walk of PacketLong: a signature is twelve bytes behind the body; what would be longer is refused. -/
import Derived.Test.YtfnidehbibfclaaPktOne
import Derived.Test.YtfnidehbibfclaaGD
import Derived.Deep.DeepCutAuto
import Derived.Deep.RegionHeld3
set_option maxRecDepth 100000
namespace Go.Proofs.Ytfnidehbibfclaa
open Go.ChangeShapes Go.WideShapes Go.ChangeAt Go.RowKit OctM

/-- A packet without what it is signed with. -/
def bareP (k : Pak) : Pak := { k with sg := false, ky := 0, tg := 0 }
theorem bareP_ok {k : Pak} (ok : PakOk k) : PakOk (bareP k) := ⟨ok.wf, ok.fl, Nat.zero_lt_succ _, Nat.zero_lt_succ _⟩
theorem bare_may (k : Pak) {id : Nat} (h : id ≠ 0) : mayP (forP k id) ↔ mayP (bareP k) := by
  unfold mayP mayS forP bareP
  simp [h]
theorem bare_len (k : Pak) (id : Nat) : (bytesP (forP k id)).length = (bytesP (bareP k)).length + 12 := by
  rw [bytes_len, bytes_len]
  unfold forP bareP
  simp
theorem bare_bytes (k : Pak) : bytesP (bareP k) = bodyP k := by
  unfold bytesP sealP bareP
  simp
  rfl
theorem long_bad {k : Pak} {q : Ky} (hq : q.id ≠ 0) (h : putE7 (bareP k) ≠ 0) : (signP (bareP k) q).2 = putE7 (bareP k) := by
  have e : forP (bareP k) q.id = forP k q.id := rfl
  have m := bare_may k hq
  have l := bare_len k q.id
  have s : putE7 (forP k q.id) = putE7 (bareP k) := by
    by_cases mk : mayP (bareP k)
    · have : ¬ (bytesP (bareP k)).length ≤ 512 := fun x => h (putE_ok mk x)
      rw [putE_long mk this, putE_long (m.2 mk) (by omega)]
    · rw [putE_arg mk, putE_arg (fun x => mk (m.1 x))]
  rw [sign_bad (by rw [e, s]; exact h), e, s]
theorem long_over {k : Pak} {q : Ky} (hq : q.id ≠ 0) (h : putE7 (bareP k) = 0) (g : 512 < (putD7 (bareP k)).length + 12) : (signP (bareP k) q).2 = 3 := by
  have e : forP (bareP k) q.id = forP k q.id := rfl
  have m := (bare_may k hq).2 (putE_may h).1
  have l := bare_len k q.id
  rw [putD_ok h] at g
  have s := putE_long m (by omega)
  rw [sign_bad (by rw [e, s]; decide), e, s]
theorem long_good {k : Pak} {q : Ky} (hq : q.id ≠ 0) (h : putE7 (bareP k) = 0) (g : (putD7 (bareP k)).length + 12 ≤ 512) : (signP (bareP k) q).2 = 0 ∧ putE7 (signP (bareP k) q).1 = 0 ∧ (putD7 (signP (bareP k) q).1).length = (putD7 (bareP k)).length + 12 ∧ (putD7 (signP (bareP k) q).1).take (putD7 (bareP k)).length = putD7 (bareP k) := by
  have e : forP (bareP k) q.id = forP k q.id := rfl
  have m := (bare_may k hq).2 (putE_may h).1
  have l := bare_len k q.id
  rw [putD_ok h, bare_bytes] at g ⊢
  have s : putE7 (forP (bareP k) q.id) = 0 := by rw [e]; exact putE_ok m (by rw [l, bare_bytes]; exact g)
  have z : (signP (bareP k) q).2 = 0 := by rw [sign_ok s]
  obtain ⟨a, b, -, -, d, -⟩ := sign_put z
  have f : bodyP (bareP k) = bodyP k := rfl
  rw [f] at d
  have w : putD7 (signP (bareP k) q).1 = bodyP k ++ sealP (signP (bareP k) q).1 := by rw [putD_ok a]; unfold bytesP; rw [d]
  refine ⟨z, a, ?_, ?_⟩
  · rw [w, List.length_append, seal_len, if_pos b]
  · rw [w, List.take_append_of_le_length (Nat.le_refl _), List.take_of_length_le (Nat.le_refl _)]

attribute [local go_sem ↓] loadP_eq storeP_eq boxP_eq allocP_eq zeroP_eq zeroP_eq'

set_option maxHeartbeats 16000000 in
theorem long7_walk (w : World) (h : Hd) (x : Xt) (fs : List Fld) (k : Pak) (q : Ky) (I : Pk w h x fs k) (hq : KeyOk q) :
    Calls Try.prog 7 #[pkV h x, keyV q] w (SaidB w true) := by
  have bx := box_pk h x
  have az := alloc_pk
  have zz := zero_pk
  have B1 : Hid (((w.alloc (.cells (pkC h x) 27)).alloc (.cells #[.int .u32 (q.id : Nat), .int .u64 (q.a : Nat), .int .u64 (q.b : Nat)] 29)).heap[w.heap.size]? = some (.cells (pkC h x) 27 (0, 0))) := heap_alloc2_old w _ _
  have B2 : Hid (((w.alloc (.cells (pkC h x) 27)).alloc (.cells #[.int .u32 (q.id : Nat), .int .u64 (q.a : Nat), .int .u64 (q.b : Nat)] 29)).heap[w.heap.size + 1]? = some (.cells #[.int .u32 (q.id : Nat), .int .u64 (q.a : Nat), .int .u64 (q.b : Nat)] 29 (0, 0))) := heap_alloc2_new w _ _
  have L0 : Hid (Below w.heap.size w ((w.alloc (.cells (pkC h x) 27)).alloc (.cells #[.int .u32 (q.id : Nat), .int .u64 (q.a : Nat), .int .u64 (q.b : Nat)] 29))) := ((Below.refl _ _).alloc (Nat.le_refl _) _).alloc (by simp) _
  have z0 : ((w.alloc (.cells (pkC h x) 27)).alloc (.cells #[.int .u32 (q.id : Nat), .int .u64 (q.a : Nat), .int .u64 (q.b : Nat)] 29)).heap.size = w.heap.size + 1 + 1 := by simp
  have LD1 := load_pk B1.out
  have FP := Lib.hid (few7_all _ h x fs k (I.below L0.out))
  have DX := Lib.hid I.hx.data
  unfold keyV
  clear I
  go_enter Try.func7, Try.ntmps7
  go_wp2_with fail
  generalize (w.alloc (.cells (pkC h x) 27)).alloc (.cells #[.int .u32 (q.id : Nat), .int .u64 (q.a : Nat), .int .u64 (q.b : Nat)] 29) = v at *
  refine FP.out.mono ?_; rintro e w1 ⟨h1, x1, n1, rfl, I1, p1, l1⟩
  have K1 := pk_keep B1.out l1
  have SF := store_pk h1 x1 K1 rfl
  have T := Lib.hid (one_meet (B := v.heap.size) DX.out (Nat.le_refl _) (by omega) I1 p1 (L0.out.trans (l1.mono L0.out.size)) K1)
  have BK := Lib.hid ((setRow_other w1 w.heap.size (w.heap.size + 1) (pkC h1 x1) (by omega)).trans (pk_keep B2.out l1))
  generalize fewP k = K at *
  have LD2 := load_pk T.out.bi
  have BS := Lib.hid p1
  have DF := Lib.hid (cut_data DX.out n1)
  have ZV := Lib.hid z0
  generalize (fs.take n1).map cutF = f1 at *
  clear FP DX I1 p1 l1 K1 LD1 B1 L0 z0 LD2 B2
  go_upto_region 2 with fail
  generalize w1.setRow w.heap.size (pkC h1 x1) = wp at *
  clear SF
  obtain ⟨c13, c14, c15, c16⟩ := pk_at T.out.bi
  have f14 := blk_free (o := 14) T.out.bi
  have f15 := blk_free (o := 15) T.out.bi
  have f16 := blk_free (o := 16) T.out.bi
  have k0 := blk_cell (o := 0) BK.out
  have g0 := blk_free (o := 0) BK.out
  simp only [List.getElem?_toArray, List.getElem?_cons_zero] at k0
  have e1 := Lib.hid (set_seal T.out.bi false 0 0)
  obtain ⟨d, hd⟩ : ∃ d, max q.id 1 = d := ⟨_, rfl⟩
  have m1 : max (q.id : Int) 1 = (d : Int) := by omega
  have m2 : (if (1 : Int) < (q.id : Int) then (q.id : Int) else 1) = (d : Int) := by split <;> omega
  have m3 : (if (q.id : Int) < 1 then (1 : Int) else (q.id : Int)) = (d : Int) := by split <;> omega
  have d0 : d ≠ 0 := by omega
  have D0 := Lib.hid d0
  have DM : Hid (d < 4294967296) := by have := hq.1; unfold Hid; omega
  clear d0
  go_upto_region 4 with fail
  have LW : Hid (Below w.heap.size w ((((wp.setCell ⟨w.heap.size, 14, none⟩ (.bool false)).setCell ⟨w.heap.size, 15, none⟩ (.int .u32 0)).setCell ⟨w.heap.size, 16, none⟩ (.int .u64 0)).setCell ⟨w.heap.size + 1, 0, none⟩ (.int .u32 (d : Nat)))) := (((T.out.low.setCell (Nat.le_refl _) _).setCell (Nat.le_refl _) _).setCell (Nat.le_refl _) _).setCell (Nat.le_succ _) _
  have J : Hid (Pk ((((wp.setCell ⟨w.heap.size, 14, none⟩ (.bool false)).setCell ⟨w.heap.size, 15, none⟩ (.int .u32 0)).setCell ⟨w.heap.size, 16, none⟩ (.int .u64 0)).setCell ⟨w.heap.size + 1, 0, none⟩ (.int .u32 (d : Nat))) h1 ⟨x1.p, x1.n, x1.c, false, 0, 0⟩ f1 (bareP K)) := by
    refine ⟨by rw [T.out.i.e]; rfl, holdsX_row (B := v.heap.size) (fun j hj _ => ?_) T.out.i.hx BS.out (DF.out.below LW.out), bareP_ok T.out.i.ok⟩
    have z := ZV.out
    rw [Below.heap_setCell _ _ _ _ (by simp only; omega), Below.heap_setCell _ _ _ _ (by simp only; omega), Below.heap_setCell _ _ _ _ (by simp only; omega), Below.heap_setCell _ _ _ _ (by simp only; omega)]
  have P1 : Hid (((((wp.setCell ⟨w.heap.size, 14, none⟩ (.bool false)).setCell ⟨w.heap.size, 15, none⟩ (.int .u32 0)).setCell ⟨w.heap.size, 16, none⟩ (.int .u64 0)).setCell ⟨w.heap.size + 1, 0, none⟩ (.int .u32 (d : Nat))).heap[w.heap.size]? = some (.cells (pkC h1 ⟨x1.p, x1.n, x1.c, false, 0, 0⟩) 27 (0, 0))) := set_far e1.out 0 (Nat.ne_of_lt (Nat.lt_succ_self _)) _
  have P2 : Hid (((((wp.setCell ⟨w.heap.size, 14, none⟩ (.bool false)).setCell ⟨w.heap.size, 15, none⟩ (.int .u32 0)).setCell ⟨w.heap.size, 16, none⟩ (.int .u64 0)).setCell ⟨w.heap.size + 1, 0, none⟩ (.int .u32 (d : Nat))).heap[w.heap.size + 1]? = some (.cells #[.int .u32 (d : Nat), .int .u64 (q.a : Nat), .int .u64 (q.b : Nat)] 29 (0, 0))) :=
    blk_set (o := 0) (u := .int .u32 (d : Nat)) (set_far (set_far (set_far BK.out 14 (Nat.succ_ne_self _) _) 15 (Nat.succ_ne_self _) _) 16 (Nat.succ_ne_self _) _)
  clear c13 c14 c15 c16 f14 f15 f16 k0 g0 e1 m1 m2 m3 T BS DF ZV BK
  generalize ((((wp.setCell ⟨w.heap.size, 14, none⟩ (.bool false)).setCell ⟨w.heap.size, 15, none⟩ (.int .u32 0)).setCell ⟨w.heap.size, 16, none⟩ (.int .u64 0)).setCell ⟨w.heap.size + 1, 0, none⟩ (.int .u32 (d : Nat))) = wq at *
  have KQ : Hid (KeyOk ⟨d, q.a, q.b⟩) := ⟨DM.out, hq.2.1, hq.2.2⟩
  obtain ⟨E, hE⟩ : ∃ E, putE7 (bareP K) = E := ⟨_, rfl⟩
  obtain ⟨n, hn⟩ : ∃ n, (putD7 (bareP K)).length = n := ⟨_, rfl⟩
  have G1 : Hid (E ≠ 0 → (signP (bareP K) ⟨d, q.a, q.b⟩).2 = E) := fun g => by rw [← hE] at g ⊢; exact long_bad D0.out g
  have G2 : Hid (E = 0 → 512 < n + 12 → (signP (bareP K) ⟨d, q.a, q.b⟩).2 = 3) := fun g l => long_over D0.out (hE.trans g) (by rw [hn]; exact l)
  have G3 : Hid (E = 0 → n + 12 ≤ 512 → (signP (bareP K) ⟨d, q.a, q.b⟩).2 = 0 ∧ putE7 (signP (bareP K) ⟨d, q.a, q.b⟩).1 = 0 ∧ (putD7 (signP (bareP K) ⟨d, q.a, q.b⟩).1).length = n + 12 ∧ (putD7 (signP (bareP K) ⟨d, q.a, q.b⟩).1).take n = putD7 (bareP K)) := fun g l => by
    have r := long_good (k := K) (q := ⟨d, q.a, q.b⟩) D0.out (hE.trans g) (by rw [hn]; exact l)
    rw [hn] at r
    exact r
  have YB := Lib.hid (putD_byt J.out.ok)
  have NB : Hid (n ≤ 512) := by unfold Hid; rw [← hn]; exact putD_len _
  have A1 := pput7_any wq h1 ⟨x1.p, x1.n, x1.c, false, 0, 0⟩ f1 (bareP K) J.out
  have A2 := Lib.hid (fun W (b : Below wq.heap.size wq W) => show Calls Try.prog 12 #[pkV h1 ⟨x1.p, x1.n, x1.c, false, 0, 0⟩, .agg #[.int .u32 (d : Nat), .int .u64 (q.a : Nat), .int .u64 (q.b : Nat)]] W _ from psign7_any W h1 ⟨x1.p, x1.n, x1.c, false, 0, 0⟩ f1 (bareP K) ⟨d, q.a, q.b⟩ (J.out.below b) KQ.out)
  rw [hE] at A1
  replace A1 := Lib.hid A1
  have HN := Lib.hid hn
  generalize (signP (bareP K) ⟨d, q.a, q.b⟩).1 = X1 at *
  generalize (signP (bareP K) ⟨d, q.a, q.b⟩).2 = E2 at *
  generalize putD7 (bareP K) = D at *
  have LDa := load_pk P1.out
  clear hE hn J DM D0
  go_wp2_with fail
  refine A1.out.mono ?_; rintro e w3 ⟨pb, cb, rfl, nb, l3⟩
  rw [HN.out] at nb ⊢
  have HB := Lib.hid nb.holds
  have L3 := Lib.hid l3
  have LDb := load_pk (pk_keep P1.out l3)
  have K3 := pk_keep P2.out l3
  have k0 := blk_cell (o := 0) K3
  have k1 := blk_cell (o := 1) K3
  have k2 := blk_cell (o := 2) K3
  simp only [List.getElem?_toArray, List.getElem?_cons_zero, List.getElem?_cons_succ] at k0 k1 k2
  clear LDa nb l3 A1 K3
  go_wp2_with fail
  refine (A2.out _ L3.out).mono ?_; rintro e w4 ⟨h4, x4, f4, rfl, I4, l4⟩
  have SN4 := store_new w4 (pkC Hd.zero Xt.zero) h4 x4 rfl
  have AL4 : Below w4.heap.size w4 (w4.alloc (.cells (pkC h4 x4) 27)) := (Below.refl _ _).alloc (Nat.le_refl _) _
  have L4 : Hid (Below w3.heap.size w3 (w4.alloc (.cells (pkC h4 x4) 27))) := l4.trans (AL4.mono l4.size)
  have B4 : Hid ((w4.alloc (.cells (pkC h4 x4) 27)).heap[w4.heap.size]? = some (.cells (pkC h4 x4) 27 (0, 0))) := heap_alloc_new w4 _
  have I4' := Lib.hid (I4.below AL4)
  have HB4 := Lib.hid (HB.out.below L4.out)
  have FW : Hid (Below w.heap.size w (w4.alloc (.cells (pkC h4 x4) 27))) := (LW.out.trans (L3.out.mono LW.out.size)).trans (L4.out.mono (LW.out.trans (L3.out.mono LW.out.size)).size)
  have LD4 := load_pk B4.out
  have AW := Lib.hid (fun W => awake7_any W)
  clear l4 AL4 I4 LDb k0 k1 k2 A2 LW L3 L4 HB P1 P2
  by_cases g : E = 0
  case neg =>
    have r := G1.out g
    subst r
    have g1 : ((E2 : Int) != 0) = true := by rw [bne_iff_ne]; omega
    have g2 : ((E2 : Int) == 0) = false := by rw [beq_eq_false_iff_ne]; omega
    have g3 : ¬ (E2 : Int) = 0 := by omega
    have ee : ((E2 : Int) == (E2 : Int)) = true := beq_self_eq_true _
    clear G1 G2 G3 g YB NB HN HB4 I4'
    go_wp2_with fail
    generalize w4.alloc (.cells (pkC h4 x4) 27) = w5 at *
    refine (AW.out _).mono ?_; rintro e w6 ⟨rfl, l6⟩
    have F6 : Hid (Below w.heap.size w w6) := FW.out.trans (l6.mono FW.out.size)
    clear l6
    go_wp2
    go_ret
    exact ⟨rfl, F6.out⟩
  subst g
  by_cases o : 512 < n + 12
  · have r := G2.out rfl o
    subst r
    have n12 : (512 : Int) < (n : Int) + 12 := by omega
    have nn : (n : Int) ≤ 512 := by have := NB.out; omega
    clear G1 G2 G3 YB NB HN HB4 I4' o
    go_wp2_with fail
    generalize w4.alloc (.cells (pkC h4 x4) 27) = w5 at *
    refine (AW.out _).mono ?_; rintro e w6 ⟨rfl, l6⟩
    have F6 : Hid (Below w.heap.size w w6) := FW.out.trans (l6.mono FW.out.size)
    clear l6
    go_wp2
    go_ret
    exact ⟨rfl, F6.out⟩
  obtain ⟨r1, r2, r3, r4⟩ := G3.out rfl (by omega)
  subst r1
  have YX := Lib.hid (putD_byt I4'.out.ok)
  have A3 := pput7_any _ h4 x4 f4 X1 I4'.out
  rw [r2] at A3
  replace A3 := Lib.hid A3
  obtain ⟨M, hM⟩ : ∃ M, n + 12 = M := ⟨_, rfl⟩
  rw [hM] at r3
  have HM := Lib.hid r3
  have HT := Lib.hid r4
  generalize putD7 X1 = DX1 at *
  have mb : M ≤ 512 := by omega
  obtain ⟨z, hz⟩ : ∃ z, M + z = 513 := ⟨513 - M, by omega⟩
  have e1 : (513 : Int) - (M : Int) = (z : Int) := by omega
  have w1 : IntKind.i64.wrap (z : Int) = (z : Int) := by rw [IntKind.wrap_i64]; omega
  have e2 : (n : Int) + 12 = (M : Int) := by omega
  have w2 : IntKind.i64.wrap (M : Int) = (M : Int) := by rw [IntKind.wrap_i64]; omega
  have ng : ¬ (512 : Int) < (M : Int) := by omega
  have ng' : (M : Int) ≤ 512 := by omega
  have ZB : Hid (M + z ≤ 1000000) := by unfold Hid; omega
  have ZE := Lib.hid hz
  have NM : Hid (n ≤ M) := by unfold Hid; omega
  have MB := Lib.hid mb
  have mm : ((M : Int) == (M : Int)) = true := beq_self_eq_true _
  clear G1 G2 G3 r2 r3 r4 o hz hM mb
  go_wp2_with fail
  generalize w4.alloc (.cells (pkC h4 x4) 27) = w5 at *
  generalize w4.heap.size = N4 at *
  refine A3.out.mono ?_; rintro e w6 ⟨pc, cc, rfl, nc, l6⟩
  rw [HM.out] at nc ⊢
  have HC := Lib.hid nc.holds
  have HB6 := Lib.hid (HB4.out.below l6)
  have F6 : Hid (Below w.heap.size w w6) := FW.out.trans (l6.mono FW.out.size)
  have CL := Lib.hid (clone8_any w6 pc M cc DX1 HC.out (by have := MB.out; omega))
  clear A3 nc l6 HB4 I4' B4 LD4 FW
  go_wp2_with fail
  refine CL.out.mono ?_; rintro e w7 ⟨v7, rfl, o7, l7⟩
  have O7 := Lib.hid o7
  have L7 := Lib.hid l7
  obtain ⟨i0, hi, hz0, hz1, hz2⟩ := info_of info8
  have LAST : Hid (∀ v8 w8, w8.ownsRow w6.heap.size 5 1 v8 (M + z) (valsN .u8 DX1 ++ List.replicate z (Value.int .u8 0)) → Calls Try.prog 23 #[v8] w8 (PakN w8 Pak.zero 3)) := fun v8 w8 o8 => by
    rw [valsN_zeros, ← valsN_append] at o8
    obtain ⟨p8, c8, rfl, h8⟩ := own_holds o8
    have r := pparse7_any w8 p8 (M + z) c8 _ h8 (byt_append YX.out (byt_zeros z))
    rwa [par_long (by rw [List.length_append, List.length_replicate, HM.out]; have := ZE.out; omega)] at r
  clear o7 l7 CL
  go_wp2_with (at_builtin; refine wpList_append_zeros _ rfl _ _ _ _ rfl w6.heap.size 5 i0 (.int .u8 0) .i64 Try.underlying31 Try.underlying3 hi hz0 hz1 hz2 rfl rfl v7 M _ rfl O7.out z rfl ZB.out L7.out.size ?_)
  intro v8 w8 o8 g8 _
  have L8 : Hid (Below w6.heap.size w6 w8) := L7.out.grown g8 L7.out.size (fun j hj => (World.ownsRow.lt O7.out j hj).1)
  have P8 := Lib.hid (LAST.out v8 w8 o8)
  clear o8 g8 LAST
  go_wp2_with fail
  refine P8.out.mono ?_; rintro e w9 ⟨h9, x9, f9, rfl, -, -, l9⟩
  have SN9 := store_new w9 (pkC Hd.zero Xt.zero) h9 x9 rfl
  have AL9 : Below w9.heap.size w9 (w9.alloc (.cells (pkC h9 x9) 27)) := (Below.refl _ _).alloc (Nat.le_refl _) _
  have L9 : Hid (Below w6.heap.size w6 (w9.alloc (.cells (pkC h9 x9) 27))) := L8.out.trans ((l9.trans (AL9.mono l9.size)).mono L8.out.size)
  have L9' : Hid (Below w6.heap.size w6 w9) := L8.out.trans (l9.mono L8.out.size)
  clear l9 AL9 P8 L8 L7 O7
  go_wp2_with fail
  refine (AW.out _).mono ?_; rintro e wa ⟨rfl, la⟩
  have La : Hid (Below w6.heap.size w6 wa) := L9.out.trans (la.mono L9.out.size)
  have HT6 : Hid (Holds w6 pc n cc (valsN .u8 D)) := by
    have r := holdsN_take HC.out (k := n) NM.out
    rwa [HT.out] at r
  have EQ := Lib.hid (bequal_same wa pc pb n cc n cb D (HT6.out.below La.out) (HB6.out.below La.out) YB.out)
  have Fa : Hid (Below w.heap.size w wa) := F6.out.trans (La.out.mono F6.out.size)
  have nc : (n : Int) ≤ (cc : Int) := by have := HT6.out.cap; omega
  clear la L9 L9' HT6 HC HB6 F6 HT
  go_wp2_with fail
  refine EQ.out.mono ?_; rintro e wb ⟨rfl, rfl⟩
  go_wp2
  go_ret
  exact ⟨rfl, Fa.out⟩
end Go.Proofs.Ytfnidehbibfclaa
