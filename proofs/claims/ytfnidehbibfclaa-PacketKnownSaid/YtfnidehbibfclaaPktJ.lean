/- Layer 7 (packet): the program's Sign, Right. (Written by wip/tools/genpktsign.py.) -/
import Derived.Test.YtfnidehbibfclaaPktG
import Derived.Test.YtfnidehbibfclaaPktI
import Derived.Test.YtfnidehbibfclaaGK
import Derived.Deep.RegionWith
import Derived.Deep.RegionHeld3
set_option maxRecDepth 100000
namespace Go.Proofs.Ytfnidehbibfclaa
open Go.ChangeShapes Go.WideShapes Go.ChangeAt Go.RowKit OctM

theorem pbody7_any (w : World) (p : Option Addr) (n c m : Nat) (hm : n = m + 12) (hc : n ≤ c) (hx : c ≤ maxLen) :
    Calls Try.prog 35 #[.slice p n c] w fun e w' => e = .returned (.slice p m c) ∧ w = w' := by
  subst hm
  unfold maxLen at hx
  have e1 : ((m + 12 : Nat) : Int) - 12 = (m : Int) := by omega
  have c1 : (m : Int) ≤ (c : Int) := by omega
  have w1 : IntKind.i64.wrap (m : Int) = (m : Int) := by rw [IntKind.wrap_i64]; omega
  obtain ⟨z, hz⟩ : ∃ z, m + 12 = z := ⟨_, rfl⟩
  rw [hz] at e1 ⊢
  have w2 : IntKind.i64.wrap ((z : Int) - 12) = (m : Int) := by rw [e1]; exact w1
  clear hc hx hz
  go_enter Try.func35, Try.ntmps35
  go_wp2
  go_ret
  exact ⟨rfl, rfl⟩

attribute [local go_sem ↓] loadP_eq storeP_eq boxP_eq allocP_eq zeroP_eq zeroP_eq'

set_option maxHeartbeats 16000000 in
theorem psign7_any (w : World) (h : Hd) (x : Xt) (fs : List Fld) (k : Pak) (q : Ky) (I : Pk w h x fs k) (hq : KeyOk q) :
    Calls Try.prog 12 #[pkV h x, keyV q] w (PakR w (signP k q).1 (signP k q).2) := by
  have bx := box_pk h x
  have az := alloc_pk
  have zz := zero_pk
  have G0 : (((w.alloc (.cells (pkC h x) 27)).alloc (.cells #[.int .u32 (q.id : Nat), .int .u64 (q.a : Nat), .int .u64 (q.b : Nat)] 29)).alloc (.cells (pkC Hd.zero Xt.zero) 27)).heap[w.heap.size]? = some (.cells (pkC h x) 27 (0, 0)) := pk_keep (pk_keep (heap_alloc_new w _) ((Below.refl _ _).alloc (Nat.le_refl _) _)) ((Below.refl _ _).alloc (Nat.le_refl _) _)
  have K0 : (((w.alloc (.cells (pkC h x) 27)).alloc (.cells #[.int .u32 (q.id : Nat), .int .u64 (q.a : Nat), .int .u64 (q.b : Nat)] 29)).alloc (.cells (pkC Hd.zero Xt.zero) 27)).heap[w.heap.size + 1]? = some (.cells #[.int .u32 (q.id : Nat), .int .u64 (q.a : Nat), .int .u64 (q.b : Nat)] 29 (0, 0)) := pk_keep (heap_alloc2_new w _ _) ((Below.refl _ _).alloc (Nat.le_refl _) _)
  have c14 := (pk_at G0).2.1
  have c15 := (pk_at G0).2.2.1
  have c16 := (pk_at G0).2.2.2
  have k0 := blk_cell (o := 0) K0
  simp only [List.getElem?_toArray, List.getElem?_cons_zero] at k0
  have p14 : (pkC h x)[14]? = some (.bool x.sg) := rfl
  have p15 : (pkC h x)[15]? = some (.int .u32 (x.ky : Nat)) := rfl
  have p16 : (pkC h x)[16]? = some (.int .u64 (x.tg : Nat)) := rfl
  have EC : (((pkC h x).setIfInBounds 14 (.bool true)).setIfInBounds 15 (.int .u32 (q.id : Nat))).setIfInBounds 16 (.int .u64 0) = pkC h ⟨x.p, x.n, x.c, true, q.id, 0⟩ := rfl
  have B1 : Hid ((((w.alloc (.cells (pkC h ⟨x.p, x.n, x.c, true, q.id, 0⟩) 27)).alloc (.cells #[.int .u32 (q.id : Nat), .int .u64 (q.a : Nat), .int .u64 (q.b : Nat)] 29)).alloc (.cells (pkC Hd.zero Xt.zero) 27)).drew.heap[w.heap.size]? = some (.cells (pkC h ⟨x.p, x.n, x.c, true, q.id, 0⟩) 27 (0, 0))) := show (((w.alloc (.cells (pkC h ⟨x.p, x.n, x.c, true, q.id, 0⟩) 27)).alloc (.cells #[.int .u32 (q.id : Nat), .int .u64 (q.a : Nat), .int .u64 (q.b : Nat)] 29)).alloc (.cells (pkC Hd.zero Xt.zero) 27)).heap[w.heap.size]? = _ from pk_keep (pk_keep (heap_alloc_new w _) ((Below.refl _ _).alloc (Nat.le_refl _) _)) ((Below.refl _ _).alloc (Nat.le_refl _) _)
  have B2 : Hid ((((w.alloc (.cells (pkC h ⟨x.p, x.n, x.c, true, q.id, 0⟩) 27)).alloc (.cells #[.int .u32 (q.id : Nat), .int .u64 (q.a : Nat), .int .u64 (q.b : Nat)] 29)).alloc (.cells (pkC Hd.zero Xt.zero) 27)).drew.heap[w.heap.size + 1]? = some (.cells #[.int .u32 (q.id : Nat), .int .u64 (q.a : Nat), .int .u64 (q.b : Nat)] 29 (0, 0))) := show (((w.alloc (.cells (pkC h ⟨x.p, x.n, x.c, true, q.id, 0⟩) 27)).alloc (.cells #[.int .u32 (q.id : Nat), .int .u64 (q.a : Nat), .int .u64 (q.b : Nat)] 29)).alloc (.cells (pkC Hd.zero Xt.zero) 27)).heap[w.heap.size + 1]? = _ from pk_keep (heap_alloc2_new w _ _) ((Below.refl _ _).alloc (Nat.le_refl _) _)
  have B3 : Hid ((((w.alloc (.cells (pkC h ⟨x.p, x.n, x.c, true, q.id, 0⟩) 27)).alloc (.cells #[.int .u32 (q.id : Nat), .int .u64 (q.a : Nat), .int .u64 (q.b : Nat)] 29)).alloc (.cells (pkC Hd.zero Xt.zero) 27)).drew.heap[w.heap.size + 1 + 1]? = some (.cells (pkC Hd.zero Xt.zero) 27 (0, 0))) := by
    have := heap_alloc_new ((w.alloc (.cells (pkC h ⟨x.p, x.n, x.c, true, q.id, 0⟩) 27)).alloc (.cells #[.int .u32 (q.id : Nat), .int .u64 (q.a : Nat), .int .u64 (q.b : Nat)] 29)) (.cells (pkC Hd.zero Xt.zero) 27)
    show (((w.alloc (.cells (pkC h ⟨x.p, x.n, x.c, true, q.id, 0⟩) 27)).alloc (.cells #[.int .u32 (q.id : Nat), .int .u64 (q.a : Nat), .int .u64 (q.b : Nat)] 29)).alloc (.cells (pkC Hd.zero Xt.zero) 27)).heap[w.heap.size + 1 + 1]? = _
    simpa using this
  have L1 : Hid (Below w.heap.size w (((w.alloc (.cells (pkC h ⟨x.p, x.n, x.c, true, q.id, 0⟩) 27)).alloc (.cells #[.int .u32 (q.id : Nat), .int .u64 (q.a : Nat), .int .u64 (q.b : Nat)] 29)).alloc (.cells (pkC Hd.zero Xt.zero) 27)).drew) := ((((Below.refl _ _).alloc (Nat.le_refl _) _).alloc (by simp) _).alloc (by simp; omega) _).drew
  have LD := load_pk B1.out
  have PT := Lib.hid (fun w' (b : Below w.heap.size w w') => pput7_any w' h ⟨x.p, x.n, x.c, true, q.id, 0⟩ fs (forP k q.id) ((I.for hq.1).below b))
  have J := Lib.hid (I.for hq.1)
  have HQ := Lib.hid hq
  have SE : Hid (putE7 (forP k q.id) ≠ 0 → (signP k q).1 = Pak.zero ∧ (signP k q).2 = putE7 (forP k q.id)) := fun g => by rw [sign_bad g]; exact ⟨rfl, rfl⟩
  have SO : Hid (putE7 (forP k q.id) = 0 → (signP k q).1 = { forP k q.id with tg := tagP k q } ∧ (signP k q).2 = 0) := fun g => by rw [sign_ok g]; exact ⟨rfl, rfl⟩
  generalize (signP k q).1 = K1 at *
  generalize (signP k q).2 = E1 at *
  clear K0 I hq G0
  unfold keyV
  go_enter Try.func12, Try.ntmps12
  go_wp2_with fail
  go_region
  generalize (((w.alloc (.cells (pkC h ⟨x.p, x.n, x.c, true, q.id, 0⟩) 27)).alloc (.cells #[.int .u32 (q.id : Nat), .int .u64 (q.a : Nat), .int .u64 (q.b : Nat)] 29)).alloc (.cells (pkC Hd.zero Xt.zero) 27)).drew = v at *
  go_wp2_with fail
  refine (PT.out _ L1.out).mono ?_; rintro e w2 ⟨pb, cb, rfl, nb, l2⟩
  have C1 := Lib.hid (pk_keep B1.out l2)
  have C2 := Lib.hid (pk_keep B2.out l2)
  have C3 := Lib.hid (pk_keep B3.out l2)
  have L2 : Hid (Below w.heap.size w w2) := L1.out.trans (l2.mono L1.out.size)
  have SB : w.heap.size + 1 + 1 ≠ w.heap.size := by omega
  have NB := Lib.hid nb.holds
  clear l2 nb LD c14 c15 c16 k0 p14 p15 p16 EC PT B1 B2 B3 L1
  obtain ⟨E, hE⟩ : ∃ E, putE7 (forP k q.id) = E := ⟨_, rfl⟩
  have PD := @putD_ok (forP k q.id)
  have PM := @putE_may (forP k q.id)
  rw [hE] at SE SO PD PM
  rw [hE]
  by_cases g : E = 0
  · subst g
    obtain ⟨e1, e2⟩ := SO.out rfl
    obtain ⟨m, m512⟩ := PM rfl
    have pd := PD rfl
    have D1 : Hid (w2.drew.heap[w.heap.size]? = some (.cells (pkC h ⟨x.p, x.n, x.c, true, q.id, 0⟩) 27 (0, 0))) := C1.out
    have D2 : Hid (w2.drew.heap[w.heap.size + 1]? = some (.cells #[.int .u32 (q.id : Nat), .int .u64 (q.a : Nat), .int .u64 (q.b : Nat)] 29 (0, 0))) := C2.out
    have D3 : Hid (w2.drew.heap[w.heap.size + 1 + 1]? = some (.cells (pkC Hd.zero Xt.zero) 27 (0, 0))) := C3.out
    have L2d : Hid (Below w.heap.size w w2.drew) := L2.out.drew
    have k0 := blk_cell (o := 0) C2.out
    have k1 := blk_cell (o := 1) C2.out
    have k2 := blk_cell (o := 2) C2.out
    simp only [List.getElem?_toArray, List.getElem?_cons_zero, List.getElem?_cons_succ] at k0 k1 k2
    have BD : Byt (bodyP (forP k q.id)) := body_byt m.2.1 J.out.ok
    have bn : (bodyP (forP k q.id)).length ≤ 2000000 := by rw [body_len]; have := fields_le m.2.1; omega
    have ln : (putD7 (forP k q.id)).length = (bodyP (forP k q.id)).length + 12 := by rw [pd]; unfold bytesP; rw [List.length_append, seal_len]; rfl
    have HB : Hid (Holds w2.drew pb (bodyP (forP k q.id)).length cb (valsN .u8 (bodyP (forP k q.id)))) := by
      have h0 := holdsN_take (k := (bodyP (forP k q.id)).length) NB.out (by omega)
      have e0 : (putD7 (forP k q.id)).take (bodyP (forP k q.id)).length = bodyP (forP k q.id) := by
        rw [pd]
        unfold bytesP
        rw [List.take_append_of_le_length (Nat.le_refl _), List.take_of_length_le (Nat.le_refl _)]
      rw [e0] at h0
      exact h0.below ((Below.refl _ _).drew)
    have BO : Hid (∀ w', Calls Try.prog 35 #[.slice pb (putD7 (forP k q.id)).length cb] w' fun e w4 => e = .returned (.slice pb (bodyP (forP k q.id)).length cb) ∧ w' = w4) := fun w' => pbody7_any w' pb _ cb _ ln NB.out.cap NB.out.max
    have TL : tagP (forP k q.id) q < 18446744073709551616 := tagP_lt J.out.ok m.2.1 HQ.out
    obtain ⟨t, ht⟩ : ∃ t, tagP (forP k q.id) q = t := ⟨_, rfl⟩
    have RT : Hid (∀ w' N, Below w2.drew.heap.size w2.drew w' → w'.heap[N]? = some (.cells #[.slice pb (bodyP (forP k q.id)).length cb] 31 (0, 0)) → Calls Try.prog 34 #[.agg #[.int .u32 (q.id : Nat), .int .u64 (q.a : Nat), .int .u64 (q.b : Nat)], .slice (some ⟨N, 0, none⟩) 1 1] w' fun e w4 => e = .returned (.int .u64 (t : Nat)) ∧ Below w2.drew.heap.size w2.drew w4) := fun w' N la hN => by
      rw [← ht]
      refine (ptag_any w' q _ 1 1 [⟨pb, (bodyP (forP k q.id)).length, cb, bodyP (forP k q.id)⟩] HQ.out (litP _ hN rfl rfl (fun q hq => by obtain rfl := List.mem_singleton.1 hq; exact HB.out.below la) (by decide)) (fun q hq => by obtain rfl := List.mem_singleton.1 hq; exact BD) (by decide) (by simpa [totalP] using bn)).mono ?_
      rintro e w4 ⟨rfl, l4⟩
      refine ⟨by simp [joinP, tagP], la.trans (l4.mono la.size)⟩
    have fn : fs.length = x.n := J.out.hx.len
    have CP : Hid (∀ w', Below w.heap.size w w' → Calls Try.prog 36 #[.slice x.p x.n x.c] w' (FewB w' (says fs))) := fun w' b => pcopied7_any w' x.p x.n x.c fs (J.out.hx.below b) (by
        have := m.2.1.2
        rw [J.out.l] at this
        unfold says at this
        rw [List.length_map] at this
        omega) (fun f hf => by
        have a := m.2.1.1 (f.ty, f.ds) (by rw [J.out.l]; unfold says; exact List.mem_map.2 ⟨f, hf, rfl⟩)
        have b := (J.out.hx.data f hf).len
        rw [valsN_len] at b
        unfold longN at a
        simp only at a
        omega)
    have FIN : Hid (∀ W p n c gs, HoldsX W p n c gs → says gs = says fs → Below w.heap.size w W → PakR w K1 E1 (.returned (.tuple #[pkV h ⟨p, n, c, true, q.id, t⟩, .int .i64 0])) W) := fun W p n c gs hx hs l => by
      rw [e1, e2, show tagP k q = t from ht]
      refine ⟨_, _, gs, rfl, ⟨?_, hx, ⟨J.out.ok.wf, J.out.ok.fl, J.out.ok.ky, by rw [← ht]; exact TL⟩⟩, l⟩
      rw [J.out.e, hs]
    clear m m512 pd BD bn TL ht HQ SO SE PD PM hE fn NB
    generalize (putD7 (forP k q.id)).length = PL at *
    generalize (bodyP (forP k q.id)).length = BL at *
    clear ln
    have HB0 : Below w2.drew.heap.size w2.drew w2.drew := Below.refl _ _
    go_wp2_with fail
    have KK : Hid (∀ w', Below w2.drew.heap.size w2.drew w' → w'.cell? ⟨w.heap.size + 1, 0, none⟩ = some (.int .u32 (q.id : Nat)) ∧ w'.cell? ⟨w.heap.size + 1, 1, none⟩ = some (.int .u64 (q.a : Nat)) ∧ w'.cell? ⟨w.heap.size + 1, 2, none⟩ = some (.int .u64 (q.b : Nat))) := fun w' hb => by
      have c0 := blk_cell (o := 0) D2.out
      have c1 := blk_cell (o := 1) D2.out
      have c2 := blk_cell (o := 2) D2.out
      exact ⟨(hb.cell (World.block_lt_of_cell? _ _ c0)).trans c0, (hb.cell (World.block_lt_of_cell? _ _ c1)).trans c1, (hb.cell (World.block_lt_of_cell? _ _ c2)).trans c2⟩
    have KX : Hid (∀ w', Below w2.drew.heap.size w2.drew w' → ∀ u, (w'.setCell ⟨w.heap.size, 16, none⟩ u).cell? ⟨w.heap.size + 1, 0, none⟩ = some (.int .u32 (q.id : Nat)) ∧ (w'.setCell ⟨w.heap.size, 16, none⟩ u).cell? ⟨w.heap.size + 1, 1, none⟩ = some (.int .u64 (q.a : Nat)) ∧ (w'.setCell ⟨w.heap.size, 16, none⟩ u).cell? ⟨w.heap.size + 1, 2, none⟩ = some (.int .u64 (q.b : Nat))) := fun w' hb u => by
      have D := set_far (pk_keep D2.out hb) 16 (show w.heap.size + 1 ≠ w.heap.size by omega) u
      exact ⟨blk_cell (o := 0) D, blk_cell (o := 1) D, blk_cell (o := 2) D⟩
    clear k0 k1 k2
    go_region_held3 (fun w' => w'.cell? ⟨w.heap.size + 1, 0, none⟩ = some (.int .u32 (q.id : Nat)) ∧ w'.cell? ⟨w.heap.size + 1, 1, none⟩ = some (.int .u64 (q.a : Nat)) ∧ w'.cell? ⟨w.heap.size + 1, 2, none⟩ = some (.int .u64 (q.b : Nat)))
      (first | exact KK.out _ HB0 | exact KK.out _ (HB0.alloc HB0.size _) | exact KX.out _ HB0 _ | exact KK.out _ HB0.drew | exact KK.out _ (HB0.alloc HB0.size _).drew)
      (first
        | (go_at_call 35; refine (BO.out _).mono ?_; rintro e w4 ⟨rfl, rfl⟩)
        | (go_at_call 34; refine (RT.out _ _ (by first | exact (HB0.alloc HB0.size _).drew | exact HB0.alloc HB0.size _) (by exact heap_alloc_new _ _)).mono ?_; rintro e w5 ⟨rfl, l5⟩; have c16 := (pk_at (pk_keep D1.out l5)).2.2.2; have f16 := blk_free (o := 16) (pk_keep D1.out l5); have L5 : Hid (Below w.heap.size w (w5.setCell ⟨w.heap.size, 16, none⟩ (.int .u64 (t : Nat)))) := (L2d.out.trans (l5.mono L2d.out.size)).setCell (Nat.le_refl _) _; have N1 := Lib.hid (set_tag (pk_keep D1.out l5) t); have N3 := Lib.hid (set_far (pk_keep D3.out l5) 16 SB (.int .u64 (t : Nat))); have HB0 := l5; clear l5))
    all_goals
      clear c16 f16 HB0 KK KX D1 D2 D3 BO RT C1 C2 C3
      generalize (w5.setCell ⟨w.heap.size, 16, none⟩ (.int .u64 (t : Nat))) = v5 at *
      have c13 := (pk_at N1.out).1
      go_wp2_with fail
      refine (CP.out _ L5.out).mono ?_; rintro e w6 ⟨p6, n6, c6, gs, rfl, hx6, hs6, hp6, hf6, l6⟩
      have M1 := Lib.hid (pk_keep N1.out l6)
      have M3 := Lib.hid (pk_keep N3.out l6)
      have z5 : w.heap.size + 1 + 1 < v5.heap.size := (Array.getElem?_eq_some_iff.1 N3.out).1
      have c13' := (pk_at M1.out).1
      have f13 := blk_free (o := 13) M1.out
      have L6 : Hid (Below w.heap.size w w6) := L5.out.trans (l6.mono L5.out.size)
      have L7 : Hid (Below w.heap.size w (w6.setCell ⟨w.heap.size, 13, none⟩ (.slice p6 n6 c6))) := L6.out.setCell (Nat.le_refl _) _
      have P1 : Hid ((w6.setCell ⟨w.heap.size, 13, none⟩ (.slice p6 n6 c6)).heap[w.heap.size]? = some (.cells (pkC h ⟨p6, n6, c6, true, q.id, t⟩) 27 (0, 0))) := blk_set (o := 13) (u := .slice p6 n6 c6) M1.out
      have P3 := Lib.hid (set_far M3.out 13 SB (.slice p6 n6 c6))
      have LD7 := load_pk P1.out
      have SF := store_pk h ⟨p6, n6, c6, true, q.id, t⟩ P3.out rfl
      have HG := Lib.hid (setRow_heap _ (w.heap.size + 1 + 1) _ (pkC h ⟨p6, n6, c6, true, q.id, t⟩) _ _ P3.out)
      have L8 := Lib.hid (Below.setRow L7.out (g := w.heap.size + 1 + 1) (by omega) (pkC h ⟨p6, n6, c6, true, q.id, t⟩))
      have HX8 := Lib.hid (holdsX_far (W' := (w6.setCell ⟨w.heap.size, 13, none⟩ (.slice p6 n6 c6)).setRow (w.heap.size + 1 + 1) (pkC h ⟨p6, n6, c6, true, q.id, t⟩)) (B := v5.heap.size) (fun j hj => (setRow_other _ _ _ _ (by omega)).trans (Below.heap_setCell _ _ _ _ (by simp only; omega))) hx6 hp6 hf6)
      have F8 := Lib.hid (FIN.out _ _ _ _ gs HX8.out hs6 L8.out)
      clear l6 hx6 hs6 hp6 hf6 M1 M3 z5 L6 N1 N3 L5 CP FIN HX8 L8 L7 P1 P3
      go_wp2
      (try simp only [Exit.inBlock, Exit.then])
      refine bodyPost_ret (results_pk2 rfl _ _ (w.heap.size + 1 + 1) h ⟨p6, n6, c6, true, q.id, t⟩ rfl HG.out) rfl ?_
      exact F8.out
  · have FIN : Hid (∀ W, Below w.heap.size w W → PakR w K1 E1 (.returned (.tuple #[pkV Hd.zero Xt.zero, .int .i64 (E : Nat)])) W) := fun W l => by
      obtain ⟨e1, e2⟩ := SE.out g
      rw [e1, e2]
      exact pakR_err l
    have g1 : ((E : Int) != 0) = true := by rw [bne_iff_ne]; omega
    have g2 : ((E : Int) == 0) = false := by rw [beq_eq_false_iff_ne]; omega
    have g3 : ¬ (E : Int) = 0 := by omega
    have SF := store_same C3.out
    clear SO SE J HQ g PD PM
    go_wp2
    (try simp only [Exit.inBlock, Exit.then])
    refine bodyPost_ret (results_pk2 rfl _ _ (w.heap.size + 1 + 1) Hd.zero Xt.zero rfl C3.out) rfl ?_
    exact FIN.out _ L2.out
end Go.Proofs.Ytfnidehbibfclaa
