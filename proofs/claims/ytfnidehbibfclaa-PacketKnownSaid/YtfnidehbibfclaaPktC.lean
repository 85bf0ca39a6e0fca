/- Layer 7 (packet): the document's own Sign, Right. -/
import Derived.Test.YtfnidehbibfclaaPktB
import Derived.Test.YtfnidehbibfclaaGJ
import Derived.Test.YtfnidehbibfclaaGL
import Derived.Deep.RegionWith
set_option maxRecDepth 100000
namespace Go.Proofs.Ytfnidehbibfclaa
open Go.ChangeShapes Go.WideShapes Go.ChangeAt Go.RowKit OctM

/-- A packet that says k, and an error's number, are told. -/
def PakR (w : World) (k : Pak) (E : Nat) (e : Ending) (w' : World) : Prop :=
  ∃ h x fs, e = .returned (.tuple #[pkV h x, .int .i64 (E : Nat)]) ∧ Pk w' h x fs k ∧ Below w.heap.size w w'
theorem results_pk2 {fn : Func} {p u : Tmp} (h : fn.results = #[.cell p 27, .tmp u]) (tmps : Array Value) (w : World) (N : Nat) (hd : Hd) (x : Xt)
    (hp : tmps.getD p undef = .pointer (some ⟨N, 0, none⟩)) (hg : w.heap[N]? = some (.cells (pkC hd x) 27 (0, 0))) :
    (results fn tmps).run Try.prog w = .ok (.tuple #[pkV hd x, tmps.getD u undef]) w := by
  have hp' : tmps[p]?.getD undef = .pointer (some ⟨N, 0, none⟩) := by simpa using hp
  simp [results, h, hp', asAddr, loadVar_pk hg]
theorem set_seal {w : World} {N : Nat} {h : Hd} {x : Xt} (hg : w.heap[N]? = some (.cells (pkC h x) 27 (0, 0))) (b : Bool) (i t : Nat) :
    (((w.setCell ⟨N, 14, none⟩ (.bool b)).setCell ⟨N, 15, none⟩ (.int .u32 (i : Nat))).setCell ⟨N, 16, none⟩ (.int .u64 (t : Nat))).heap[N]? = some (.cells (pkC h ⟨x.p, x.n, x.c, b, i, t⟩) 27 (0, 0)) := by
  have e : pkC h ⟨x.p, x.n, x.c, b, i, t⟩ = (((pkC h x).set! 14 (.bool b)).set! 15 (.int .u32 (i : Nat))).set! 16 (.int .u64 (t : Nat)) := rfl
  rw [e]
  exact blk_set (blk_set (blk_set hg))
theorem set_tag {w : World} {N : Nat} {h : Hd} {x : Xt} (hg : w.heap[N]? = some (.cells (pkC h x) 27 (0, 0))) (t : Nat) :
    (w.setCell ⟨N, 16, none⟩ (.int .u64 (t : Nat))).heap[N]? = some (.cells (pkC h { x with tg := t }) 27 (0, 0)) := by
  have e : pkC h { x with tg := t } = (pkC h x).set! 16 (.int .u64 (t : Nat)) := rfl
  rw [e]
  exact blk_set hg
theorem set_far {w : World} {N M : Nat} {o : Obj} (hg : w.heap[N]? = some o) (i : Nat) (hn : N ≠ M) (a : Value) : (w.setCell ⟨M, i, none⟩ a).heap[N]? = some o := by
  rw [Below.heap_setCell _ _ _ _ hn]
  exact hg
/-- A packet that is to be signed. -/
theorem Pk.for {w : World} {h : Hd} {x : Xt} {fs : List Fld} {k : Pak} (I : Pk w h x fs k) {id : Nat} (hi : id < 4294967296) : Pk w h ⟨x.p, x.n, x.c, true, id, 0⟩ fs (forP k id) := ⟨by rw [I.e]; rfl, I.hx, forP_ok I.ok hi⟩
theorem Pk.tag {w : World} {h : Hd} {x : Xt} {fs : List Fld} {k : Pak} (I : Pk w h x fs k) {t : Nat} (ht : t < 18446744073709551616) : Pk w h { x with tg := t } fs { k with tg := t } := ⟨by rw [I.e], I.hx, ⟨I.ok.wf, I.ok.fl, I.ok.ky, ht⟩⟩
theorem pakR_err {w w' : World} {E : Nat} (l : Below w.heap.size w w') : PakR w Pak.zero E (.returned (.tuple #[pkV Hd.zero Xt.zero, .int .i64 (E : Nat)])) w' := ⟨_, _, [], rfl, pk_zero w', l⟩

attribute [local go_sem ↓] loadP_eq storeP_eq boxP_eq allocP_eq zeroP_eq zeroP_eq'

set_option maxHeartbeats 16000000 in
theorem rsign7_any (w : World) (h : Hd) (x : Xt) (fs : List Fld) (k : Pak) (q : Ky) (I : Pk w h x fs k) (hq : KeyOk q) :
    Calls Try.prog 13 #[pkV h x, keyV q] w (PakR w (signP k q).1 (signP k q).2) := by
  have bx := box_pk h x
  have az := alloc_pk
  have zz := zero_pk
  have EC : (((pkC h x).setIfInBounds 14 (.bool true)).setIfInBounds 15 (.int .u32 (q.id : Nat))).setIfInBounds 16 (.int .u64 0) = pkC h ⟨x.p, x.n, x.c, true, q.id, 0⟩ := rfl
  have G0 : (((w.alloc (.cells (pkC h x) 27)).alloc (.cells #[.int .u32 (q.id : Nat), .int .u64 (q.a : Nat), .int .u64 (q.b : Nat)] 29)).alloc (.cells (pkC Hd.zero Xt.zero) 27)).heap[w.heap.size]? = some (.cells (pkC h x) 27 (0, 0)) := pk_keep (pk_keep (heap_alloc_new w _) ((Below.refl _ _).alloc (Nat.le_refl _) _)) ((Below.refl _ _).alloc (Nat.le_refl _) _)
  have c14 := (pk_at G0).2.1
  have c15 := (pk_at G0).2.2.1
  have c16 := (pk_at G0).2.2.2
  have B1 : Hid ((((w.alloc (.cells (pkC h ⟨x.p, x.n, x.c, true, q.id, 0⟩) 27)).alloc (.cells #[.int .u32 (q.id : Nat), .int .u64 (q.a : Nat), .int .u64 (q.b : Nat)] 29)).alloc (.cells (pkC Hd.zero Xt.zero) 27)).heap[w.heap.size]? = some (.cells (pkC h ⟨x.p, x.n, x.c, true, q.id, 0⟩) 27 (0, 0))) := pk_keep (pk_keep (heap_alloc_new w _) ((Below.refl _ _).alloc (Nat.le_refl _) _)) ((Below.refl _ _).alloc (Nat.le_refl _) _)
  have B2 : Hid ((((w.alloc (.cells (pkC h ⟨x.p, x.n, x.c, true, q.id, 0⟩) 27)).alloc (.cells #[.int .u32 (q.id : Nat), .int .u64 (q.a : Nat), .int .u64 (q.b : Nat)] 29)).alloc (.cells (pkC Hd.zero Xt.zero) 27)).heap[w.heap.size + 1]? = some (.cells #[.int .u32 (q.id : Nat), .int .u64 (q.a : Nat), .int .u64 (q.b : Nat)] 29 (0, 0))) := pk_keep (heap_alloc2_new w _ _) ((Below.refl _ _).alloc (Nat.le_refl _) _)
  have B3 : Hid ((((w.alloc (.cells (pkC h ⟨x.p, x.n, x.c, true, q.id, 0⟩) 27)).alloc (.cells #[.int .u32 (q.id : Nat), .int .u64 (q.a : Nat), .int .u64 (q.b : Nat)] 29)).alloc (.cells (pkC Hd.zero Xt.zero) 27)).heap[w.heap.size + 1 + 1]? = some (.cells (pkC Hd.zero Xt.zero) 27 (0, 0))) := by
    have := heap_alloc_new ((w.alloc (.cells (pkC h ⟨x.p, x.n, x.c, true, q.id, 0⟩) 27)).alloc (.cells #[.int .u32 (q.id : Nat), .int .u64 (q.a : Nat), .int .u64 (q.b : Nat)] 29)) (.cells (pkC Hd.zero Xt.zero) 27)
    unfold Hid
    simpa using this
  have L1 : Hid (Below w.heap.size w (((w.alloc (.cells (pkC h ⟨x.p, x.n, x.c, true, q.id, 0⟩) 27)).alloc (.cells #[.int .u32 (q.id : Nat), .int .u64 (q.a : Nat), .int .u64 (q.b : Nat)] 29)).alloc (.cells (pkC Hd.zero Xt.zero) 27))) := (((Below.refl _ _).alloc (Nat.le_refl _) _).alloc (by simp) _).alloc (by simp; omega) _
  have LD := load_pk B1.out
  have PT := Lib.hid (fun w' (b : Below w.heap.size w w') => rput7_any w' h ⟨x.p, x.n, x.c, true, q.id, 0⟩ fs (forP k q.id) ((I.for hq.1).below b))
  have J := Lib.hid (I.for hq.1)
  have HQ := Lib.hid hq
  have SE : Hid (putE7 (forP k q.id) ≠ 0 → (signP k q).1 = Pak.zero ∧ (signP k q).2 = putE7 (forP k q.id)) := fun g => by rw [sign_bad g]; exact ⟨rfl, rfl⟩
  have SO : Hid (putE7 (forP k q.id) = 0 → (signP k q).1 = { forP k q.id with tg := tagP k q } ∧ (signP k q).2 = 0 ∧ mayP (forP k q.id)) := fun g => by rw [sign_ok g]; exact ⟨rfl, rfl, (putE_may g).1⟩
  generalize (signP k q).1 = K1 at *
  generalize (signP k q).2 = E1 at *
  clear I hq G0
  unfold keyV
  go_enter Try.func13, Try.ntmps13
  go_wp2_with fail
  generalize (((w.alloc (.cells (pkC h ⟨x.p, x.n, x.c, true, q.id, 0⟩) 27)).alloc (.cells #[.int .u32 (q.id : Nat), .int .u64 (q.a : Nat), .int .u64 (q.b : Nat)] 29)).alloc (.cells (pkC Hd.zero Xt.zero) 27)) = v at *
  refine (PT.out _ L1.out).mono ?_; rintro e w2 ⟨pb, cb, rfl, nb, l2⟩
  have C1 := Lib.hid (pk_keep B1.out l2)
  have C2 := Lib.hid (pk_keep B2.out l2)
  have C3 := Lib.hid (pk_keep B3.out l2)
  have L2 : Hid (Below w.heap.size w w2) := L1.out.trans (l2.mono L1.out.size)
  have SB : w.heap.size + 1 + 1 ≠ w.heap.size := by omega
  clear l2 nb LD c14 c15 c16 EC PT B1 B2 B3
  obtain ⟨E, hE⟩ : ∃ E, putE7 (forP k q.id) = E := ⟨_, rfl⟩
  rw [hE] at SE SO
  rw [hE]
  by_cases g : E = 0
  · subst g
    obtain ⟨e1, e2, m⟩ := SO.out rfl
    have D1 : Hid (w2.drew.heap[w.heap.size]? = some (.cells (pkC h ⟨x.p, x.n, x.c, true, q.id, 0⟩) 27 (0, 0))) := C1.out
    have D2 : Hid (w2.drew.heap[w.heap.size + 1]? = some (.cells #[.int .u32 (q.id : Nat), .int .u64 (q.a : Nat), .int .u64 (q.b : Nat)] 29 (0, 0))) := C2.out
    have D3 : Hid (w2.drew.heap[w.heap.size + 1 + 1]? = some (.cells (pkC Hd.zero Xt.zero) 27 (0, 0))) := C3.out
    have LD2 := load_pk D1.out
    have M := Lib.hid m
    have k0 := blk_cell (o := 0) C2.out
    have k1 := blk_cell (o := 1) C2.out
    have k2 := blk_cell (o := 2) C2.out
    simp only [List.getElem?_toArray, List.getElem?_cons_zero, List.getElem?_cons_succ] at k0 k1 k2
    have L2d : Hid (Below w.heap.size w w2.drew) := L2.out.drew
    have BD : Byt (bodyP (forP k q.id)) := body_byt m.2.1 J.out.ok
    have BN : (bodyP (forP k q.id)).length ≤ 2000000 := by rw [body_len]; have := fields_le m.2.1; omega
    have TL : tagP (forP k q.id) q < 18446744073709551616 := tagP_lt J.out.ok m.2.1 HQ.out
    obtain ⟨t, ht⟩ : ∃ t, tagP (forP k q.id) q = t := ⟨_, rfl⟩
    have RT : Hid (∀ w p n c, Holds w p n c (valsN .u8 (bodyP (forP k q.id))) → n ≤ 2000000 → Calls Try.prog 37 #[.agg #[.int .u32 (q.id : Nat), .int .u64 (q.a : Nat), .int .u64 (q.b : Nat)], .slice p n c] w fun e w' => e = .returned (.int .u64 (t : Nat)) ∧ Below w.heap.size w w') := fun w p n c hh hn => by
      rw [← ht]
      exact rtag6_any w _ q.a q.b HQ.out.2.1 HQ.out.2.2 p n c _ hh BD hn
    have JT : Hid (Pk w h ⟨x.p, x.n, x.c, true, q.id, t⟩ fs { forP k q.id with tg := t }) := J.out.tag (by rw [← ht]; exact TL)
    have FIN : Hid (∀ W, Below w.heap.size w W → PakR w K1 E1 (.returned (.tuple #[pkV h ⟨x.p, x.n, x.c, true, q.id, t⟩, .int .i64 0])) W) := fun W l => by
      rw [e1, e2, show tagP k q = t from ht]
      exact ⟨_, _, fs, rfl, JT.out.below l, l⟩
    have BNh := Lib.hid BN
    clear m BD BN TL ht HQ SO SE e1 e2
    go_wp2_with fail
    go_region_with (first
      | (go_at_call 32; refine (rbody7_ok _ h ⟨x.p, x.n, x.c, true, q.id, 0⟩ fs (forP k q.id) (J.out.below L2d.out) M.out.1 M.out.2.1).mono ?_; rintro e w4 ⟨v4, rfl, o4, l4⟩; obtain ⟨p4, c4, rfl, n4⟩ := own_new o4; have H4 := Lib.hid n4.holds; have F1 := Lib.hid (pk_keep D1.out l4); have F2 := Lib.hid (pk_keep D2.out l4); have F3 := Lib.hid (pk_keep D3.out l4); have L4 : Hid (Below w.heap.size w w4) := L2d.out.trans (l4.mono L2d.out.size); have k0' := blk_cell (o := 0) F2.out; have k1' := blk_cell (o := 1) F2.out; have k2' := blk_cell (o := 2) F2.out; simp only [List.getElem?_toArray, List.getElem?_cons_zero, List.getElem?_cons_succ] at k0' k1' k2'; clear o4 l4 n4)
      | (go_at_call 37; refine (RT.out _ _ _ _ H4.out BNh.out).mono ?_; rintro e w5 ⟨rfl, l5⟩; have c16 := (pk_at (pk_keep F1.out l5)).2.2.2; have f16 := blk_free (o := 16) (pk_keep F1.out l5); have L5 : Hid (Below w.heap.size w (w5.setCell ⟨w.heap.size, 16, none⟩ (.int .u64 (t : Nat)))) := (L4.out.trans (l5.mono L4.out.size)).setCell (Nat.le_refl _) _; have N1 := Lib.hid (set_tag (pk_keep F1.out l5) t); have N3 := Lib.hid (set_far (pk_keep F3.out l5) 16 SB (.int .u64 (t : Nat))); clear l5))
    all_goals
      clear LD2 k0 k1 k2 k0' k1' k2' c16 f16
      have LD5 := load_pk N1.out
      have SF := store_pk h ⟨x.p, x.n, x.c, true, q.id, t⟩ N3.out rfl
      have HG := Lib.hid (setRow_heap _ (w.heap.size + 1 + 1) _ (pkC h ⟨x.p, x.n, x.c, true, q.id, t⟩) _ _ N3.out)
      have L6 := Lib.hid (Below.setRow L5.out (g := w.heap.size + 1 + 1) (by omega) (pkC h ⟨x.p, x.n, x.c, true, q.id, t⟩))
      go_wp2
      (try simp only [Exit.inBlock, Exit.then])
      refine bodyPost_ret (results_pk2 rfl _ _ (w.heap.size + 1 + 1) h ⟨x.p, x.n, x.c, true, q.id, t⟩ rfl HG.out) rfl ?_
      exact FIN.out _ L6.out
  · have FIN : Hid (∀ W, Below w.heap.size w W → PakR w K1 E1 (.returned (.tuple #[pkV Hd.zero Xt.zero, .int .i64 (E : Nat)])) W) := fun W l => by
      obtain ⟨e1, e2⟩ := SE.out g
      rw [e1, e2]
      exact pakR_err l
    have g1 : ((E : Int) != 0) = true := by rw [bne_iff_ne]; omega
    have g2 : ((E : Int) == 0) = false := by rw [beq_eq_false_iff_ne]; omega
    have g3 : ¬ (E : Int) = 0 := by omega
    have SF := store_same C3.out
    clear SO SE J HQ g
    go_wp2
    (try simp only [Exit.inBlock, Exit.then])
    refine bodyPost_ret (results_pk2 rfl _ _ (w.heap.size + 1 + 1) Hd.zero Xt.zero rfl C3.out) rfl ?_
    exact FIN.out _ L2.out

set_option maxHeartbeats 4000000 in
theorem rright7_any (w : World) (h : Hd) (x : Xt) (fs : List Fld) (k : Pak) (q : Ky) (I : Pk w h x fs k) (hq : KeyOk q) :
    Calls Try.prog 21 #[pkV h x, keyV q] w fun e w' => e = .returned (.bool (decide (rightP k q))) ∧ Below w.heap.size w w' := by
  have bx := box_pk h x
  have az := alloc_pk
  have B1 : Hid (((w.alloc (.cells (pkC h x) 27)).alloc (.cells #[.int .u32 (q.id : Nat), .int .u64 (q.a : Nat), .int .u64 (q.b : Nat)] 29)).heap[w.heap.size]? = some (.cells (pkC h x) 27 (0, 0))) := heap_alloc2_old w _ _
  have B2 : Hid (((w.alloc (.cells (pkC h x) 27)).alloc (.cells #[.int .u32 (q.id : Nat), .int .u64 (q.a : Nat), .int .u64 (q.b : Nat)] 29)).heap[w.heap.size + 1]? = some (.cells #[.int .u32 (q.id : Nat), .int .u64 (q.a : Nat), .int .u64 (q.b : Nat)] 29 (0, 0))) := heap_alloc2_new w _ _
  have L0 : Hid (Below w.heap.size w ((w.alloc (.cells (pkC h x) 27)).alloc (.cells #[.int .u32 (q.id : Nat), .int .u64 (q.a : Nat), .int .u64 (q.b : Nat)] 29))) := ((Below.refl _ _).alloc (Nat.le_refl _) _).alloc (by simp) _
  have LD := load_pk B1.out
  have k0 := blk_cell (o := 0) B2.out
  have k1 := blk_cell (o := 1) B2.out
  have k2 := blk_cell (o := 2) B2.out
  simp only [List.getElem?_toArray, List.getElem?_cons_zero, List.getElem?_cons_succ] at k0 k1 k2
  have RS := rsign7_any ((w.alloc (.cells (pkC h x) 27)).alloc (.cells #[.int .u32 (q.id : Nat), .int .u64 (q.a : Nat), .int .u64 (q.b : Nat)] 29)) h x fs k q (I.below L0.out) hq
  unfold keyV at RS ⊢
  replace RS := Lib.hid RS
  have e1 : k.sg = x.sg := by rw [I.e]
  have e2 : k.ky = x.ky := by rw [I.e]
  have e3 : k.tg = x.tg := by rw [I.e]
  have EV : Hid (decide (rightP k q) = (decide ((signP k q).2 = 0) && x.sg && decide (x.ky = q.id) && decide (x.tg = (signP k q).1.tg))) := by
    unfold Hid
    rw [Bool.eq_iff_iff]
    simp only [Bool.and_eq_true, decide_eq_true_eq]
    rw [right_sign, e1, e2, e3]
    simp only [and_assoc]
  rw [EV.out]
  obtain ⟨T1, hT1⟩ : ∃ t, (signP k q).1.tg = t := ⟨_, rfl⟩
  rw [hT1]
  generalize (signP k q).1 = K1 at *
  generalize (signP k q).2 = E1 at *
  clear I hq EV e1 e2 e3
  go_enter Try.func21, Try.ntmps21
  go_wp2_with fail
  generalize ((w.alloc (.cells (pkC h x) 27)).alloc (.cells #[.int .u32 (q.id : Nat), .int .u64 (q.a : Nat), .int .u64 (q.b : Nat)] 29)) = v at *
  refine RS.out.mono ?_; rintro e w2 ⟨h1, x1, fs1, rfl, J, l2⟩
  have SN := store_new w2 (pkC Hd.zero Xt.zero) h1 x1 rfl
  have L3 : Hid (Below w.heap.size w (w2.alloc (.cells (pkC h1 x1) 27))) := (L0.out.trans (l2.mono L0.out.size)).alloc (L0.out.trans (l2.mono L0.out.size)).size _
  have C1 := pk_keep (pk_keep B1.out l2) ((Below.refl w2.heap.size w2).alloc (Nat.le_refl _) (.cells (pkC h1 x1) 27))
  have C2 := pk_keep (pk_keep B2.out l2) ((Below.refl w2.heap.size w2).alloc (Nat.le_refl _) (.cells (pkC h1 x1) 27))
  obtain ⟨-, c14, c15, c16⟩ := pk_at C1
  obtain ⟨-, -, -, d16⟩ := pk_at (heap_alloc_new w2 (.cells (pkC h1 x1) 27))
  have et : x1.tg = T1 := by rw [← hT1, J.e]
  rw [et] at d16
  have k0' := blk_cell (o := 0) C2
  simp only [List.getElem?_toArray, List.getElem?_cons_zero] at k0'
  clear C1 C2 J l2 LD k0 k1 k2 RS B1 B2 L0 et hT1
  obtain ⟨p, n, c, sg, ky, tg⟩ := x
  obtain ⟨p', n', c', sg', ky', tg'⟩ := x1
  simp only at c14 c15 c16 d16 ⊢
  by_cases g : E1 = 0
  · subst g
    cases sg
    · go_wp2
      go_ret
      exact ⟨rfl, L3.out⟩
    · go_wp2
      all_goals
        go_ret
        refine ⟨ret_bool ?_, L3.out⟩
        first
          | rfl
          | (rw [Bool.eq_iff_iff]; simp; done)
          | (rw [Bool.eq_iff_iff]; simp; omega)
  · have g1 : ((E1 : Int) != 0) = true := by rw [bne_iff_ne]; omega
    have g2 : ((E1 : Int) == 0) = false := by rw [beq_eq_false_iff_ne]; omega
    have g3 : ¬ (E1 : Int) = 0 := by omega
    have NO : Hid (decide (E1 = 0) = false) := decide_eq_false g
    clear g
    go_wp2
    go_ret
    exact ⟨ret_bool (by rw [NO.out]; rfl), L3.out⟩
end Go.Proofs.Ytfnidehbibfclaa
