/- Layer 7's laws: the examples' bytes; few fields of a packet. -/
import Derived.Test.YtfnidehbibfclaaPktA
import Derived.Test.YtfnidehbibfclaaPktC
import Derived.Test.YtfnidehbibfclaaGI
import Derived.Test.YtfnidehbibfclaaGA
set_option maxRecDepth 100000
namespace Go.Proofs.Ytfnidehbibfclaa
open Go.ChangeShapes Go.WideShapes Go.ChangeAt Go.RowKit OctM

def plainD (ds : List Nat) : List Nat := [35] ++ List.replicate 47 0 ++ ds

theorem plain7_any (w : World) (p : Option Addr) (n c : Nat) (ds : List Nat) (hd : Holds w p n c (valsN .u8 ds)) (hn : n ≤ 1000) :
    Calls Try.prog 38 #[.slice p n c] w (OfR w w.heap.size (48 + n) (plainD ds)) := by
  obtain ⟨i0, hi, hz0, hz1, hz2⟩ := info_of info8
  have O1 : Hid ((w.alloc (.cells #[.int .u8 35] 5)).ownsRow w.heap.size 5 1 (.slice (some ⟨w.heap.size, 0, none⟩) 1 1) 1 (valsN .u8 [35])) := own_of_blk (heap_alloc_new w _) rfl (by decide) (Nat.le_refl _)
  have L1 := Lib.hid ((Below.refl w.heap.size w).alloc (Nat.le_refl _) (.cells #[.int .u8 35] 5))
  have HD := Lib.hid hd
  obtain ⟨z, hz⟩ : ∃ z, z = 47 := ⟨_, rfl⟩
  have BM : Hid (1 + z + n ≤ maxLen) := by unfold Hid maxLen; omega
  have BY : Hid ((1 + z + n) * 1 ≤ 140737488355328) := by unfold Hid; omega
  have ZB : Hid (1 + z ≤ 1000000) := by unfold Hid; omega
  have ZE : Hid (Value.int .i64 47 = .int .i64 (z : Nat)) := by unfold Hid; rw [hz]; rfl
  have EN : Hid (1 + z + n = 48 + n) := by unfold Hid; omega
  have EP : Hid (plainD ds = [35] ++ List.replicate z 0 ++ ds) := by unfold Hid plainD; rw [hz]
  clear hd hn hz
  rw [← EN.out]
  go_enter Try.func38, Try.ntmps38
  go_wp2_with (at_builtin; refine wpList_append_zeros _ rfl _ _ _ _ rfl w.heap.size 5 i0 (.int .u8 0) .i64 Try.underlying31 Try.underlying3 hi hz0 hz1 hz2 rfl rfl _ 1 _ rfl O1.out z ZE.out ZB.out L1.out.size ?_)
  intro v1 w1 o1 g1 _
  have L2 := Lib.hid (L1.out.grown g1 L1.out.size (fun j hj => (World.ownsRow.lt O1.out j hj).1))
  have O2 := Lib.hid o1
  have HD2 := Lib.hid (HD.out.below L2.out)
  clear o1 g1
  go_wp2_with (at_builtin; refine append_more rfl _ _ 31 rfl w.heap.size 5 i0 (.int .u8 0) 1 Try.underlying31 hi hz0 hz1 hz2 rfl _ (1 + z) _ rfl O2.out p n c (valsN .u8 ds) rfl HD2.out (valsN_one _ _) BM.out BY.out L2.out.size ?_)
  intro v3 w3 o3 g3 _
  have FIN : Hid (OfR w w.heap.size (1 + z + n) (plainD ds) (.returned v3) w3) := ⟨v3, rfl, by rw [EP.out, valsN_append, valsN_append, ← valsN_zeros]; exact o3, L2.out.grown g3 L2.out.size (fun j hj => (World.ownsRow.lt O2.out j hj).1)⟩
  clear o3 g3
  go_wp2
  go_ret
  exact FIN.out

/-- A packet of few fields. -/
def fewP (k : Pak) : Pak := { k with l := fewX k.l }
theorem fewX_sub {l : Says} (h : ∀ x ∈ l, x.1 < 65536 ∧ Byt x.2) : ∀ x ∈ fewX l, x.1 < 65536 ∧ Byt x.2 := fun x hx => by
  unfold fewX at hx
  obtain ⟨y, hy, rfl⟩ := List.mem_map.1 hx
  obtain ⟨a, b⟩ := h y (List.mem_of_mem_take hy)
  exact ⟨a, fun d hd => b d (List.mem_of_mem_take hd)⟩
theorem fewP_ok {k : Pak} (ok : PakOk k) : PakOk (fewP k) := ⟨ok.wf, fewX_sub ok.fl, ok.ky, ok.tg⟩

/-- A packet that says k is told. -/
def PkT (w : World) (k : Pak) (e : Ending) (w' : World) : Prop := ∃ h x fs, e = .returned (pkV h x) ∧ Pk w' h x fs k ∧ Below w.heap.size w w'

theorem holdsX_row {W W' : World} {B : Nat} {p : Option Addr} {n c : Nat} {fs : List Fld} (h : ∀ j, B ≤ j → j < W.heap.size → W'.heap[j]? = W.heap[j]?) (hx : HoldsX W p n c fs) (hp : ∀ a, p = some a → B ≤ a.block) (hd : DataX W' fs) : HoldsX W' p n c fs := by
  refine ⟨hx.len, hx.cap, hx.max, hx.bare, fun i f hi => ?_⟩
  obtain ⟨a, ha, c0, c1, -⟩ := hx.cell i f hi
  have k : ∀ o u, W.cell? (a.add o) = some u → W'.cell? (a.add o) = some u := fun o u hu => by
    have hl := World.block_lt_of_cell? W _ hu
    rw [← hu]
    refine World.cell?_of_block ?_
    rw [add_block] at hl ⊢
    exact h _ (hp a ha) hl
  exact ⟨a, ha, k _ _ c0, k _ _ c1, hd f (List.mem_of_getElem? hi)⟩
theorem Pk.far {W W' : World} {B : Nat} {h : Hd} {x : Xt} {fs : List Fld} {k : Pak} (I : Pk W h x fs k) (far : ∀ j, B ≤ j → j < W.heap.size → W'.heap[j]? = W.heap[j]?) (hp : ∀ a, x.p = some a → B ≤ a.block) (hd : DataX W' fs) : Pk W' h x fs k := ⟨I.e, holdsX_row far I.hx hp hd, I.ok⟩

/-- A packet of few of these fields, in a row of its own, is told. -/
def PkF (w : World) (fs : List Fld) (k : Pak) (e : Ending) (w' : World) : Prop := ∃ h x n, e = .returned (pkV h x) ∧ Pk w' h x ((fs.take n).map cutF) k ∧ (∀ a, x.p = some a → w.heap.size ≤ a.block) ∧ Below w.heap.size w w'
theorem PkF.t {w w' : World} {fs : List Fld} {k : Pak} {e : Ending} (h : PkF w fs k e w') : PkT w k e w' := by
  obtain ⟨h, x, n, a, b, -, c⟩ := h
  exact ⟨h, x, _, a, b, c⟩

attribute [local go_sem ↓] loadP_eq storeP_eq boxP_eq allocP_eq zeroP_eq zeroP_eq'

set_option maxHeartbeats 4000000 in
theorem few7_all (w : World) (h : Hd) (x : Xt) (fs : List Fld) (k : Pak) (I : Pk w h x fs k) :
    Calls Try.prog 9 #[pkV h x] w (PkF w fs (fewP k)) := by
  have bx := box_pk h x
  have az := alloc_pk
  have zz := zero_pk
  have B1 : Hid (((w.alloc (.cells (pkC h x) 27)).alloc (.cells (pkC Hd.zero Xt.zero) 27)).heap[w.heap.size]? = some (.cells (pkC h x) 27 (0, 0))) := heap_alloc2_old w _ _
  have B2 : Hid (((w.alloc (.cells (pkC h x) 27)).alloc (.cells (pkC Hd.zero Xt.zero) 27)).heap[w.heap.size + 1]? = some (.cells (pkC Hd.zero Xt.zero) 27 (0, 0))) := heap_alloc2_new w _ _
  have L0 : Hid (Below w.heap.size w ((w.alloc (.cells (pkC h x) 27)).alloc (.cells (pkC Hd.zero Xt.zero) 27))) := ((Below.refl _ _).alloc (Nat.le_refl _) _).alloc (by simp) _
  have c13 := (pk_at B1.out).1
  have FW := Lib.hid (fun w' (b : Below w.heap.size w w') => few_all w' x.p x.n x.c fs (I.hx.below b))
  have J := Lib.hid I
  clear I
  go_enter Try.func9, Try.ntmps9
  go_wp2_with fail
  have z0 : ((w.alloc (.cells (pkC h x) 27)).alloc (.cells (pkC Hd.zero Xt.zero) 27)).heap.size = w.heap.size + 1 + 1 := by simp
  generalize (w.alloc (.cells (pkC h x) 27)).alloc (.cells (pkC Hd.zero Xt.zero) 27) = v at *
  refine (FW.out _ L0.out).mono ?_; rintro e w2 ⟨p2, c2, rfl, hx2, hq2, l2⟩
  obtain ⟨n2, hn2⟩ : ∃ n2, min x.n 12 = n2 := ⟨_, rfl⟩
  have SY := few_says J.out.hx.len
  rw [hn2] at hx2 SY ⊢
  have DT := Lib.hid (cut_data J.out.hx.data n2)
  obtain ⟨gs, hgs⟩ : ∃ gs, (fs.take n2).map cutF = gs := ⟨_, rfl⟩
  rw [hgs] at hx2 SY DT
  have M1 := Lib.hid (pk_keep B1.out l2)
  have M2 := Lib.hid (pk_keep B2.out l2)
  have c13' := (pk_at M1.out).1
  have f13 := blk_free (o := 13) M1.out
  have SB : w.heap.size + 1 ≠ w.heap.size := by omega
  have L2 : Hid (Below w.heap.size w w2) := L0.out.trans (l2.mono L0.out.size)
  have L7 : Hid (Below w.heap.size w (w2.setCell ⟨w.heap.size, 13, none⟩ (.slice p2 n2 c2))) := L2.out.setCell (Nat.le_refl _) _
  have P1 : Hid ((w2.setCell ⟨w.heap.size, 13, none⟩ (.slice p2 n2 c2)).heap[w.heap.size]? = some (.cells (pkC h ⟨p2, n2, c2, x.sg, x.ky, x.tg⟩) 27 (0, 0))) := blk_set (o := 13) (u := .slice p2 n2 c2) M1.out
  have P3 := Lib.hid (set_far M2.out 13 SB (.slice p2 n2 c2))
  have LD7 := load_pk P1.out
  have SF := store_pk h ⟨p2, n2, c2, x.sg, x.ky, x.tg⟩ P3.out rfl
  have HG := Lib.hid (setRow_heap _ (w.heap.size + 1) _ (pkC h ⟨p2, n2, c2, x.sg, x.ky, x.tg⟩) _ _ P3.out)
  have L8 := Lib.hid (Below.setRow L7.out (g := w.heap.size + 1) (by omega) (pkC h ⟨p2, n2, c2, x.sg, x.ky, x.tg⟩))
  have F8 : Hid (PkF w fs (fewP k) (.returned (pkV h ⟨p2, n2, c2, x.sg, x.ky, x.tg⟩)) ((w2.setCell ⟨w.heap.size, 13, none⟩ (.slice p2 n2 c2)).setRow (w.heap.size + 1) (pkC h ⟨p2, n2, c2, x.sg, x.ky, x.tg⟩))) := by
    refine ⟨_, _, n2, rfl, ?_, fun a ha => Nat.le_trans L0.out.size (hq2 a ha), L8.out⟩
    rw [hgs]
    refine ⟨?_, holdsX_row (B := v.heap.size) (fun j hj _ => (setRow_other _ _ _ _ (by omega)).trans (Below.heap_setCell _ _ _ _ (by simp only; omega))) hx2 hq2 (DT.out.below L8.out), fewP_ok J.out.ok⟩
    unfold fewP
    rw [J.out.e, SY]
  clear l2 hx2 hq2 M1 M2 z0 L2 L8 L7 P1 P3 SY DT FW B1 B2 L0 hn2 J hgs
  go_wp2
  (try simp only [Exit.inBlock, Exit.then])
  refine bodyPost_ret (results_pk1 rfl _ _ (w.heap.size + 1) h ⟨p2, n2, c2, x.sg, x.ky, x.tg⟩ rfl HG.out) rfl ?_
  exact F8.out
theorem few7_any (w : World) (h : Hd) (x : Xt) (fs : List Fld) (k : Pak) (I : Pk w h x fs k) :
    Calls Try.prog 9 #[pkV h x] w (PkT w (fewP k)) := (few7_all w h x fs k I).mono fun _ _ h => h.t
end Go.Proofs.Ytfnidehbibfclaa
