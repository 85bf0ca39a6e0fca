/- The walk of HeadParses: bytes as heads are the document's; what is told is new memory. -/
import Derived.Test.YtjjbalgonkphjaaHeadP
import Derived.Test.YtjjbalgonkphjaaHeadN
import Derived.Test.YtjjbalgonkphjaaHeadQ
import Derived.Test.YtjjbalgonkphjaaAppendM
import Derived.LoopTactic
import Derived.Deep.QuietTactic
import Derived.BigQuiet
namespace Go.Proofs.Ytjjbalgonkphjaa
open Go.ChangeShapes Go.WideShapes Go.ChangeAt Go.RowKit OctM

attribute [local go_sem ↓] loadP_eq storeP_eq boxP_eq allocP_eq strB_eq eqlS_eq
set_option maxRecDepth 100000 in
set_option maxHeartbeats 16000000 in
theorem parses_core (w : World) (p : Option Addr) (n c m L : Nat) (ds es : List Nat) (hd : Hd) (E : Int) (T : Told ds hd L es E) (hy : Byt ds) (ld : ds.length = m) (EM : min (n : Int) 200 = (m : Int)) (mc : (m : Int) ≤ (c : Int)) (m2 : m ≤ 200) (K0 : Holds w p m c (valsN .u8 ds)) :
    Calls Try.prog 4 #[.slice p n c] w fun e w' => e = .returned (.bool true) ∧ Below w.heap.size w w' := by
  obtain ⟨i0, hi, hz0, hz1, hz2⟩ := info_of info8
  subst ld
  have sn := fun w h x => store_new w (pkC Hd.zero Xt.zero) h x rfl
  have al := alloc_pk
  have TT := Lib.hid T
  have HY := Lib.hid hy
  have HK := Lib.hid K0
  have M2 := Lib.hid m2
  have BM : Hid (0 + ds.length ≤ maxLen) := by unfold Hid maxLen; omega
  have BY : Hid ((0 + ds.length) * 1 ≤ 140737488355328) := by unfold Hid; omega
  have ee : (E == E) = true := beq_self_eq_true E
  have ll : ((L : Int) == (L : Int)) = true := beq_self_eq_true _
  have EI : (if (200 : Int) < (n : Int) then (200 : Int) else (n : Int)) = (ds.length : Int) := by split <;> omega
  have l200 : (L : Int) ≤ 200 := by have := T.le; omega
  clear T hy K0 m2
  go_enter Try.func4, Try.ntmps4
  go_wp2_with (at_builtin; refine append_more rfl _ _ 28 rfl w.heap.size 5 i0 (.int .u8 0) 1 Try.underlying28 hi hz0 hz1 hz2 rfl _ 0 [] rfl (World.ownsRow_nil w _ _ 1) p ds.length c (valsN .u8 ds) rfl HK.out (valsN_one _ _) BM.out BY.out (Nat.le_refl _) ?_)
  intro v1 w1 o1 g1 _
  obtain ⟨po, co, rfl, ho⟩ := own_holds o1
  have L1 : Hid (Below w.heap.size w w1) := (Below.refl _ _).grown g1 (Nat.le_refl _) (fun j hj => by cases hj)
  have HO := Lib.hid ho
  have HD1 : Hid (Holds w1 p ds.length c (valsN .u8 ds)) := HK.out.below L1.out
  clear o1 g1 ho
  go_wp2_with fail
  refine (TT.out.prog w1 po co HO.out).mono ?_; rintro e w2 ⟨pr, cr, rfl, nr, l2⟩
  have L2 := Lib.hid l2
  have NR := Lib.hid nr
  clear l2 nr
  go_wp2_with fail
  have LA : Hid (Below w2.heap.size w2 (w2.alloc (.cells (pkC hd Xt.zero) 27))) := (Below.refl _ _).alloc (Nat.le_refl _) _
  have SA2 : Hid ((w2.alloc (.cells (pkC hd Xt.zero) 27)).heap.size = w2.heap.size + 1) := by unfold Hid; simp
  have GA : Hid ((w2.alloc (.cells (pkC hd Xt.zero) 27)).heap[w2.heap.size]? = some (.cells (pkC hd Xt.zero) 27 (0, 0))) := heap_alloc_new _ _
  generalize w2.alloc (.cells (pkC hd Xt.zero) 27) = w2' at *
  have L12 : Hid (Below w1.heap.size w1 w2') := L2.out.trans (LA.out.mono L2.out.size)
  refine (TT.out.ref w2' p c (HD1.out.below L12.out)).mono ?_; rintro e w3 ⟨pl, cl, rfl, nl, l3⟩
  have L3 := Lib.hid l3
  have NL := Lib.hid nl
  clear l3 nl
  go_wp2_with fail
  have LB : Hid (Below w3.heap.size w3 (w3.alloc (.cells (pkC hd Xt.zero) 27))) := (Below.refl _ _).alloc (Nat.le_refl _) _
  have GB : Hid ((w3.alloc (.cells (pkC hd Xt.zero) 27)).heap[w3.heap.size]? = some (.cells (pkC hd Xt.zero) 27 (0, 0))) := heap_alloc_new _ _
  generalize w3.alloc (.cells (pkC hd Xt.zero) 27) = W at *
  have L2W : Hid (Below w2'.heap.size w2' W) := L3.out.trans (LB.out.mono L3.out.size)
  have L1W : Hid (Below w1.heap.size w1 W) := L12.out.trans (L2W.out.mono L12.out.size)
  have L0W : Hid (Below w.heap.size w W) := L1.out.trans (L1W.out.mono L1.out.size)
  have GA' : Hid (W.heap[w2.heap.size]? = some (.cells (pkC hd Xt.zero) 27 (0, 0))) := (L2W.out.block _ (by rw [SA2.out]; omega)).trans GA.out
  have L2W' : Hid (Below w2.heap.size w2 W) := LA.out.trans (L2W.out.mono LA.out.size)
  have NRW : Hid (New w1.heap.size W pr L cr (valsN .u8 es)) := ⟨NR.out.holds.below L2W'.out, NR.out.base, fun a ha i hi => by
    obtain ⟨a', e, hc⟩ := NR.out.holds.atN hi
    rw [ha] at e; cases e
    exact (L2W'.out.frozen (World.block_lt_of_cell? w2 _ hc)).trans (NR.out.free a ha i hi)⟩
  have HLW : Hid (Holds W pl L cl (valsN .u8 es)) := NL.out.holds.below LB.out
  have HOW : Hid (Holds W po ds.length co (valsN .u8 ds)) := HO.out.below L1W.out
  have HDW : Hid (Holds W p ds.length c (valsN .u8 ds)) := HD1.out.below L1W.out
  obtain ⟨p', hp'⟩ : ∃ p', (L = 0 ∧ p' = none) ∨ (0 < L ∧ p' = pr) := by
    by_cases h : L = 0
    · exact ⟨none, .inl ⟨h, rfl⟩⟩
    · exact ⟨pr, .inr ⟨by omega, rfl⟩⟩
  have AP : Hid (∀ a, p' = some a → 0 < L ∧ w1.heap.size ≤ a.block ∧ a.block < w2.heap.size) := fun a ha => by
    rcases hp' with ⟨_, rfl⟩ | ⟨h, rfl⟩
    · cases ha
    · obtain ⟨a', e, hc⟩ := NR.out.holds.atN h
      rw [ha] at e; cases e
      have := World.block_lt_of_cell? w2 _ hc
      rw [add_block] at this
      exact ⟨h, NR.out.base a ha, this⟩
  have MP : Hid (0 < L → 0 < ds.length) := fun h => by have := TT.out.le; omega
  have AL : Hid (∀ a b, p' = some a → pl = some b → b.block ≠ a.block) := fun a b ha hb => by
    have h1 := AP.out a ha
    have h2 := NL.out.base b hb
    have h3 := SA2.out
    omega
  have AO : Hid (∀ a b, p' = some a → po = some b → b.block ≠ a.block) := fun a b ha hb => by
    have h1 := AP.out a ha
    obtain ⟨b', e, hc⟩ := HO.out.atN (MP.out h1.1)
    rw [hb] at e; cases e
    have h2 := World.block_lt_of_cell? w1 _ hc
    rw [add_block] at h2
    omega
  have AD : Hid (∀ a b, p' = some a → p = some b → b.block ≠ a.block) := fun a b ha hb => by
    have h1 := AP.out a ha
    obtain ⟨b', e, hc⟩ := HK.out.atN (MP.out h1.1)
    rw [hb] at e; cases e
    have h2 := World.block_lt_of_cell? w _ hc
    rw [add_block] at h2
    have h3 := L1.out.size
    omega
  have R0 : Hid (Turned w1.heap.size W W p' L 0 es) := by
    rcases hp' with ⟨rfl, rfl⟩ | ⟨_, rfl⟩
    · exact ⟨fun i _ h => absurd h (by omega), fun _ _ => rfl, Below.refl _ _⟩
    · exact turned_start NRW.out
  have PP : Hid (∀ a, p' = some a → pr = some a) := fun a ha => by
    rcases hp' with ⟨_, rfl⟩ | ⟨_, rfl⟩
    · cases ha
    · exact ha
  clear hp'
  go_wp2_with fail
  go_loopw [10] (fun i wr => ∃ k : Nat, i = .int .i64 k ∧ Hid (k ≤ L) ∧ Hid (Turned w1.heap.size W wr p' L k es)) (fun i _ => 1000 - (intOf i).toNat)
  case atStart => exact ⟨0, rfl, Nat.zero_le _, R0.out⟩
  case round =>
    obtain ⟨k, rfl, hk, h⟩ := hrel
    by_cases g : k < L
    · have g' : (k : Int) < (L : Int) := by omega
      have G := Lib.hid g
      obtain ⟨a, ea, ca, fa⟩ := h.out.cell k (Nat.le_refl _) g
      have er := PP.out a ea
      subst er ea
      obtain ⟨b, eb, cb⟩ := (turned_holds h.out HLW.out (fun a b ha hb => AL.out a b ha hb)).atN g
      subst eb
      obtain ⟨z, ez⟩ : ∃ z, z = es.getD k 0 := ⟨_, rfl⟩
      rw [← ez] at ca cb
      have z1 : ((z : Int) != (z : Int)) = false := by simp
      have g2 : decide ((L : Int) ≤ (k : Int)) = false := by simp; omega
      have g3 : decide (L ≤ k) = false := by simp; omega
      have g4 : ¬ L ≤ k := by omega
      have NX : Hid (∀ q : Nat, ∀ y : Int, Turned w1.heap.size W ((wr.drewN q).setCell (a.add k) (.int .u8 y)) (some a) L (k + 1) es) := fun q y => by
        have h2 : Turned w1.heap.size W (wr.drewN q) (some a) L k es := ⟨h.out.cell, h.out.keep, below_drewN h.out.low q⟩
        exact turned_next h2 (AP.out a rfl).2.1 y
      have CA : Hid (∀ q : Nat, (wr.drewN q).cell? (a.add k) = some (.int .u8 (z : Int)) ∧ (wr.drewN q).frozen? (a.add k) = false) := fun q => ⟨ca, fa⟩
      clear g hk h ez
      go_wp2_with fail
      go_quiet (fail)
      obtain ⟨ca2, fa2⟩ := CA.out nq
      have NX2 := Lib.hid (NX.out nq)
      clear ca fa cb NX CA
      generalize wr.drewN nq = V at *
      go_wp2
      go_roundw
      case rel => exact ⟨k + 1, by go_num, G.out, NX2.out _⟩
      case measure => simp [intOf]; omega
    · have g' : (L : Int) ≤ (k : Int) := by omega
      have kA : Hid (wr.heap[w2.heap.size]? = some (.cells (pkC hd Xt.zero) 27 (0, 0))) := (h.out.keep _ (fun a ha => by have := AP.out a ha; omega)).trans GA'.out
      have kB : Hid (wr.heap[w3.heap.size]? = some (.cells (pkC hd Xt.zero) 27 (0, 0))) := (h.out.keep _ (fun a ha => by have := AP.out a ha; have := SA2.out; have := L3.out.size; omega)).trans GB.out
      have hO : Hid (Holds wr po ds.length co (valsN .u8 ds)) := turned_holds h.out HOW.out AO.out
      have hD : Hid (Holds wr p ds.length c (valsN .u8 ds)) := turned_holds h.out HDW.out AD.out
      have FW : Hid (Below w.heap.size w wr) := L0W.out.trans (h.out.low.mono L1.out.size)
      have LDA := load_pk kA.out
      have LDB := load_pk kB.out
      clear g hk h
      go_wp2_with fail
      refine (rsame4_any _ hd hd Xt.zero Xt.zero TT.out.wf TT.out.wf).mono ?_; rintro e w5 ⟨rfl, l5⟩
      rw [decide_eq_true (rfl : hd = hd)]
      have k5 := (l5.block _ (Array.getElem?_eq_some_iff.1 kA.out).1).trans kA.out
      have c13 : w5.cell? ⟨w2.heap.size, 13, none⟩ = some (.slice none 0 0) := pk_cell k5 13 rfl
      have c14 : w5.cell? ⟨w2.heap.size, 14, none⟩ = some (.bool false) := pk_cell k5 14 rfl
      have c15 : w5.cell? ⟨w2.heap.size, 15, none⟩ = some (.int .u32 0) := pk_cell k5 15 rfl
      have c16 : w5.cell? ⟨w2.heap.size, 16, none⟩ = some (.int .u64 0) := pk_cell k5 16 rfl
      have SO := str_held (hO.out.below l5)
      have SD := str_held (hD.out.below l5)
      have EQ := eql_str w5 HY.out HY.out
      rw [decide_eq_true (rfl : ds = ds)] at EQ
      have F5 : Hid (Below w.heap.size w w5) := FW.out.trans (l5.mono FW.out.size)
      clear k5 l5 LDA LDB
      go_wp2_with fail
      refine (alive4_any _).mono ?_; rintro e w6 ⟨rfl, l6⟩
      have F6 : Hid (Below w.heap.size w w6) := F5.out.trans (l6.mono F5.out.size)
      clear l6
      go_wp2
      go_ret
      exact ⟨rfl, F6.out⟩

theorem parses_walk (w : World) (p : Option Addr) (n c : Nat) (ds : List Nat) (hd : Holds w p n c (valsN .u8 ds)) (hy : Byt ds) :
    Calls Try.prog 4 #[.slice p n c] w fun e w' => e = .returned (.bool true) ∧ Below w.heap.size w w' := by
  have D := holdsN_take hd (k := min n 200) (by omega)
  have l : (ds.take (min n 200)).length = min n 200 := by have := D.len; rwa [valsN_len] at this
  have cp := hd.cap
  obtain ⟨h, L, es, E, T⟩ := told_any (byt_take hy (min n 200)) (by rw [l]; omega)
  exact parses_core w p n c (min n 200) L _ es h E T (byt_take hy _) l (by omega) (by omega) (by omega) D
end Go.Proofs.Ytjjbalgonkphjaa
