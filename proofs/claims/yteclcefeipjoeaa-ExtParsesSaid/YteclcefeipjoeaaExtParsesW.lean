/- ExtParses: fields of bytes are the document's, what is handed in stays: the walk. -/
import Derived.Test.YteclcefeipjoeaaExtJ
import Derived.Test.YteclcefeipjoeaaExtN
import Derived.Test.YteclcefeipjoeaaExtF
import Derived.Test.YteclcefeipjoeaaSoft
namespace Go.Proofs.Yteclcefeipjoeaa
open Go.ChangeShapes Go.WideShapes Go.ChangeAt Go.RowKit OctM

/-- A cell that is no byte stays when a byte is written. -/
theorem cell_stays {w : World} {x a : Addr} {u v : Value} {z : Int} (h : w.cell? x = some u) (hu : ∀ z, u ≠ .int .u8 z) (ha : w.cell? a = some (.int .u8 z)) : (w.setCell a v).cell? x = some u := by
  rw [World.cell?_setCell_other _ _ _ _ (fun e => by subst e; rw [ha] at h; injection h with h; exact hu z h.symm)]
  exact h
theorem soft_any {w : World} {p : Option Addr} {n : Nat} (h : Soft w p n) {a : Addr} {z0 : Int} (ha : w.cell? a = some (.int .u8 z0)) (z : Int) : Soft (w.setCell a (.int .u8 z)) p n := by
  refine ⟨fun i hi => ?_⟩
  obtain ⟨a1, z1, e1, c1, f1⟩ := h.cell i hi
  by_cases e : a = a1.add i
  · exact ⟨a1, z, e1, by rw [← e]; exact World.cell?_setCell_same _ _ _ ha, by rw [World.frozen?_setCell]; exact f1⟩
  · exact ⟨a1, z1, e1, by rw [World.cell?_setCell_other _ _ _ _ e]; exact c1, by rw [World.frozen?_setCell]; exact f1⟩

/-- While the bytes of fields are turned: the fields' cells stay; their bytes are bytes, in memory behind w1. -/
structure FlipRel (w1 wr : World) (p : Option Addr) (fs : List Fld) : Prop where
  cell : ∀ i f, fs[i]? = some f → ∃ a, p = some a ∧ wr.cell? (a.add (i * 2)) = some (.int .u16 (f.ty : Nat)) ∧ wr.cell? (a.add (i * 2 + 1)) = some (.slice f.p f.n f.c)
  soft : ∀ f ∈ fs, Soft wr f.p f.n
  base : ∀ f ∈ fs, ∀ a, f.p = some a → w1.heap.size ≤ a.block
  low : Below w1.heap.size w1 wr
theorem FlipRel.start {w1 w2 wr : World} {p : Option Addr} {n c : Nat} {fs : List Fld} (h : HoldsX w2 p n c fs) (nw : NewsX w1.heap.size w2 fs) (b : Below w2.heap.size w2 wr) (low : Below w1.heap.size w1 w2) : FlipRel w1 wr p fs :=
  ⟨fun i f hf => by
    obtain ⟨a, ha, c1, c2, -⟩ := (h.below b).cell i f hf
    exact ⟨a, ha, c1, c2⟩, fun f hf => soft_below (new_soft (nw f hf)) b, fun f hf => (nw f hf).base, low.trans (b.mono low.size)⟩
theorem FlipRel.at {w1 wr : World} {p : Option Addr} {fs : List Fld} (h : FlipRel w1 wr p fs) {i : Nat} (hi : i < fs.length) : ∃ a f, p = some a ∧ fs[i]? = some f ∧ wr.cell? (a.add (i * 2)) = some (.int .u16 (f.ty : Nat)) ∧ wr.cell? ⟨(a.add (i * 2)).block, (a.add (i * 2)).off + 1, none⟩ = some (.slice f.p f.n f.c) := by
  obtain ⟨a, ha, c1, c2⟩ := h.cell i _ (List.getElem?_eq_getElem hi)
  exact ⟨a, _, ha, List.getElem?_eq_getElem hi, c1, by rw [fld_next]; exact c2⟩
theorem FlipRel.below {w1 wr w' : World} {p : Option Addr} {fs : List Fld} (h : FlipRel w1 wr p fs) (b : Below wr.heap.size wr w') : FlipRel w1 w' p fs :=
  ⟨fun i f hf => by
    obtain ⟨a, ha, c1, c2⟩ := h.cell i f hf
    exact ⟨a, ha, (b.cell (World.block_lt_of_cell? wr _ c1)).trans c1, (b.cell (World.block_lt_of_cell? wr _ c2)).trans c2⟩, fun f hf => soft_below (h.soft f hf) b, h.base, h.low.trans (b.mono h.low.size)⟩
theorem FlipRel.flip {w1 wr : World} {p : Option Addr} {fs : List Fld} (h : FlipRel w1 wr p fs) {a : Addr} {z : Int} (ha : wr.cell? a = some (.int .u8 z)) (hb : w1.heap.size ≤ a.block) (y : Int) : FlipRel w1 (wr.setCell a (.int .u8 y)) p fs :=
  ⟨fun i f hf => by
    obtain ⟨b, hb, c1, c2⟩ := h.cell i f hf
    exact ⟨b, hb, cell_stays c1 (fun z e => by cases e) ha, cell_stays c2 (fun z e => by cases e) ha⟩, fun f hf => soft_any (h.soft f hf) ha y, h.base, h.low.setCell hb _⟩

set_option maxRecDepth 100000 in
set_option maxHeartbeats 16000000 in
theorem parses5_walk (w : World) (p : Option Addr) (n c : Nat) (bs : List Nat) (hb : Holds w p n c (valsN .u8 bs)) (yb : Byt bs) :
    Calls Try.prog 4 #[.slice p n c] w fun e w' => e = .returned (.bool true) ∧ Below w.heap.size w w' := by
  obtain ⟨k, hk⟩ : ∃ k, k = min n 2000 := ⟨_, rfl⟩
  have bc := hb.cap
  have bm := hb.max
  unfold maxLen at bm
  have nb : (n : Int) ≤ 9223372036854775807 := by omega
  have EM : min (n : Int) 2000 = (k : Int) := by omega
  have EI : (if (2000 : Int) < (n : Int) then (2000 : Int) else (n : Int)) = (k : Int) := by split <;> omega
  have kc : (k : Int) ≤ (c : Int) := by omega
  have k2 : (k : Int) ≤ 2000 := by omega
  have K2 : Hid (k ≤ 2000) := by unfold Hid; omega
  have HK := Lib.hid (holdsN_take hb (k := k) (by omega))
  have YK := Lib.hid (byt_take yb k)
  have LK : Hid ((bs.take k).length = k) := by have := HK.out.len; rwa [valsN_len] at this
  generalize bs.take k = ds at *
  have OP := Lib.hid (rown_any w p k c ds HK.out (by omega))
  have GOOD := Lib.hid (parX_good YK.out)
  have YO := Lib.hid (parX_byt YK.out)
  have SMALL : Hid ((parX ds).1.length ≤ 8) := by
    rcases Nat.eq_zero_or_pos (parX ds).2.2 with h | h
    · exact (parX_spec YK.out h).2.1.2
    · have e : (parX ds).1 = [] := (parF_bad 8 [] ds (show (parX ds).2.2 ≠ 0 by omega)).1
      unfold Hid
      rw [e]
      exact Nat.zero_le _
  have SM2 : Hid (∀ x ∈ (parX ds).1, x.2.length ≤ 464) := fun x hx => by
    have := (GOOD.out x hx).1
    unfold longN at this
    omega
  obtain ⟨r, hr⟩ : ∃ r, parX ds = r := ⟨_, rfl⟩
  have PP := Lib.hid (fun w' p' c' (h : Holds w' p' k c' (valsN .u8 ds)) => hr ▸ pparse5_any w' p' k c' ds h YK.out (by omega))
  have RP := Lib.hid (fun w' p' c' (h : Holds w' p' k c' (valsN .u8 ds)) => hr ▸ rparse5_any w' p' k c' ds h YK.out (by omega))
  rw [hr] at GOOD YO SMALL SM2
  clear hr hb yb hk bc bm
  obtain ⟨o, ov, x⟩ := r
  simp only at GOOD YO SMALL SM2
  go_enter Try.func4, Try.ntmps4
  go_wp2_with fail
  refine OP.out.mono ?_; intro e w1 ho
  obtain ⟨vo, rfl, oo, low1⟩ := ho.out
  obtain ⟨po, co, rfl, ho1⟩ := own_holds oo
  have HO := Lib.hid ho1
  have L1 := Lib.hid low1
  have HK1 := Lib.hid (HK.out.below low1)
  have PA := Lib.hid (PP.out w1 po co ho1)
  clear ho oo ho1 low1
  go_wp2_with fail
  refine PA.out.mono ?_; rintro e w2 ⟨pp, cp, qq, dd, fp, rfl, hsp, hhp, hnp, hrp, lowp⟩
  have L2 := Lib.hid lowp
  have HHP := Lib.hid hhp
  have HNP := Lib.hid hnp
  have HRP := Lib.hid hrp.holds
  have HSP := Lib.hid hsp
  have PB := Lib.hid (RP.out w2 p c (HK1.out.below lowp))
  clear hsp hhp hnp hrp lowp
  go_wp2_with fail
  refine PB.out.mono ?_; rintro e w3 ⟨pm, cm, qm, dm, fm, rfl, hsm, hhm, hnm, hrm, lowm⟩
  obtain ⟨N, hN⟩ : ∃ N, N = o.length := ⟨_, rfl⟩
  obtain ⟨Lr, hLr⟩ : ∃ Lr, Lr = ov.length := ⟨_, rfl⟩
  have L3 := Lib.hid lowm
  have HP3 := Lib.hid (HHP.out.below lowm)
  have HM3 := Lib.hid hhm
  have HR3 := Lib.hid (HRP.out.below lowm)
  have HQ3 := Lib.hid hrm.holds
  simp only [← hN, ← hLr] at HP3 HM3 HR3 HQ3 ⊢
  have OKP : Hid (FldsOk fp) := says_ok (by rw [HSP.out]; exact GOOD.out)
  have OKM : Hid (FldsOk fm) := says_ok (by rw [hsm]; exact GOOD.out)
  have SA := Lib.hid (psame5_any w3 pp pm N cp N cm fp fm HP3.out HM3.out OKP.out OKM.out)
  have SB := Lib.hid (fun (w' : World) (b : Below w3.heap.size w3 w') => rsame5_any w' pp pm N cp N cm fp fm (HP3.out.below b) (HM3.out.below b) OKP.out OKM.out)
  rw [decide_eq_true (show says fp = says fm by rw [HSP.out, hsm])] at SA SB
  have EQ := Lib.hid (fun (w' : World) (b : Below w3.heap.size w3 w') => bequal_same w' qq qm Lr dd Lr dm ov (HR3.out.below b) (HQ3.out.below b) YO.out)
  have ST := Lib.hid (fun (w' : World) (b : Below w3.heap.size w3 w') => FlipRel.start HHP.out HNP.out (L3.out.trans (b.mono L3.out.size)) L2.out)
  have FL : Hid (fp.length = N) := by unfold Hid; rw [hN, ← HSP.out, says_len]
  have N8 : Hid (N ≤ 8) := by unfold Hid; rw [hN]; exact SMALL.out
  have FN : Hid (∀ f ∈ fp, f.n ≤ 464) := fun f hf => by
    have a := SM2.out (f.ty, f.ds) (by rw [← HSP.out]; unfold says; exact List.mem_map.2 ⟨f, hf, rfl⟩)
    have b := (HP3.out.data f hf).len
    rw [valsN_len] at b
    simp only at a
    omega
  have n8 : (N : Int) ≤ 8 := by have := N8.out; omega
  clear hsm hhm hnm hrm lowm hN hLr
  go_wp2_with fail
  refine SA.out.mono ?_; rintro e w4 ⟨rfl, l4⟩
  have L4 := Lib.hid l4
  clear l4
  go_wp2_with fail
  refine (SB.out _ L4.out).mono ?_; rintro e w5 ⟨rfl, j5, rfl⟩
  have L5 : Hid (Below w3.heap.size w3 (w4.drewN j5)) := L4.out.trans ((below_drewN (Below.refl _ _) j5).mono L4.out.size)
  generalize w4.drewN j5 = w5 at *
  go_wp2_with fail
  refine (EQ.out _ L5.out).mono ?_; rintro e w' ⟨rfl, rfl⟩
  have S5 := Lib.hid (ST.out _ L5.out)
  clear SA SB EQ ST PA PB PP RP OP
  go_wp2_with fail
  go_loopw [48] (fun i wr => ∃ j : Nat, i = .int .i64 j ∧ Hid (j ≤ N) ∧ Hid (FlipRel w1 wr pp fp)) (fun i _ => 100 - (intOf i).toNat)
  case atStart => exact ⟨0, rfl, Nat.zero_le _, S5⟩
  case round =>
    obtain ⟨j, rfl, hj, h⟩ := hrel
    have j8 : (j : Int) ≤ 8 := by have := hj.out; have := N8.out; omega
    by_cases g : j < N
    · have g' : (j : Int) < (N : Int) := by omega
      have G := Lib.hid g
      obtain ⟨a, f, rfl, hf, c0, c1⟩ := h.out.at (i := j) (by rw [FL.out]; exact g)
      have fn := FN.out f (List.mem_of_getElem? hf)
      have MEM := Lib.hid (List.mem_of_getElem? hf)
      have LA : Below wr.heap.size wr (wr.alloc (.cells #[.int .u16 (f.ty : Nat), .slice f.p f.n f.c] 44)) := (Below.refl _ _).alloc (Nat.le_refl _) _
      have S0 := Lib.hid (h.out.below LA)
      have HA : (wr.alloc (.cells #[.int .u16 (f.ty : Nat), .slice f.p f.n f.c] 44)).heap[wr.heap.size]? = some (.cells #[.int .u16 (f.ty : Nat), .slice f.p f.n f.c] 44 (0, 0)) := heap_alloc_new wr _
      have C0 : Hid ((wr.alloc (.cells #[.int .u16 (f.ty : Nat), .slice f.p f.n f.c] 44)).cell? ⟨wr.heap.size, 1, none⟩ = some (.slice f.p f.n f.c)) := blk_cell HA
      obtain ⟨t, fp', fn', fc', ds'⟩ := f
      simp only at c0 c1 fn S0 C0 HA LA
      have fb : (fn' : Int) ≤ 464 := by omega
      have FB := Lib.hid fn
      clear g hj h hf LA HA fn
      go_wp2_with fail
      generalize (wr.alloc (.cells #[.int .u16 (t : Nat), .slice fp' fn' fc'] 44)) = wa at *
      go_loopw [55] (fun i wr2 => ∃ q : Nat, i = .int .i64 q ∧ Hid (q ≤ fn') ∧ Hid (FlipRel w1 wr2 (some a) fp) ∧ Hid (wr2.cell? ⟨wr.heap.size, 1, none⟩ = some (.slice fp' fn' fc'))) (fun i _ => 1000 - (intOf i).toNat)
      case atStart => exact ⟨0, rfl, Nat.zero_le _, S0, C0⟩
      case round =>
        obtain ⟨q, rfl, hq, h2, hc⟩ := hrel
        have q4 : (q : Int) ≤ 464 := by have := hq.out; have := FB.out; omega
        by_cases g2 : q < fn'
        · have g2' : (q : Int) < (fn' : Int) := by omega
          have G2 := Lib.hid g2
          obtain ⟨b, z, rfl, cz, fz⟩ := (h2.out.soft _ MEM.out).cell q g2
          have c1' := hc.out
          have bl : w1.heap.size ≤ (b.add q).block := by rw [add_block]; exact h2.out.base _ MEM.out b rfl
          have NX := Lib.hid (fun y => h2.out.flip cz bl y)
          have NC := Lib.hid (fun y : Int => cell_stays (v := .int .u8 y) hc.out (fun z e => by cases e) cz)
          clear g2 hq h2 hc bl
          go_wp2
          go_roundw
          case rel => exact ⟨q + 1, by go_num, G2.out, NX.out _, NC.out _⟩
          case measure => simp [intOf]; omega
        · have g2' : (fn' : Int) ≤ (q : Int) := by omega
          clear g2 hq hc
          go_wp2
          go_roundw
          case rel => exact ⟨j + 1, by go_num, G.out, h2⟩
          case measure => simp [intOf]; omega
    · have g' : (N : Int) ≤ (j : Int) := by omega
      have AW := Lib.hid (awake5_any wr)
      have H1 := Lib.hid (HO.out.below h.out.low)
      have H2 := Lib.hid (HK1.out.below h.out.low)
      have FW : Hid (Below w.heap.size w wr) := L1.out.trans (h.out.low.mono L1.out.size)
      clear g hj h
      go_wp2_with fail
      refine AW.out.mono ?_; rintro e w6 ⟨rfl, l6⟩
      have EQ6 := Lib.hid (bequal_same w6 po p k co k c ds (H1.out.below l6) (H2.out.below l6) YK.out)
      have F6 : Hid (Below w.heap.size w w6) := FW.out.trans (l6.mono FW.out.size)
      clear l6
      go_wp2_with fail
      refine EQ6.out.mono ?_; rintro e w7 ⟨rfl, rfl⟩
      go_wp2
      go_ret
      exact ⟨rfl, F6.out⟩
end Go.Proofs.Yteclcefeipjoeaa
