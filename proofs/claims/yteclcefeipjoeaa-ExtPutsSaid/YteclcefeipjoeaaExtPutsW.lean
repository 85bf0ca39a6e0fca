/- ExtPuts: fields as bytes, whether they may be, and which is found, are the document's: the walk. -/
import Derived.Test.YteclcefeipjoeaaExtO
import Derived.Test.YteclcefeipjoeaaExtN
import Derived.Test.YteclcefeipjoeaaExtF
import Derived.Test.YteclcefeipjoeaaExtG
import Derived.Test.YteclcefeipjoeaaSoft
namespace Go.Proofs.Yteclcefeipjoeaa
open Go.ChangeShapes Go.WideShapes Go.ChangeAt Go.RowKit OctM

theorem first_unique {fs : List Fld} {t i j : Nat} {f g : Fld} (h : FirstX fs t i f) (k : FirstX fs t j g) : f = g := by
  have e : i = j := by
    rcases Nat.lt_trichotomy i j with h1 | h1 | h1
    · exact absurd h.ty (k.ahead i h1 f h.at')
    · exact h1
    · exact absurd k.ty (h.ahead j h1 g k.at')
  subst e
  have a := h.at'
  rw [k.at'] at a
  injection a with a
  exact a.symm
theorem found_both {w4 w5 : World} {gs : List Fld} {t : Nat} {q : Option Addr} {n d : Nat} {e : Ending} (hf : FoundP w4 gs t e w5) (hx : HoldsX w4 q n d gs) (ok : FldsOk gs) (sm : ∀ f ∈ gs, f.n ≤ 10000) :
    ∃ (px : Option Addr) (nx cx : Nat) (py : Option Addr) (cy : Nat) (xs : List Nat) (bl : Bool), e = .returned (.tuple #[.slice px nx cx, .bool bl]) ∧ New w4.heap.size w5 px nx cx (valsN .u8 xs) ∧ Holds w4 py nx cy (valsN .u8 xs) ∧ Byt xs ∧ nx ≤ 10000 ∧ Below w4.heap.size w4 w5 ∧
      Calls Try.prog 13 #[.slice q n d, .int .u16 (t : Nat)] w5 fun e w' => e = .returned (.tuple #[.slice py nx cy, .bool bl]) ∧ w5 = w' := by
  obtain ⟨hf, low⟩ := hf
  have RF := rfind5_any w5 t q n d gs (hx.below low)
  rcases hf with ⟨i, f, qx, dx, fst, rfl, nw⟩ | ⟨no, rfl⟩
  · have mem := List.mem_of_getElem? fst.at'
    refine ⟨qx, f.n, dx, f.p, f.c, f.ds, true, rfl, nw, hx.data f mem, (ok f mem).2, sm f mem, low, RF.mono ?_⟩
    rintro e w' ⟨⟨j, g, fst', rfl⟩ | ⟨no, rfl⟩, rfl⟩
    · rw [first_unique fst fst']; exact ⟨rfl, rfl⟩
    · exact absurd fst.ty (no f mem)
  · refine ⟨none, 0, 0, none, 0, [], false, rfl, New.nil _ _, Holds.nil _ _ _ (Nat.zero_le _) (fun _ => rfl), (fun d hd => by cases hd), Nat.zero_le _, low, RF.mono ?_⟩
    rintro e w' ⟨⟨j, g, fst', rfl⟩ | ⟨no', rfl⟩, rfl⟩
    · exact absurd fst'.ty (no g (List.mem_of_getElem? fst'.at'))
    · exact ⟨rfl, rfl⟩

/-- What Put tells of any fields: their bytes, or an error. -/
def putD5 (l : Says) : List Nat := if mayX l then bytesX l else []
def putE5 (l : Says) : Int := if mayX l then 0 else 1
theorem row_of {w w' : World} {n : Nat} {ds : List Nat} {e : Ending} (hn : n = ds.length) (h : RowPost w n ds e w') : RowR w ds 0 e w' := by
  subst hn
  obtain ⟨v, rfl, o, low⟩ := h.out
  obtain ⟨p, c, rfl, nw⟩ := own_new o
  exact ⟨p, c, rfl, nw, low⟩
theorem pput5_all (w : World) (p : Option Addr) (n c : Nat) (fs : List Fld) (hx : HoldsX w p n c fs) (ok : FldsOk fs) :
    Calls Try.prog 10 #[.slice p n c] w (RowR w (putD5 (says fs)) (putE5 (says fs))) := by
  unfold putD5 putE5
  by_cases m : mayX (says fs)
  · rw [if_pos m, if_pos m]
    exact (pput5_ok w p n c fs hx ok m).mono fun _ _ h => row_of rfl h
  · rw [if_neg m, if_neg m]
    exact (pput5_arg w p n c fs hx m).mono fun _ _ h => rowR_nil h
theorem rput5_all (w : World) (p : Option Addr) (n c : Nat) (fs : List Fld) (hx : HoldsX w p n c fs) (ok : FldsOk fs) :
    Calls Try.prog 11 #[.slice p n c] w (RowR w (putD5 (says fs)) (putE5 (says fs))) := by
  unfold putD5 putE5
  by_cases m : mayX (says fs)
  · rw [if_pos m, if_pos m]
    exact (rput5_ok w p n c fs hx ok m).mono fun _ _ h => row_of rfl h
  · rw [if_neg m, if_neg m]
    exact (rput5_arg w p n c fs hx m).mono fun _ _ h => rowR_nil h
theorem putD5_byt {l : Says} (h : ∀ x ∈ l, x.1 < 65536 ∧ Byt x.2) : Byt (putD5 l) := by
  unfold putD5
  by_cases m : mayX l
  · rw [if_pos m]
    exact bytesX_byt fun x hx => ⟨(h x hx).1, (h x hx).2, by have := m.1 x hx; unfold longN at this; omega⟩
  · rw [if_neg m]
    intro d hd
    cases hd

/-- While the bytes of one row are turned: nothing else is. -/
structure Flip1 (w4 w7 wr : World) (px : Option Addr) (n : Nat) : Prop where
  soft : Soft wr px n
  keep : ∀ j, (0 < n → ∀ a, px = some a → j ≠ a.block) → wr.heap[j]? = w7.heap[j]?
  low : Below w4.heap.size w4 wr
theorem Flip1.flip {w4 w7 wr : World} {a : Addr} {n k : Nat} (h : Flip1 w4 w7 wr (some a) n) (hk : k < n) (hb : w4.heap.size ≤ a.block) (y : Int) : Flip1 w4 w7 (wr.setCell (a.add k) (.int .u8 y)) (some a) n := by
  refine ⟨soft_set h.soft hk y, fun j hj => ?_, h.low.setCell (by rw [add_block]; exact hb) _⟩
  rw [← h.keep j hj]
  have ne : j ≠ (a.add k).block := by rw [add_block]; exact hj (by omega) a rfl
  simp [World.setCell, Array.getElem?_modify, Ne.symm ne]
theorem Flip1.holds {w4 w7 wr : World} {px p : Option Addr} {n m c : Nat} {vs : List Value} (h : Flip1 w4 w7 wr px n) (hh : Holds w7 p m c vs) (ap : 0 < n → ∀ a b, px = some a → p = some b → b.block ≠ a.block) : Holds wr p m c vs := by
  refine ⟨hh.len, hh.cap, hh.max, hh.bare, fun i u hu => ?_⟩
  obtain ⟨b, hb, hc⟩ := hh.cell i u hu
  refine ⟨b, hb, (World.cell?_of_block ?_).trans hc⟩
  rw [add_block]
  exact h.keep _ fun h0 a ha => ap h0 a b ha hb

theorem fewX_ok {l : Says} (h : ∀ x ∈ l, x.1 < 65536 ∧ Byt x.2) : ∀ x ∈ fewX l, (x.1 < 65536 ∧ Byt x.2) ∧ x.2.length ≤ 10000 := fun x hx => by
  unfold fewX at hx
  obtain ⟨y, hy, rfl⟩ := List.mem_map.1 hx
  obtain ⟨a, b⟩ := h y (List.mem_of_mem_take hy)
  exact ⟨⟨a, byt_take b _⟩, by show (y.2.take 600).length ≤ _; rw [List.length_take]; omega⟩
theorem ok_of' {gs : List Fld} {l : Says} (e : says gs = l) (h : ∀ x ∈ l, (x.1 < 65536 ∧ Byt x.2) ∧ x.2.length ≤ 10000) : FldsOk gs := fun f hf => (h (f.ty, f.ds) (by rw [← e]; unfold says; exact List.mem_map.2 ⟨f, hf, rfl⟩)).1
theorem small_of' {w : World} {p : Option Addr} {n c : Nat} {gs : List Fld} {l : Says} (hg : HoldsX w p n c gs) (e : says gs = l) (h : ∀ x ∈ l, (x.1 < 65536 ∧ Byt x.2) ∧ x.2.length ≤ 10000) : ∀ f ∈ gs, f.n ≤ 10000 := fun f hf => by
  have a := (h (f.ty, f.ds) (by rw [← e]; unfold says; exact List.mem_map.2 ⟨f, hf, rfl⟩)).2
  have b := (hg.data f hf).len
  rw [valsN_len] at b
  simp only at a
  omega

set_option maxRecDepth 100000 in
set_option maxHeartbeats 16000000 in
theorem puts5_walk (w : World) (t : Nat) (p : Option Addr) (n c : Nat) (fs : List Fld) (hx : HoldsX w p n c fs) (ok : FldsOk fs) (p' : Option Addr) (n' c' : Nat) (fs' : List Fld) (hx' : HoldsX w p' n' c' fs') (ok' : FldsOk fs') :
    Calls Try.prog 3 #[.slice p n c, .slice p' n' c', .int .u16 (t : Nat)] w fun e w' => e = .returned (.bool true) ∧ Below w.heap.size w w' := by
  have FA := Lib.hid (few_any w p n c fs hx)
  have FB := Lib.hid (fun w' (b : Below w.heap.size w w') => few_any w' p' n' c' fs' (hx'.below b))
  have OA := Lib.hid (fewX_ok (ok_says ok))
  have OB := Lib.hid (fewX_ok (ok_says ok'))
  have ID := Lib.hid (fewX_idem (says fs))
  generalize fewX (says fs) = l at *
  generalize fewX (says fs') = l' at *
  have YD := Lib.hid (putD5_byt (fun x hx => (OA.out x hx).1))
  clear hx ok hx' ok'
  go_enter Try.func3, Try.ntmps3
  go_wp2_with fail
  refine FA.out.mono ?_; rintro e w1 ⟨q, m, d, gs, rfl, hg, es, low1⟩
  have FB1 := Lib.hid (FB.out _ low1)
  have L1 := Lib.hid low1
  have HG1 := Lib.hid hg
  have ES := Lib.hid es
  clear low1 hg es
  go_wp2_with fail
  refine FB1.out.mono ?_; rintro e w2 ⟨q', m', d', gs', rfl, hg', es', low2⟩
  have OKG : Hid (FldsOk gs) := ok_of' ES.out OA.out
  have OKG' : Hid (FldsOk gs') := ok_of' es' OB.out
  have SMG := Lib.hid (small_of' HG1.out ES.out OA.out)
  have L2 := Lib.hid low2
  have HG2 := Lib.hid (HG1.out.below low2)
  have HG2' := Lib.hid hg'
  have ES' := Lib.hid es'
  have PP := pput5_all w2 q m d gs HG2.out OKG.out
  rw [ES.out] at PP
  replace PP := Lib.hid PP
  clear low2 hg' es' FA FB FB1
  obtain ⟨D, hD⟩ : ∃ D, putD5 l = D := ⟨_, rfl⟩
  obtain ⟨E, hE⟩ : ∃ E, putE5 l = E := ⟨_, rfl⟩
  rw [hD, hE] at PP
  have RP := Lib.hid (fun w' (b : Below w2.heap.size w2 w') => show Calls Try.prog 11 #[.slice q m d] w' (RowR w' D E) by
    have h := rput5_all w' q m d gs (HG2.out.below b) OKG.out
    rwa [ES.out, hD, hE] at h)
  rw [hD] at YD
  clear hD hE
  go_wp2_with fail
  refine PP.out.mono ?_; rintro e w3 ⟨pb, cb, rfl, nb, low3⟩
  have L3 := Lib.hid low3
  have RP3 := Lib.hid (RP.out _ low3)
  have HB3 := Lib.hid nb.holds
  clear nb low3
  go_wp2_with fail
  refine RP3.out.mono ?_; rintro e w4 ⟨pc, cc, rfl, nc, low4⟩
  have L24 : Hid (Below w2.heap.size w2 w4) := L3.out.trans (low4.mono L3.out.size)
  have HB4 := Lib.hid (HB3.out.below low4)
  have HC4 := Lib.hid nc.holds
  have HG4 := Lib.hid (HG2.out.below L24.out)
  have HG4' := Lib.hid (HG2'.out.below L24.out)
  have LW4 : Hid (Below w.heap.size w w4) := (L1.out.trans (L2.out.mono L1.out.size)).trans (L24.out.mono (L1.out.trans (L2.out.mono L1.out.size)).size)
  have PF := Lib.hid (pfind5_any w4 t q m d gs HG4.out SMG.out)
  clear nc low4 PP RP RP3
  go_wp2_with fail
  refine PF.out.mono ?_; intro e w5 hf
  obtain ⟨px, nx, cx, py, cy, xs, bl, rfl, nwx, hy4, byx, nxb, low5, RF⟩ := found_both hf HG4.out OKG.out SMG.out
  have RF' := Lib.hid RF
  have L5 := Lib.hid low5
  have HX5 := Lib.hid nwx
  have HY4 := Lib.hid hy4
  have BYX := Lib.hid byx
  have NXB := Lib.hid nxb
  have EQ5 := Lib.hid (bequal_same w5 px py nx cx nx cy xs nwx.holds (hy4.below low5) byx)
  have OW5 := Lib.hid (rown_any w5 py nx cy xs (hy4.below low5) (by omega))
  have nxi : (nx : Int) ≤ 10000 := by omega
  clear hf nwx hy4 byx nxb low5 RF PF
  go_wp2_with fail
  refine RF'.out.mono ?_; rintro e w' ⟨rfl, rfl⟩
  go_wp2_with fail
  refine EQ5.out.mono ?_; rintro e w' ⟨rfl, rfl⟩
  go_wp2_with fail
  refine OW5.out.mono ?_; intro e w7 ho
  obtain ⟨vo, rfl, oo, low7⟩ := ho.out
  obtain ⟨po, co, rfl, no⟩ := own_new oo
  have NO := Lib.hid no
  have XB : Hid (0 < nx → ∀ a, px = some a → w4.heap.size ≤ a.block ∧ a.block < w5.heap.size) := fun h0 a ha => by
    obtain ⟨a', e, hc⟩ := HX5.out.holds.atN h0
    rw [ha] at e
    cases e
    have := World.block_lt_of_cell? w5 _ hc
    rw [add_block] at this
    exact ⟨HX5.out.base a ha, this⟩
  have S7 : Hid (Flip1 w4 w7 w7 px nx) := ⟨soft_below (new_soft HX5.out) low7, fun _ _ => rfl, L5.out.trans (low7.mono L5.out.size)⟩
  have AP : Hid (0 < nx → ∀ a b, px = some a → po = some b → b.block ≠ a.block) := fun h0 a b ha hb => by
    have := (XB.out h0 a ha).2
    have := NO.out.base b hb
    omega
  clear ho oo low7 no OW5 EQ5 RF'
  go_wp2_with fail
  go_loopw [56] (fun i wr => ∃ k : Nat, i = .int .i64 k ∧ Hid (k ≤ nx) ∧ Hid (Flip1 w4 w7 wr px nx)) (fun i _ => 20000 - (intOf i).toNat)
  case atStart => exact ⟨0, rfl, Nat.zero_le _, S7⟩
  case round =>
    obtain ⟨k, rfl, hk, h⟩ := hrel
    have kb : (k : Int) ≤ 10000 := by have := hk.out; have := NXB.out; omega
    by_cases g : k < nx
    · have g' : (k : Int) < (nx : Int) := by omega
      have G := Lib.hid g
      obtain ⟨a, z, rfl, cz, fz⟩ := h.out.soft.cell k g
      have NX := Lib.hid (fun y => h.out.flip g (XB.out (by omega) a rfl).1 y)
      clear g hk h
      go_wp2
      go_roundw
      case rel => exact ⟨k + 1, by go_num, G.out, NX.out _⟩
      case measure => simp [intOf]; omega
    · have g' : (nx : Int) ≤ (k : Int) := by omega
      have L4r := Lib.hid h.out.low
      have FW : Hid (Below w.heap.size w wr) := LW4.out.trans (h.out.low.mono LW4.out.size)
      have HOr := Lib.hid (h.out.holds NO.out.holds AP.out)
      have AW := Lib.hid (awake5_any wr)
      clear g hk h
      go_wp2_with fail
      refine AW.out.mono ?_; rintro e w8 ⟨rfl, l8⟩
      have B8 := Lib.hid l8
      have EQ8 := Lib.hid (bequal_same w8 pb pc _ cb _ cc D ((HB4.out.below L4r.out).below l8) ((HC4.out.below L4r.out).below l8) YD.out)
      clear l8
      go_wp2_with fail
      refine EQ8.out.mono ?_; rintro e w' ⟨rfl, rfl⟩
      have PM := Lib.hid (pmay5_any w8 q m d gs ((HG4.out.below L4r.out).below B8.out))
      have RM := Lib.hid (fun w' (b : Below w8.heap.size w8 w') => rmay5_any w' q m d gs (((HG4.out.below L4r.out).below B8.out).below b))
      generalize decide (mayX (says gs)) = bm at *
      go_wp2_with fail
      refine PM.out.mono ?_; rintro e w9 ⟨rfl, l9⟩
      have B9 : Hid (Below wr.heap.size wr w9) := B8.out.trans (l9.mono B8.out.size)
      have RM9 := Lib.hid (RM.out _ l9)
      clear l9 PM RM
      go_wp2_with fail
      refine RM9.out.mono ?_; rintro e w' ⟨rfl, rfl⟩
      have EQ9 := Lib.hid (bequal_same w9 po py nx co nx cy xs (HOr.out.below B9.out) ((HY4.out.below L4r.out).below B9.out) BYX.out)
      go_wp2_with fail
      refine EQ9.out.mono ?_; rintro e w' ⟨rfl, rfl⟩
      have SA := Lib.hid (psame5_any w9 q q' m d m' d' gs gs' ((HG4.out.below L4r.out).below B9.out) ((HG4'.out.below L4r.out).below B9.out) OKG.out OKG'.out)
      have SB := Lib.hid (fun w' (b : Below w9.heap.size w9 w') => rsame5_any w' q q' m d m' d' gs gs' (((HG4.out.below L4r.out).below B9.out).below b) (((HG4'.out.below L4r.out).below B9.out).below b) OKG.out OKG'.out)
      generalize decide (says gs = says gs') = bs at *
      go_wp2_with fail
      refine SA.out.mono ?_; rintro e w10 ⟨rfl, l10⟩
      have B10 : Hid (Below wr.heap.size wr w10) := B9.out.trans (l10.mono B9.out.size)
      have SB10 := Lib.hid (SB.out _ l10)
      clear l10 SA SB
      go_wp2_with fail
      refine SB10.out.mono ?_; rintro e w11 ⟨rfl, j11, rfl⟩
      have B11 : Hid (Below wr.heap.size wr (w10.drewN j11)) := B10.out.trans ((below_drewN (Below.refl _ _) j11).mono B10.out.size)
      generalize w10.drewN j11 = w11 at *
      have FC := few_any w11 q m d gs ((HG4.out.below L4r.out).below B11.out)
      rw [ES.out, ID.out] at FC
      replace FC := Lib.hid FC
      go_wp2_with fail
      refine FC.out.mono ?_; rintro e w12 ⟨q3, m3, d3, gs3, rfl, hg3, es3, low12⟩
      have B12 : Hid (Below wr.heap.size wr w12) := B11.out.trans (low12.mono B11.out.size)
      have SC := psame5_any w12 q q3 m d m3 d3 gs gs3 ((HG4.out.below L4r.out).below B12.out) hg3 OKG.out (ok_of' es3 OA.out)
      rw [decide_eq_true (show says gs = says gs3 by rw [ES.out, es3])] at SC
      replace SC := Lib.hid SC
      clear hg3 es3 low12
      go_wp2_with fail
      refine SC.out.mono ?_; rintro e w13 ⟨rfl, l13⟩
      have B13 := B12.out.trans (l13.mono B12.out.size)
      have FIN : Hid (Below w.heap.size w w13) := FW.out.trans (B13.mono FW.out.size)
      clear l13 B13
      go_wp2
      go_ret
      exact ⟨rfl, FIN.out⟩
end Go.Proofs.Yteclcefeipjoeaa
