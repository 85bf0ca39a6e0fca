/- The walk of OctetRows: rows laid and taken, and how wide they are, are the document's. -/
import Derived.Test.YtpamnephndoefaaOctPlacesW
namespace Go.Proofs.Ytpamnephndoefaa
open Go.ChangeShapes Go.WideShapes Go.ChangeAt Go.RowKit OctM

theorem holdsI_take {w : World} {p : Option Addr} {n c k : Nat} {zs : List Int} (h : Holds w p n c (valsI .i64 zs)) (hk : k ≤ n) : Holds w p k c (valsI .i64 (zs.take k)) := by
  refine ⟨?_, by have := h.cap; omega, h.max, h.bare, fun i u hu => ?_⟩
  · have := h.len
    rw [valsI_len] at this ⊢
    rw [List.length_take]
    omega
  · refine h.cell i u ?_
    unfold valsI at hu ⊢
    rw [List.map_take, List.getElem?_take] at hu
    split at hu
    · exact hu
    · cases hu
theorem holdsW_take {w : World} {p : Option Addr} {n c k : Nat} {ds : List Nat} (h : Holds w p n c (valsN .u64 ds)) (hk : k ≤ n) : Holds w p k c (valsN .u64 (ds.take k)) := by
  refine ⟨?_, by have := h.cap; omega, h.max, h.bare, fun i u hu => ?_⟩
  · have := h.len
    rw [valsN_len] at this ⊢
    rw [List.length_take]
    omega
  · refine h.cell i u ?_
    unfold valsN at hu ⊢
    rw [List.map_take, List.getElem?_take] at hu
    split at hu
    · exact hu
    · cases hu

theorem takD_byt {zs : List Int} {ds : List Nat} (h : Byt ds) : Byt (takD zs ds) := by
  unfold takD; split
  · exact byt_drop h _
  · intro d hd; simp at hd
theorem takD_le (zs : List Int) (ds : List Nat) : (takD zs ds).length ≤ ds.length := by
  unfold takD; split
  · rw [List.length_drop]; omega
  · simp
theorem takX_le (zs : List Int) (ds : List Nat) : (takX zs ds).length ≤ zs.length := by
  unfold takX; split
  · rw [takT_len]; exact Nat.le_refl _
  · simp
theorem layD_byt (zs : List Int) (xs : List Nat) : Byt (layD zs xs) := by
  unfold layD; split
  · exact layT_byt _ _ _
  · intro d hd; simp at hd

set_option maxRecDepth 100000 in
set_option maxHeartbeats 12800000 in
theorem rows_core (HC : OctCode) (w : World) (p q r : Option Addr) (na ca nb cb nc cc m k j : Nat) (zs : List Int) (xs ds D X R : List Nat) (E F V I W : Int)
    (EM : min (na : Int) 60 = (m : Int)) (EK : min (nb : Int) 60 = (k : Int)) (EJ : min (nc : Int) 600 = (j : Int))
    (c1 : (m : Int) ≤ (ca : Int)) (c2 : (k : Int) ≤ (cb : Int)) (c3 : (j : Int) ≤ (cc : Int)) (b1 : Hid (m ≤ 60)) (b2 : Hid (k ≤ 60)) (b3 : Hid (j ≤ 600))
    (HZ : Hid (∀ w', Below w.heap.size w w' → Holds w' p m ca (valsI .i64 zs))) (HX : Hid (∀ w', Below w.heap.size w w' → Holds w' q k cb (valsN .u64 xs))) (HD : Hid (∀ w', Below w.heap.size w w' → Holds w' r j cc (valsN .u8 ds)))
    (h64 : Hid (∀ x ∈ xs, x < 18446744073709551616)) (hy : Hid (Byt ds)) (hD : Hid (layD zs xs = D)) (hE : Hid (layE zs xs = E)) (hX : Hid (takX zs ds = X)) (hR : Hid (takD zs ds = R)) (hF : Hid (takE zs ds = F))
    (hV : Hid (widV zs = V)) (hI : Hid (widE zs = I)) (hW : Hid (widthI zs = W)) (cs : (I = 0 ∧ V = W ∧ 0 ≤ W) ∨ (I = 1 ∧ V = 0 ∧ W = -1)) (bX : Hid (X.length ≤ 60)) (bR : Hid (R.length ≤ 600)) (yD : Hid (Byt D)) (yR : Hid (Byt R)) :
    Calls Try.prog 3 #[.slice p na ca, .slice q nb cb, .slice r nc cc] w fun e w' => e = .returned (.bool true) ∧ Below w.heap.size w w' := by
  have HH := Lib.hid HC
  clear HC
  go_enter Try.func3, Try.ntmps3
  go_wp2_with fail
  go_quiet (fail)
  have W1 : Hid (Below w.heap.size w (w.drewN nq)) := below_drewN (Below.refl _ _) nq
  generalize hw : w.drewN nq = w1 at *
  clear hw
  go_wp2_with fail
  refine (rown_any w1 r j cc ds (HD.out _ W1.out) (by have := b3.out; omega)).mono ?_
  rintro e w2 ⟨v, rfl, o, l⟩
  obtain ⟨po, co, rfl, nw⟩ := own_new o
  have K2 : Hid (∀ w', Below w2.heap.size w2 w' → Holds w' po j co (valsN .u8 ds)) := fun w' h => nw.holds.below h
  have W2 : Hid (Below w.heap.size w w2) := seqB W1.out l
  clear o nw l
  go_wp2_with fail
  refine (lay_at HH.out _ _ _ _ _ _ _ zs xs D E (HZ.out _ W2.out) (HX.out _ W2.out) h64.out (by have := b1.out; omega) (by have := b2.out; omega) hD.out hE.out).mono ?_
  rintro e w3 ⟨px, cx, rfl, nx, l⟩
  have L3 := Lib.hid l
  have NX := Lib.hid nx.holds
  clear l nx
  go_wp2_with fail
  refine (rlay_all w3 p q m ca k cb zs xs (HZ.out _ (seqB W2.out L3.out)) (HX.out _ (seqB W2.out L3.out)) h64.out (by have := b1.out; omega)).mono ?_
  rintro e w4 h4
  rw [hD.out, hE.out] at h4
  obtain ⟨py, cy, rfl, ny, l⟩ := h4
  have L4 := Lib.hid l
  have NY := Lib.hid ny.holds
  clear l ny
  go_wp2_with fail
  refine (take_at HH.out _ _ _ _ _ _ _ zs ds X R F (HZ.out _ (seqB (seqB W2.out L3.out) L4.out)) (K2.out _ (seqB L3.out L4.out)) hy.out (by have := b1.out; omega) (by have := b3.out; omega) hX.out hR.out hF.out).mono ?_
  rintro e w5 ⟨pm, cm, pl, cl, rfl, nm, nl, l⟩
  have L5 := Lib.hid l
  have NM := Lib.hid nm.holds
  have NL := Lib.hid nl
  clear l nm nl
  go_wp2_with fail
  refine (rtake_all w5 p r m ca j cc zs ds (HZ.out _ (seqB (seqB (seqB W2.out L3.out) L4.out) L5.out)) (HD.out _ (seqB (seqB (seqB W2.out L3.out) L4.out) L5.out)) hy.out (by have := b1.out; omega) (by have := b3.out; omega)).mono ?_
  rintro e w6 h6
  rw [hX.out, hR.out, hF.out] at h6
  obtain ⟨pn, cn, pr, cr, rfl, nn, nr, l⟩ := h6
  have L6 := Lib.hid l
  have NN := Lib.hid nn.holds
  have NR := Lib.hid nr.holds
  clear l nn nr
  have W6 : Hid (Below w.heap.size w w6) := seqB (seqB (seqB (seqB W2.out L3.out) L4.out) L5.out) L6.out
  go_wp2_with fail
  refine (width_at HH.out w6 p m ca zs V I (HZ.out _ W6.out) (by have := b1.out; omega) hV.out hI.out).mono ?_
  rintro e w7 ⟨rfl, l⟩
  have L7 := Lib.hid l
  clear l
  go_wp2_with fail
  refine (rwidth_any w7 p m ca zs (HZ.out _ (seqB W6.out L7.out)) (by have := b1.out; omega) W hW.out).mono ?_
  rintro e w' ⟨rfl, rfl⟩
  have L37 : Hid (Below w3.heap.size w3 w7) := seqB (seqB (seqB L4.out L5.out) L6.out) L7.out
  have L47 : Hid (Below w4.heap.size w4 w7) := seqB (seqB L5.out L6.out) L7.out
  have L57 : Hid (Below w5.heap.size w5 w7) := seqB L6.out L7.out
  have L27 : Hid (Below w2.heap.size w2 w7) := seqB L3.out L37.out
  have L24 : Hid (Below w2.heap.size w2 w4) := seqB L3.out L4.out
  go_wp2_with fail
  refine (bequal_same _ _ _ _ _ _ _ D (NX.out.below L37.out) (NY.out.below L47.out) yD.out).mono ?_
  rintro e w' ⟨rfl, rfl⟩
  go_wp2_with fail
  refine (sequal_any _ _ _ _ _ _ _ X X (NM.out.below L57.out) (NN.out.below L7.out) (by have := bX.out; omega) (by have := bX.out; omega)).mono ?_
  rintro e w8 ⟨rfl, u, rfl⟩
  rw [show decide (X = X) = true from decide_eq_true rfl]
  have L8 : Hid (Below w7.heap.size w7 (w7.drewN u)) := below_drewN (Below.refl _ _) u
  generalize hw : w7.drewN u = w8 at *
  clear hw
  go_wp2_with fail
  refine (bequal_same _ _ _ _ _ _ _ R (NL.out.holds.below (seqB L57.out L8.out)) (NR.out.below (seqB L7.out L8.out)) yR.out).mono ?_
  rintro e w' ⟨rfl, rfl⟩
  have SX : Hid (Soft w8 pl R.length) := soft_below (new_soft NL.out) (seqB L57.out L8.out)
  obtain ⟨dl, hdl⟩ : ∃ dl, dl = R.length := ⟨_, rfl⟩
  rw [← hdl] at SX bR ⊢
  have dl1 : (dl : Int) ≤ 600 := by have := bR.out; omega
  have L28 : Hid (Below w2.heap.size w2 w8) := seqB L27.out L8.out
  have W8 : Hid (Below w.heap.size w w8) := seqB W2.out L28.out
  clear hdl
  rcases cs with ⟨rfl, rfl, g0⟩ | ⟨rfl, rfl, rfl⟩
  · have d1 : decide (0 ≤ V) = true := by simp; omega
    have d2 : decide (V < 0) = false := by simp; omega
    have d3 : (V == V) = true := by simp
    go_wp2_with fail
    go_loopw [126] (fun i wr => ∃ t : Nat, i = .int .i64 t ∧ Hid (t ≤ dl) ∧ Hid (Soft wr pl dl) ∧ Hid (Below w4.heap.size w8 wr)) (fun i _ => 1000 - (intOf i).toNat)
    case atStart => exact ⟨0, rfl, Nat.zero_le _, SX.out, Below.refl _ _⟩
    case round =>
      obtain ⟨t, rfl, hk, hs, hl⟩ := hrel
      by_cases g : t < dl
      · have g' : (t : Int) < (dl : Int) := by omega
        have G1 := Lib.hid g
        obtain ⟨a, y, ea, cy', fy⟩ := hs.out.cell t g
        subst ea
        have NS : Hid (∀ y', Soft (wr.setCell (a.add t) (.int .u8 y')) (some a) dl) := fun y' => soft_set hs.out G1.out y'
        have NB : Hid (∀ y', Below w4.heap.size w8 (wr.setCell (a.add t) (.int .u8 y'))) := fun y' => hl.out.setCell (by
          have b := NL.out.base a rfl
          have e : (a.add t).block = a.block := by unfold Addr.add; split <;> rfl
          rw [e]; exact b) _
        clear g hs hk hl
        go_wp2
        go_roundw
        case rel => exact ⟨t + 1, by go_num, G1.out, NS.out _, NB.out _⟩
        case measure => simp [intOf]; omega
      · have g' : (dl : Int) ≤ (t : Int) := by omega
        have LR : Hid (Below w2.heap.size w2 wr) := L28.out.trans (hl.out.mono L24.out.size)
        have L0R : Hid (Below w.heap.size w wr) := seqB W2.out LR.out
        clear g hs hk hl
        go_wp2_with fail
        refine (awake3_any HH.out _).mono ?_
        rintro e wz ⟨rfl, l⟩
        have LZ := Lib.hid l
        clear l
        go_wp2_with fail
        refine (bequal_same _ _ _ _ _ _ _ ds (K2.out _ (seqB LR.out LZ.out)) (HD.out _ (seqB L0R.out LZ.out)) hy.out).mono ?_
        rintro e w' ⟨rfl, rfl⟩
        have FIN : Hid (Below w.heap.size w wz) := seqB L0R.out LZ.out
        go_wp2
        go_ret
        exact ⟨rfl, FIN.out⟩
  · go_wp2_with fail
    go_loopw [126] (fun i wr => ∃ t : Nat, i = .int .i64 t ∧ Hid (t ≤ dl) ∧ Hid (Soft wr pl dl) ∧ Hid (Below w4.heap.size w8 wr)) (fun i _ => 1000 - (intOf i).toNat)
    case atStart => exact ⟨0, rfl, Nat.zero_le _, SX.out, Below.refl _ _⟩
    case round =>
      obtain ⟨t, rfl, hk, hs, hl⟩ := hrel
      by_cases g : t < dl
      · have g' : (t : Int) < (dl : Int) := by omega
        have G1 := Lib.hid g
        obtain ⟨a, y, ea, cy', fy⟩ := hs.out.cell t g
        subst ea
        have NS : Hid (∀ y', Soft (wr.setCell (a.add t) (.int .u8 y')) (some a) dl) := fun y' => soft_set hs.out G1.out y'
        have NB : Hid (∀ y', Below w4.heap.size w8 (wr.setCell (a.add t) (.int .u8 y'))) := fun y' => hl.out.setCell (by
          have b := NL.out.base a rfl
          have e : (a.add t).block = a.block := by unfold Addr.add; split <;> rfl
          rw [e]; exact b) _
        clear g hs hk hl
        go_wp2
        go_roundw
        case rel => exact ⟨t + 1, by go_num, G1.out, NS.out _, NB.out _⟩
        case measure => simp [intOf]; omega
      · have g' : (dl : Int) ≤ (t : Int) := by omega
        have LR : Hid (Below w2.heap.size w2 wr) := L28.out.trans (hl.out.mono L24.out.size)
        have L0R : Hid (Below w.heap.size w wr) := seqB W2.out LR.out
        clear g hs hk hl
        go_wp2_with fail
        refine (awake3_any HH.out _).mono ?_
        rintro e wz ⟨rfl, l⟩
        have LZ := Lib.hid l
        clear l
        go_wp2_with fail
        refine (bequal_same _ _ _ _ _ _ _ ds (K2.out _ (seqB LR.out LZ.out)) (HD.out _ (seqB L0R.out LZ.out)) hy.out).mono ?_
        rintro e w' ⟨rfl, rfl⟩
        have FIN : Hid (Below w.heap.size w wz) := seqB L0R.out LZ.out
        go_wp2
        go_ret
        exact ⟨rfl, FIN.out⟩

theorem rows_walk (HC : OctCode) (w : World) (p q r : Option Addr) (na ca nb cb nc cc : Nat) (zs : List Int) (xs ds : List Nat) (hz : Holds w p na ca (valsI .i64 zs)) (hx : Holds w q nb cb (valsN .u64 xs)) (hd : Holds w r nc cc (valsN .u8 ds)) (h64 : ∀ x ∈ xs, x < 18446744073709551616) (hy : Byt ds) :
    Calls Try.prog 3 #[.slice p na ca, .slice q nb cb, .slice r nc cc] w fun e w' => e = .returned (.bool true) ∧ Below w.heap.size w w' := by
  have a1 := hz.cap
  have a2 := hx.cap
  have a3 := hd.cap
  have Z := holdsI_take hz (k := min na 60) (by omega)
  have X := holdsW_take hx (k := min nb 60) (by omega)
  have D := holdsN_take hd (k := min nc 600) (by omega)
  have lz : (zs.take (min na 60)).length = min na 60 := by have := Z.len; rwa [valsI_len] at this
  have ld : (ds.take (min nc 600)).length = min nc 600 := by have := D.len; rwa [valsN_len] at this
  have yd := byt_take hy (min nc 600)
  have tx := takX_le (zs.take (min na 60)) (ds.take (min nc 600))
  have td := takD_le (zs.take (min na 60)) (ds.take (min nc 600))
  refine rows_core HC w p q r na ca nb cb nc cc (min na 60) (min nb 60) (min nc 600) (zs.take (min na 60)) (xs.take (min nb 60)) (ds.take (min nc 600)) _ _ _ _ _ _ _ _ (by omega) (by omega) (by omega) (by omega) (by omega) (by omega) (by unfold Hid; omega) (by unfold Hid; omega) (by unfold Hid; omega)
    (fun w' h => Z.below h) (fun w' h => X.below h) (fun w' h => D.below h) (fun x hx' => h64 x (List.mem_of_mem_take hx')) yd rfl rfl rfl rfl rfl rfl rfl rfl ?_ (by unfold Hid; omega) (by unfold Hid; omega) (layD_byt _ _) (takD_byt yd)
  unfold widE widV widthI
  by_cases ok : okAll (zs.take (min na 60))
  · have s := sumI_le ok
    rw [if_pos ok, if_pos ok, if_pos ok]
    exact .inl ⟨rfl, rfl, by omega⟩
  · rw [if_neg ok, if_neg ok, if_neg ok]
    exact .inr ⟨rfl, rfl, rfl⟩
end Go.Proofs.Ytpamnephndoefaa
