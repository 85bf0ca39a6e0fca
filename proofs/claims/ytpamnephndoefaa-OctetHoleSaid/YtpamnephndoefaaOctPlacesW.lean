/- The walk of OctetPlaces: numbers in places, and signed ones, are the document's. -/
import Derived.Test.YtpamnephndoefaaOctW
namespace Go.Proofs.Ytpamnephndoefaa
open Go.ChangeShapes Go.WideShapes Go.ChangeAt Go.RowKit OctM

/-- Bytes that may be written, whatever stands in them. -/
structure Soft (w : World) (p : Option Addr) (n : Nat) : Prop where
  cell : ∀ i, i < n → ∃ a z, p = some a ∧ w.cell? (a.add i) = some (.int .u8 z) ∧ w.frozen? (a.add i) = false

theorem new_soft {B : Nat} {w : World} {p : Option Addr} {n c : Nat} {ds : List Nat} (h : New B w p n c (valsN .u8 ds)) : Soft w p n := by
  refine ⟨fun i hi => ?_⟩
  obtain ⟨a, ha, hc⟩ := h.holds.atN hi
  exact ⟨a, _, ha, hc, h.free a ha i hi⟩
theorem soft_below {w w' : World} {p : Option Addr} {n : Nat} (h : Soft w p n) (hb : Below w.heap.size w w') : Soft w' p n := by
  refine ⟨fun i hi => ?_⟩
  obtain ⟨a, z, ha, hc, hf⟩ := h.cell i hi
  have lt := World.block_lt_of_cell? w _ hc
  exact ⟨a, z, ha, (hb.cell lt).trans hc, (hb.frozen lt).trans hf⟩
theorem soft_set {w : World} {a : Addr} {n k : Nat} (h : Soft w (some a) n) (hk : k < n) (z : Int) : Soft (w.setCell (a.add k) (.int .u8 z)) (some a) n := by
  refine ⟨fun i hi => ?_⟩
  obtain ⟨a1, z1, e1, c1, f1⟩ := h.cell i hi
  obtain ⟨a2, z2, e2, c2, f2⟩ := h.cell k hk
  cases e1
  cases e2
  by_cases e : a.add k = a.add i
  · exact ⟨a, z, rfl, by rw [← e]; exact World.cell?_setCell_same _ _ _ c2, by rw [World.frozen?_setCell, ← e]; exact f2⟩
  · exact ⟨a, z1, rfl, by rw [World.cell?_setCell_other _ _ _ _ e]; exact c1, by rw [World.frozen?_setCell]; exact f1⟩

set_option maxRecDepth 100000 in
set_option maxHeartbeats 6400000 in
theorem places_walk (HC : OctCode) (w : World) (p : Option Addr) (nn c : Nat) (ds : List Nat) (x z : Int) (n : Nat) (hd : Holds w p nn c (valsN .u8 ds)) (hy : Byt ds) (hx : I64 x) (hz : I64 z) (hn : n < 18446744073709551616) :
    Calls Try.prog 4 #[.slice p nn c, .agg #[.int .i64 x, .int .i64 z], .int .u64 n] w fun e w' => e = .returned (.bool true) ∧ Below w.heap.size w w' := by
  have HH := Lib.hid HC
  obtain ⟨m, hm⟩ : ∃ m, m = min nn 600 := ⟨_, rfl⟩
  have mx := hd.max
  have cp := hd.cap
  unfold maxLen at mx
  have m1 : m ≤ nn := by omega
  have m2 : m ≤ 600 := by omega
  have EM : min (nn : Int) 600 = (m : Int) := by omega
  have n1 : (nn : Int) ≤ 9223372036854775807 := by omega
  have n2 : (m : Int) ≤ (c : Int) := by omega
  obtain ⟨es, hes⟩ : ∃ es, es = ds.take m := ⟨_, rfl⟩
  have H0 : Holds w p m c (valsN .u8 es) := by rw [hes]; exact holdsN_take hd m1
  have ye : Byt es := by rw [hes]; exact byt_take hy m
  have le : es.length = m := by have := H0.len; rwa [valsN_len] at this
  obtain ⟨sn, hsn⟩ : ∃ sn, wrap64 (n : Int) = sn := ⟨_, rfl⟩
  have sI : I64 sn := by rw [← hsn]; unfold wrap64 I64; omega
  have K0 : Hid (∀ w', Below w.heap.size w w' → Holds w' p m c (valsN .u8 es)) := fun w' h => H0.below h
  have YE := Lib.hid ye
  have HX := Lib.hid hx
  have HZ := Lib.hid hz
  have HN := Lib.hid hn
  have SI := Lib.hid sI
  have M2 := Lib.hid m2
  obtain ⟨V, hV⟩ : ∃ V, V = atV es x z := ⟨_, rfl⟩
  obtain ⟨B, hB⟩ : ∃ B, B = decide (inP es.length x z) := ⟨_, rfl⟩
  obtain ⟨D, hD⟩ : ∃ D, D = putD es x z n := ⟨_, rfl⟩
  obtain ⟨E, hE⟩ : ∃ E, E = putE es x z n := ⟨_, rfl⟩
  obtain ⟨S, hS⟩ : ∃ S, S = sgR n z := ⟨_, rfl⟩
  obtain ⟨F, hF⟩ : ∃ F, F = sgE n z := ⟨_, rfl⟩
  obtain ⟨U, hU⟩ : ∃ U, U = unR sn z := ⟨_, rfl⟩
  obtain ⟨G, hG⟩ : ∃ G, G = unE sn z := ⟨_, rfl⟩
  have yD : Hid (Byt D) := by
    unfold Hid
    rw [hD]
    unfold putD
    split
    · exact byt_append (byt_append (byt_take ye _) (digN_byt _ _)) (byt_drop ye _)
    · intro d hd; simp at hd
  have dB : Hid (D.length ≤ 600) := by
    unfold Hid
    rw [hD]
    unfold putD
    split
    · rename_i h0
      unfold putE at h0
      split at h0
      · rename_i ho
        split at h0
        · split at h0
          · rename_i hl
            obtain ⟨s, rfl, s1, s8, _⟩ := okS_nat ho.1
            rw [List.length_append, List.length_append, List.length_take, List.length_drop, digN_len]
            omega
          · omega
        · omega
      · omega
    · simp
  replace hV := Lib.hid hV
  replace hB := Lib.hid hB
  replace hD := Lib.hid hD
  replace hE := Lib.hid hE
  replace hS := Lib.hid hS
  replace hF := Lib.hid hF
  replace hU := Lib.hid hU
  replace hG := Lib.hid hG
  clear hd hy hx hz hn mx cp m1 m2 hm hes H0 ye le sI HC
  go_enter Try.func4, Try.ntmps4
  go_wp2_with fail
  go_quiet (fail)
  have W1 : Hid (Below w.heap.size w ((w.alloc (.cells #[.int .i64 x, .int .i64 z] 44)).drewN nq)) := below_drewN (laidB _ _) nq
  generalize hw : (w.alloc (.cells #[.int .i64 x, .int .i64 z] 44)).drewN nq = w1 at *
  clear hw
  go_wp2_with fail
  refine (rown_any w1 p m c es (K0.out _ W1.out) (by have := M2.out; omega)).mono ?_
  rintro e w2 ⟨v, rfl, o, l⟩
  obtain ⟨po, co, rfl, nw⟩ := own_new o
  have K2 : Hid (∀ w', Below w2.heap.size w2 w' → Holds w' po m co (valsN .u8 es)) := fun w' h => nw.holds.below h
  have W2 : Hid (Below w.heap.size w w2) := seqB W1.out l
  clear o nw l
  go_wp2_with fail
  refine (at_at HH.out _ _ _ _ es x z V B (K2.out _ (Below.refl _ _)) YE.out HX.out HZ.out (by have := M2.out; omega) hV.out.symm hB.out.symm).mono ?_
  rintro e w3 ⟨rfl, l⟩
  have L3 := Lib.hid l
  clear l
  go_wp2_with fail
  refine (rat_all w3 p m c es x z (K0.out _ (seqB W2.out L3.out)) YE.out HX.out (by have := M2.out; omega)).mono ?_
  rintro e w' ⟨rfl, rfl⟩
  rw [← hV.out, ← hB.out]
  go_wp2_with fail
  refine (put_at HH.out _ _ _ _ es x z n D E (K2.out _ L3.out) YE.out HX.out HZ.out (by have := M2.out; omega) HN.out hD.out.symm hE.out.symm).mono ?_
  rintro e w4 ⟨px, cx, rfl, nx, l⟩
  have L4 := Lib.hid l
  have NX := Lib.hid nx
  clear l nx
  go_wp2_with fail
  refine (rput_all w4 p m c es x z n (K0.out _ (seqB (seqB W2.out L3.out) L4.out)) YE.out HX.out (by have := M2.out; omega) HN.out).mono ?_
  rintro e w5 h5
  rw [← hD.out, ← hE.out] at h5
  obtain ⟨py, cy, rfl, ny, l⟩ := h5
  have L5 := Lib.hid l
  have NY := Lib.hid ny
  clear l ny
  go_wp2_with fail
  refine (sg_at HH.out _ n z S F HN.out HZ.out hS.out.symm hF.out.symm).mono ?_
  rintro e w6 ⟨rfl, l⟩
  have L6 := Lib.hid l
  clear l
  go_wp2_with fail
  refine (rsigned_all w6 n z HN.out).mono ?_
  rintro e w7 h7
  rw [← hS.out, ← hF.out] at h7
  obtain ⟨rfl, l⟩ := h7
  have L7 := Lib.hid l
  clear l
  go_wp2_with fail
  refine (un_at HH.out _ sn z U G SI.out HZ.out hU.out.symm hG.out.symm).mono ?_
  rintro e w8 ⟨rfl, l⟩
  have L8 := Lib.hid l
  clear l
  go_wp2_with fail
  refine (runsigned_all w8 sn z SI.out).mono ?_
  rintro e w9 h9
  rw [← hU.out, ← hG.out] at h9
  obtain ⟨rfl, l⟩ := h9
  have L49 : Hid (Below w4.heap.size w4 w9) := seqB (seqB (seqB (seqB L5.out L6.out) L7.out) L8.out) l
  have L59 : Hid (Below w5.heap.size w5 w9) := seqB (seqB (seqB L6.out L7.out) L8.out) l
  have L39 : Hid (Below w3.heap.size w3 w9) := seqB L4.out L49.out
  have L29 : Hid (Below w2.heap.size w2 w9) := seqB L3.out L39.out
  have L09 : Hid (Below w.heap.size w w9) := seqB W2.out L29.out
  clear l
  go_wp2_with fail
  refine (bequal_same _ _ _ _ _ _ _ D (NX.out.holds.below L49.out) (NY.out.holds.below L59.out) yD.out).mono ?_
  rintro e w' ⟨rfl, rfl⟩
  have SX : Hid (Soft w9 px D.length) := soft_below (new_soft NX.out) L49.out
  obtain ⟨dl, hdl⟩ : ∃ dl, dl = D.length := ⟨_, rfl⟩
  rw [← hdl] at SX dB ⊢
  have dl1 : (dl : Int) ≤ 600 := by have := dB.out; omega
  clear hdl
  go_wp2_with fail
  go_loopw [135] (fun i wr => ∃ k : Nat, i = .int .i64 k ∧ Hid (k ≤ dl) ∧ Hid (Soft wr px dl) ∧ Hid (Below w3.heap.size w9 wr)) (fun i _ => 1000 - (intOf i).toNat)
  case atStart => exact ⟨0, rfl, Nat.zero_le _, SX.out, Below.refl _ _⟩
  case round =>
    obtain ⟨k, rfl, hk, hs, hl⟩ := hrel
    by_cases g : k < dl
    · have g' : (k : Int) < (dl : Int) := by omega
      have G1 := Lib.hid g
      obtain ⟨a, y, ea, cy', fy⟩ := hs.out.cell k g
      subst ea
      have NS : Hid (∀ y', Soft (wr.setCell (a.add k) (.int .u8 y')) (some a) dl) := fun y' => soft_set hs.out G1.out y'
      have NB : Hid (∀ y', Below w3.heap.size w9 (wr.setCell (a.add k) (.int .u8 y'))) := fun y' => hl.out.setCell (by
        have b := NX.out.base a rfl
        have e : (a.add k).block = a.block := by unfold Addr.add; split <;> rfl
        rw [e]; exact b) _
      clear g hs hk hl
      go_wp2
      go_roundw
      case rel => exact ⟨k + 1, by go_num, G1.out, NS.out _, NB.out _⟩
      case measure => simp [intOf]; omega
    · have g' : (dl : Int) ≤ (k : Int) := by omega
      have LR : Hid (Below w2.heap.size w2 wr) := L29.out.trans (hl.out.mono L3.out.size)
      have L0R : Hid (Below w.heap.size w wr) := seqB W2.out LR.out
      clear g hs hk hl
      go_wp2_with fail
      refine (awake3_any HH.out _).mono ?_
      rintro e wz ⟨rfl, l⟩
      have LZ := Lib.hid l
      clear l
      go_wp2_with fail
      refine (bequal_same _ _ _ _ _ _ _ es (K2.out _ (seqB LR.out LZ.out)) (K0.out _ (seqB L0R.out LZ.out)) YE.out).mono ?_
      rintro e w' ⟨rfl, rfl⟩
      have FIN : Hid (Below w.heap.size w wz) := seqB L0R.out LZ.out
      go_wp2
      go_ret
      exact ⟨rfl, FIN.out⟩
end Go.Proofs.Ytpamnephndoefaa
