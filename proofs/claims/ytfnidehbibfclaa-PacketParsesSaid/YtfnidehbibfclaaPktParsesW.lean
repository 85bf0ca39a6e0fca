/- The walk of PacketParses: packets of bytes are the document's, what is handed in stays. -/
import Derived.Test.YtfnidehbibfclaaPktN
import Derived.Test.YtfnidehbibfclaaPktE
import Derived.Test.YtfnidehbibfclaaPktK
import Derived.Test.YtfnidehbibfclaaGD
import Derived.Test.YtfnidehbibfclaaGB
import Derived.Test.YtfnidehbibfclaaGG
import Derived.Test.YtfnidehbibfclaaFlip
set_option maxRecDepth 100000
namespace Go.Proofs.Ytfnidehbibfclaa
open Go.ChangeShapes Go.WideShapes Go.ChangeAt Go.RowKit OctM

theorem par_small {ds : List Nat} (hy : Byt ds) : (parP ds).1.l.length ≤ 8 ∧ ∀ x ∈ (parP ds).1.l, x.2.length ≤ 464 := by
  rcases par_spec hy with ⟨-, -, m, -⟩ | ⟨-, z⟩
  · refine ⟨m.2.1.2, fun x hx => ?_⟩
    have := m.2.1.1 x hx
    unfold longN at this
    omega
  · rw [z]
    exact ⟨Nat.zero_le _, fun x hx => by cases hx⟩

attribute [local go_sem ↓] loadP_eq storeP_eq boxP_eq allocP_eq zeroP_eq zeroP_eq'

set_option maxHeartbeats 16000000 in
theorem parses7_walk (w : World) (p : Option Addr) (n c : Nat) (bs : List Nat) (hb : Holds w p n c (valsN .u8 bs)) (yb : Byt bs) :
    Calls Try.prog 4 #[.slice p n c] w (SaidB w true) := by
  have az := alloc_pk
  have zz := zero_pk
  obtain ⟨k, hk⟩ : ∃ k, k = min n 600 := ⟨_, rfl⟩
  have bc := hb.cap
  have bm := hb.max
  unfold maxLen at bm
  have nb : (n : Int) ≤ 9223372036854775807 := by omega
  have EM : min (n : Int) 600 = (k : Int) := by omega
  have EI : (if (600 : Int) < (n : Int) then (600 : Int) else (n : Int)) = (k : Int) := by split <;> omega
  have kc : (k : Int) ≤ (c : Int) := by omega
  have k2 : (k : Int) ≤ 600 := by omega
  have HK := Lib.hid (holdsN_take hb (k := k) (by omega))
  have YK := Lib.hid (byt_take yb k)
  generalize bs.take k = ds at *
  have OP := Lib.hid (rown_any w p k c ds HK.out (by omega))
  have SM := Lib.hid (par_small YK.out)
  have PP := Lib.hid (fun w' p' c' (h : Holds w' p' k c' (valsN .u8 ds)) => pparse7_any w' p' k c' ds h YK.out)
  have RP := Lib.hid (fun w' p' c' (h : Holds w' p' k c' (valsN .u8 ds)) => rparse7_any w' p' k c' ds h YK.out)
  generalize (parP ds).1 = K at *
  generalize (parP ds).2 = E at *
  clear hb yb hk bc bm
  go_enter Try.func4, Try.ntmps4
  go_wp2_with fail
  refine OP.out.mono ?_; intro e w1 ho
  obtain ⟨vo, rfl, oo, low1⟩ := ho.out
  obtain ⟨po, co, rfl, ho1⟩ := own_holds oo
  have HO := Lib.hid ho1
  have L1 := Lib.hid low1
  have HK1 := Lib.hid (HK.out.below low1)
  have PA := Lib.hid (PP.out w1 po co ho1)
  clear ho oo ho1 low1
  go_wp2_with fail
  refine PA.out.mono ?_; rintro e w2 ⟨h2, x2, f2, rfl, I2, N2, l2⟩
  have SN2 := store_new w2 (pkC Hd.zero Xt.zero) h2 x2 rfl
  have AL2 : Below w2.heap.size w2 (w2.alloc (.cells (pkC h2 x2) 27)) := (Below.refl _ _).alloc (Nat.le_refl _) _
  have L2 : Hid (Below w1.heap.size w1 (w2.alloc (.cells (pkC h2 x2) 27))) := l2.trans (AL2.mono l2.size)
  have B2 : Hid ((w2.alloc (.cells (pkC h2 x2) 27)).heap[w2.heap.size]? = some (.cells (pkC h2 x2) 27 (0, 0))) := heap_alloc_new w2 _
  have J2 := Lib.hid (I2.below AL2)
  have M2 : Hid (NewsX w1.heap.size (w2.alloc (.cells (pkC h2 x2) 27)) f2) := fun f hf => (N2 f hf).below AL2
  have Z2 : Hid (w1.heap.size ≤ w2.heap.size) := l2.size
  have PB := Lib.hid (RP.out _ p c (HK1.out.below L2.out))
  clear l2 AL2 I2 N2 PA OP PP RP
  go_wp2_with fail
  generalize w2.alloc (.cells (pkC h2 x2) 27) = w3 at *
  generalize w2.heap.size = N2 at *
  refine PB.out.mono ?_; rintro e w4 ⟨h4, x4, f4, rfl, I4, -, l4⟩
  have SN4 := store_new w4 (pkC Hd.zero Xt.zero) h4 x4 rfl
  have AL4 : Below w4.heap.size w4 (w4.alloc (.cells (pkC h4 x4) 27)) := (Below.refl _ _).alloc (Nat.le_refl _) _
  have L4 : Hid (Below w3.heap.size w3 (w4.alloc (.cells (pkC h4 x4) 27))) := l4.trans (AL4.mono l4.size)
  have B4 : Hid ((w4.alloc (.cells (pkC h4 x4) 27)).heap[w4.heap.size]? = some (.cells (pkC h4 x4) 27 (0, 0))) := heap_alloc_new w4 _
  have J4 := Lib.hid (I4.below AL4)
  have J24 := Lib.hid (J2.out.below L4.out)
  have B24 := Lib.hid (pk_keep B2.out L4.out)
  have LD2 := load_pk B24.out
  have LD4 := load_pk B4.out
  clear l4 AL4 I4 PB
  go_wp2_with fail
  have SA := rsame7_any _ h2 h4 x2 x4 f2 f4 K K J24.out J4.out
  rw [decide_eq_true (same_eq.2 rfl)] at SA
  refine SA.mono ?_; rintro e w5 ⟨rfl, l5⟩
  have L5 : Hid (Below w3.heap.size w3 w5) := L4.out.trans (l5.mono L4.out.size)
  have S5 := Lib.hid (FlipRel.start J2.out.hx M2.out L5.out L2.out)
  have c13 := (pk_at (pk_keep B24.out l5)).1
  have FL : Hid (f2.length = x2.n) := J2.out.hx.len
  have ee : ((E : Int) == (E : Int)) = true := beq_self_eq_true _
  have N8 : Hid (x2.n ≤ 8) := by
    have a := SM.out.1
    rw [J2.out.l, says_len] at a
    unfold Hid
    rw [← FL.out]
    exact a
  have FN : Hid (∀ f ∈ f2, f.n ≤ 464) := fun f hf => by
    have a := SM.out.2 (f.ty, f.ds) (by rw [J2.out.l]; unfold says; exact List.mem_map.2 ⟨f, hf, rfl⟩)
    have b := (J2.out.hx.data f hf).len
    rw [valsN_len] at b
    simp only at a
    omega
  have n8 : (x2.n : Int) ≤ 8 := by have := N8.out; omega
  clear SA l5 J2 J4 J24 B2 B24 B4 LD2 LD4 M2 Z2 SM
  obtain ⟨pp, N, cp, sg2, ky2, tg2⟩ := x2
  simp only at FL N8 n8 c13 S5
  go_wp2_with fail
  go_loopw [40] (fun i wr => ∃ j : Nat, i = .int .i64 j ∧ Hid (j ≤ N) ∧ Hid (FlipRel w1 wr pp f2)) (fun i _ => 100 - (intOf i).toNat)
  case atStart => exact ⟨0, rfl, Nat.zero_le _, S5⟩
  case round =>
    obtain ⟨j, rfl, hj, h⟩ := hrel
    have j8 : (j : Int) ≤ 8 := by have := hj.out; have := N8.out; omega
    by_cases g : j < N
    · have g' : (j : Int) < (N : Int) := by omega
      have G := Lib.hid g
      obtain ⟨a, f, rfl, hf, c0, c1⟩ := h.out.at (i := j) (by rw [FL.out]; exact g)
      have fn := FN.out f (List.mem_of_getElem? hf)
      have MEM := Lib.hid (List.mem_of_getElem? hf)
      have LA : Below wr.heap.size wr (wr.alloc (.cells #[.int .u16 (f.ty : Nat), .slice f.p f.n f.c] 52)) := (Below.refl _ _).alloc (Nat.le_refl _) _
      have S0 := Lib.hid (h.out.below LA)
      have HA : (wr.alloc (.cells #[.int .u16 (f.ty : Nat), .slice f.p f.n f.c] 52)).heap[wr.heap.size]? = some (.cells #[.int .u16 (f.ty : Nat), .slice f.p f.n f.c] 52 (0, 0)) := heap_alloc_new wr _
      have C0 : Hid ((wr.alloc (.cells #[.int .u16 (f.ty : Nat), .slice f.p f.n f.c] 52)).cell? ⟨wr.heap.size, 1, none⟩ = some (.slice f.p f.n f.c)) := blk_cell HA
      obtain ⟨t, fp', fn', fc', ds'⟩ := f
      simp only at c0 c1 fn S0 C0 HA LA
      have fb : (fn' : Int) ≤ 464 := by omega
      have FB := Lib.hid fn
      clear g hj h hf LA HA fn
      go_wp2_with fail
      generalize (wr.alloc (.cells #[.int .u16 (t : Nat), .slice fp' fn' fc'] 52)) = wa at *
      go_loopw [47] (fun i wr2 => ∃ q : Nat, i = .int .i64 q ∧ Hid (q ≤ fn') ∧ Hid (FlipRel w1 wr2 (some a) f2) ∧ Hid (wr2.cell? ⟨wr.heap.size, 1, none⟩ = some (.slice fp' fn' fc'))) (fun i _ => 1000 - (intOf i).toNat)
      case atStart => exact ⟨0, rfl, Nat.zero_le _, S0, C0⟩
      case round =>
        obtain ⟨q, rfl, hq, h2, hc⟩ := hrel
        have q4 : (q : Int) ≤ 464 := by have := hq.out; have := FB.out; omega
        by_cases g2 : q < fn'
        · have g2' : (q : Int) < (fn' : Int) := by omega
          have G2 := Lib.hid g2
          obtain ⟨b, z, rfl, cz, fz⟩ := (h2.out.soft _ MEM.out).cell q g2
          have c1' := hc.out
          have bl : w1.heap.size ≤ (b.add q).block := by rw [add_block]; exact h2.out.base _ MEM.out b rfl
          have NX := Lib.hid (fun y => h2.out.flip cz bl y)
          have NC := Lib.hid (fun y : Int => cell_stays (v := .int .u8 y) hc.out (fun z e => by cases e) cz)
          clear g2 hq h2 hc bl
          go_wp2
          go_roundw
          case rel => exact ⟨q + 1, by go_num, G2.out, NX.out _, NC.out _⟩
          case measure => simp [intOf]; omega
        · have g2' : (fn' : Int) ≤ (q : Int) := by omega
          clear g2 hq hc
          go_wp2
          go_roundw
          case rel => exact ⟨j + 1, by go_num, G.out, h2⟩
          case measure => simp [intOf]; omega
    · have g' : (N : Int) ≤ (j : Int) := by omega
      have AW := Lib.hid (awake7_any wr)
      have H1 := Lib.hid (HO.out.below h.out.low)
      have H2 := Lib.hid (HK1.out.below h.out.low)
      have FW : Hid (Below w.heap.size w wr) := L1.out.trans (h.out.low.mono L1.out.size)
      clear g hj h
      go_wp2_with fail
      refine AW.out.mono ?_; rintro e w6 ⟨rfl, l6⟩
      have EQ6 := Lib.hid (bequal_same w6 po p k co k c ds (H1.out.below l6) (H2.out.below l6) YK.out)
      have F6 : Hid (Below w.heap.size w w6) := FW.out.trans (l6.mono FW.out.size)
      clear l6
      go_wp2_with fail
      refine EQ6.out.mono ?_; rintro e w7 ⟨rfl, rfl⟩
      go_wp2
      go_ret
      exact ⟨rfl, F6.out⟩
end Go.Proofs.Ytfnidehbibfclaa
