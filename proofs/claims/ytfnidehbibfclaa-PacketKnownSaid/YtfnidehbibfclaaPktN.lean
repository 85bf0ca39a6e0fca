/- Layer 7's laws: what the examples say. -/
import Derived.Test.YtfnidehbibfclaaPktL
import Derived.Test.YtfnidehbibfclaaPktH
set_option maxRecDepth 100000
namespace Go.Proofs.Ytfnidehbibfclaa
open Go.ChangeShapes Go.WideShapes Go.ChangeAt Go.RowKit OctM

theorem plain_byt {ds : List Nat} (hy : Byt ds) : Byt (plainD ds) := byt_append (byt_append (fun d hd => by obtain rfl := List.mem_singleton.1 hd; decide) (byt_zeros 47)) hy
def exB : List Nat := [0, 0, 0, 7, 1, 2, 3, 4, 5, 6, 7, 8]
theorem exB_byt : Byt exB := fun d hd => by
  simp only [exB, List.mem_cons, List.not_mem_nil, or_false] at hd
  omega
theorem pk1 : (parP (plainD [])).2 = 0 ∧ (parP (plainD [])).1.h.ve = 4 ∧ (parP (plainD [])).1.h.mo = 3 ∧ (parP (plainD [])).1.sg = false := by decide +kernel
theorem pk2 : (parP (plainD exB)).2 = 0 ∧ (parP (plainD exB)).1.sg = true ∧ (parP (plainD exB)).1.ky = 7 ∧ (parP (plainD exB)).1.tg = 72623859790382856 := by decide +kernel
theorem pk3 : (parP (plainD (List.replicate 12 0))).2 = 5 := by decide +kernel
theorem pk4 : (parP (plainD (List.replicate 8 0))).2 = 4 := by decide +kernel
theorem two_own (ds : List Nat) (hy : Byt ds) :
    ∀ v m B w1, w1.ownsRow B 5 1 v m (valsN .u8 (plainD ds)) → Calls Try.prog 23 #[v] w1 (PakN w1 (parP (plainD ds)).1 (parP (plainD ds)).2) := fun v m B w1 o => by
  obtain ⟨q, d, rfl, hh⟩ := own_holds o
  exact pparse7_any w1 q m d _ hh (plain_byt hy)

attribute [local go_sem ↓] loadP_eq storeP_eq boxP_eq allocP_eq zeroP_eq zeroP_eq'

set_option maxHeartbeats 8000000 in
theorem awake7_any (w : World) :
    Calls Try.prog 14 #[] w fun e w' => e = .returned (.bool true) ∧ Below w.heap.size w w' := by
  have az := alloc_pk
  have zz := zero_pk
  have PL : Hid (∀ w p n c ds, Holds w p n c (valsN .u8 ds) → n ≤ 1000 → Calls Try.prog 38 #[.slice p n c] w (OfR w w.heap.size (48 + n) (plainD ds))) := fun w p n c ds h k => plain7_any w p n c ds h k
  have T1 := Lib.hid (two_own [] (fun d hd => by cases hd))
  have T2 := Lib.hid (two_own exB exB_byt)
  have T3 := Lib.hid (two_own _ (byt_zeros 12))
  have T4 := Lib.hid (two_own _ (byt_zeros 8))
  obtain ⟨a1, a2, a3, a4⟩ := pk1
  obtain ⟨b1, b2, b3, b4⟩ := pk2
  rw [a1] at T1
  rw [b1] at T2
  rw [pk3] at T3
  rw [pk4] at T4
  generalize (parP (plainD [])).1 = K1 at *
  generalize (parP (plainD exB)).1 = K2 at *
  generalize (parP (plainD (List.replicate 12 0))).1 = K3 at *
  generalize (parP (plainD (List.replicate 8 0))).1 = K4 at *
  have P1 := Lib.hid (PL.out w none 0 0 [] (New.nil w.heap.size w).holds (by decide))
  obtain ⟨C12, hC12, hCs12, mk12'⟩ := makeZ 12 (by decide)
  have mk12 : ∀ w, (Instr.makeSlice 31 (.int .i64 12) (.int .i64 12)).run Try.prog w = .ok (.slice (some ⟨w.heap.size, 0, none⟩) 12 12) (w.alloc (.cells C12 5)) := mk12'
  obtain ⟨C8, hC8, hCs8, mk8'⟩ := makeZ 8 (by decide)
  have mk8 : ∀ w, (Instr.makeSlice 31 (.int .i64 8) (.int .i64 8)).run Try.prog w = .ok (.slice (some ⟨w.heap.size, 0, none⟩) 8 8) (w.alloc (.cells C8 5)) := mk8'
  have H12 : Hid (∀ w : World, Holds (w.alloc (.cells C12 5)) (some ⟨w.heap.size, 0, none⟩) 12 12 (valsN .u8 (List.replicate 12 0))) := fun w => by
    have hh := blk_holds (heap_alloc_new w (.cells C12 5)) hCs12 (by decide)
    rwa [hC12] at hh
  have H8 : Hid (∀ w : World, Holds (w.alloc (.cells C8 5)) (some ⟨w.heap.size, 0, none⟩) 8 8 (valsN .u8 (List.replicate 8 0))) := fun w => by
    have hh := blk_holds (heap_alloc_new w (.cells C8 5)) hCs8 (by decide)
    rwa [hC8] at hh
  clear mk12' mk8' hC12 hCs12 hC8 hCs8
  go_enter Try.func14, Try.ntmps14
  go_wp2_with fail
  refine P1.out.mono ?_; rintro e w1 ⟨v1, rfl, o1, l1⟩
  have Q1 := Lib.hid (T1.out v1 _ _ w1 o1)
  have L1 := Lib.hid l1
  clear o1 l1 P1 T1
  go_wp2_with fail
  refine Q1.out.mono ?_; rintro e w2 ⟨h1, x1, fs1, rfl, J1, -, l2⟩
  have L2 := Lib.hid (L1.out.trans (l2.mono L1.out.size))
  have SN1 := store_new w2 (pkC Hd.zero Xt.zero) h1 x1 rfl
  have u1 : h1.ve = 4 := by rw [← a2, J1.e]
  have u2 : h1.mo = 3 := by rw [← a3, J1.e]
  have u3 : x1.sg = false := by rw [← a4, J1.e]
  have LA := Lib.hid (L2.out.alloc L2.out.size (.cells (pkC h1 x1) 27))
  have A2 : Hid ((w2.alloc (.cells (pkC h1 x1) 27)).heap[w2.heap.size]? = some (.cells (pkC h1 x1) 27 (0, 0))) := heap_alloc_new w2 _
  have zA : (w2.alloc (.cells (pkC h1 x1) 27)).heap.size = w2.heap.size + 1 := by simp
  have N1 : w.heap.size ≤ w2.heap.size := L2.out.size
  clear l2 J1 Q1 a2 a3 a4 L1
  go_wp2_with fail
  generalize w2.alloc (.cells (pkC h1 x1) 27) = wA at *
  generalize w2.heap.size = M1 at *
  rw [← zA]
  have P2 := PL.out (wA.alloc (.cells #[.int .u8 0, .int .u8 0, .int .u8 0, .int .u8 7, .int .u8 1, .int .u8 2, .int .u8 3, .int .u8 4, .int .u8 5, .int .u8 6, .int .u8 7, .int .u8 8] 5)) (some ⟨wA.heap.size, 0, none⟩) 12 12 exB (blk_holds (heap_alloc_new wA _) rfl (by decide)) (by decide)
  refine P2.mono ?_; rintro e w3 ⟨v3, rfl, o3, l3⟩
  have Q3 := Lib.hid (T2.out v3 _ _ w3 o3)
  have LB : Hid (Below wA.heap.size wA w3) := ((Below.refl _ _).alloc (Nat.le_refl _) _).trans (l3.mono (by simp))
  clear o3 l3 T2 P2 zA
  go_wp2_with fail
  refine Q3.out.mono ?_; rintro e w4 ⟨h2, x2, fs2, rfl, J2, -, l4⟩
  have SN2 := store_new w4 (pkC Hd.zero Xt.zero) h2 x2 rfl
  have t1 : x2.sg = true := by rw [← b2, J2.e]
  have t2 : x2.ky = 7 := by rw [← b3, J2.e]
  have t3 : x2.tg = 72623859790382856 := by rw [← b4, J2.e]
  have LC : Hid (Below wA.heap.size wA w4) := LB.out.trans (l4.mono LB.out.size)
  have LD := Lib.hid (LC.out.alloc LC.out.size (.cells (pkC h2 x2) 27))
  have D1 := Lib.hid (pk_keep A2.out LD.out)
  have D2 : Hid ((w4.alloc (.cells (pkC h2 x2) 27)).heap[w4.heap.size]? = some (.cells (pkC h2 x2) 27 (0, 0))) := heap_alloc_new w4 _
  have zD : (w4.alloc (.cells (pkC h2 x2) 27)).heap.size = w4.heap.size + 1 := by simp
  have LE := Lib.hid (LA.out.trans (LD.out.mono LA.out.size))
  clear l4 J2 Q3 b2 b3 b4 LB LC LD LA A2
  go_wp2_with fail
  generalize w4.alloc (.cells (pkC h2 x2) 27) = wD at *
  generalize w4.heap.size = M2 at *
  rw [← zD]
  have P3 := PL.out (wD.alloc (.cells C12 5)) (some ⟨wD.heap.size, 0, none⟩) 12 12 _ (H12.out wD) (by decide)
  refine P3.mono ?_; rintro e w5 ⟨v5, rfl, o5, l5⟩
  have Q5 := Lib.hid (T3.out v5 _ _ w5 o5)
  have LF : Hid (Below wD.heap.size wD w5) := ((Below.refl _ _).alloc (Nat.le_refl _) _).trans (l5.mono (by simp))
  clear o5 l5 T3 P3 zD
  go_wp2_with fail
  refine Q5.out.mono ?_; rintro e w6 ⟨h3, x3, fs3, rfl, -, -, l6⟩
  have LG : Hid (Below wD.heap.size wD w6) := LF.out.trans (l6.mono LF.out.size)
  have SN3 := store_new w6 (pkC Hd.zero Xt.zero) h3 x3 rfl
  clear l6 Q5 LF
  go_wp2_with fail
  have LH := Lib.hid (LG.out.alloc LG.out.size (.cells (pkC h3 x3) 27))
  have zH : (w6.alloc (.cells (pkC h3 x3) 27)).heap.size = w6.heap.size + 1 := by simp
  generalize w6.alloc (.cells (pkC h3 x3) 27) = wH at *
  rw [← zH]
  generalize w6.heap.size = M3 at *
  clear LG
  have P7 := PL.out (wH.alloc (.cells C8 5)) (some ⟨wH.heap.size, 0, none⟩) 8 8 _ (H8.out wH) (by decide)
  refine P7.mono ?_; rintro e w7 ⟨v7, rfl, o7, l7⟩
  have Q7 := Lib.hid (T4.out v7 _ _ w7 o7)
  have LI : Hid (Below wH.heap.size wH w7) := ((Below.refl _ _).alloc (Nat.le_refl _) _).trans (l7.mono (by simp))
  clear o7 l7 T4 P7 zH
  go_wp2_with fail
  refine Q7.out.mono ?_; rintro e w8 ⟨h4, x4, fs4, rfl, -, -, l8⟩
  have LJ : Hid (Below wH.heap.size wH w8) := LI.out.trans (l8.mono LI.out.size)
  have LK := Lib.hid (LJ.out.alloc LJ.out.size (.cells (pkC h4 x4) 27))
  have SN4 := store_new w8 (pkC Hd.zero Xt.zero) h4 x4 rfl
  have LL := Lib.hid (LH.out.trans (LK.out.mono LH.out.size))
  have Z1 := pk_keep D1.out LL.out
  have Z2 := pk_keep D2.out LL.out
  have LZ := Lib.hid (LE.out.trans (LL.out.mono LE.out.size))
  have c1 : (w8.alloc (.cells (pkC h4 x4) 27)).cell? ⟨M1, 1, none⟩ = some (.int .u8 (h1.ve : Nat)) := pk_cell Z1 1 rfl
  have c2 : (w8.alloc (.cells (pkC h4 x4) 27)).cell? ⟨M1, 2, none⟩ = some (.int .u8 (h1.mo : Nat)) := pk_cell Z1 2 rfl
  have c14 : (w8.alloc (.cells (pkC h4 x4) 27)).cell? ⟨M1, 14, none⟩ = some (.bool x1.sg) := pk_cell Z1 14 rfl
  have d14 : (w8.alloc (.cells (pkC h4 x4) 27)).cell? ⟨M2, 14, none⟩ = some (.bool x2.sg) := pk_cell Z2 14 rfl
  have d15 : (w8.alloc (.cells (pkC h4 x4) 27)).cell? ⟨M2, 15, none⟩ = some (.int .u32 (x2.ky : Nat)) := pk_cell Z2 15 rfl
  have d16 : (w8.alloc (.cells (pkC h4 x4) 27)).cell? ⟨M2, 16, none⟩ = some (.int .u64 (x2.tg : Nat)) := pk_cell Z2 16 rfl
  rw [u1] at c1
  rw [u2] at c2
  rw [u3] at c14
  rw [t1] at d14
  rw [t2] at d15
  rw [t3] at d16
  have Y1 := pk_keep D1.out (LH.out.trans (LJ.out.mono LH.out.size))
  have Y2 := pk_keep D2.out (LH.out.trans (LJ.out.mono LH.out.size))
  have e1 : w8.cell? ⟨M1, 1, none⟩ = some (.int .u8 (h1.ve : Nat)) := pk_cell Y1 1 rfl
  have e2 : w8.cell? ⟨M1, 2, none⟩ = some (.int .u8 (h1.mo : Nat)) := pk_cell Y1 2 rfl
  have e14 : w8.cell? ⟨M1, 14, none⟩ = some (.bool x1.sg) := pk_cell Y1 14 rfl
  have f14 : w8.cell? ⟨M2, 14, none⟩ = some (.bool x2.sg) := pk_cell Y2 14 rfl
  have f15 : w8.cell? ⟨M2, 15, none⟩ = some (.int .u32 (x2.ky : Nat)) := pk_cell Y2 15 rfl
  have f16 : w8.cell? ⟨M2, 16, none⟩ = some (.int .u64 (x2.tg : Nat)) := pk_cell Y2 16 rfl
  rw [u1] at e1
  rw [u2] at e2
  rw [u3] at e14
  rw [t1] at f14
  rw [t2] at f15
  rw [t3] at f16
  have LZ8 := Lib.hid (LE.out.trans ((LH.out.trans (LJ.out.mono LH.out.size)).mono LE.out.size))
  clear l8 Q7 LI LJ LK LL Z1 Z2 Y1 Y2 D1 D2 LE LH
  go_wp2
  go_ret
  first | exact ⟨rfl, LZ.out⟩ | exact ⟨rfl, LZ8.out⟩
end Go.Proofs.Ytfnidehbibfclaa
