/- The walk of HeadKnown: the chapter's rows; what may not be. -/
import Derived.Test.YtjjbalgonkphjaaHeadP
import Derived.Test.YtjjbalgonkphjaaHeadD
import Derived.Test.YtjjbalgonkphjaaHeadF
namespace Go.Proofs.Ytjjbalgonkphjaa
open Go.ChangeShapes Go.WideShapes Go.ChangeAt Go.RowKit OctM

/-- so many new bytes, all 0. -/
theorem make8z (s : Nat) (hs : s ≤ 1000000) (C : Array Value) (hC : C = madeCells #[Value.int .u8 0] s) : C.size = s ∧ ∀ w, (Instr.makeSlice 28 (.int .i64 (s : Int)) (.int .i64 (s : Int))).run Try.prog w = .ok (.slice (some ⟨w.heap.size, 0, none⟩) s s) (w.alloc (.cells C 5)) := by
  obtain ⟨i, hi, h0, h1, h2⟩ := info_of info8
  subst hC
  refine ⟨size_madeCells _ _, fun w => ?_⟩
  have r := run_make (P := Try.prog) w 28 5 i (.int .u8 0) Try.underlying28 hi h0 .i64 .i64 (s : Int) (s : Int) (by omega) (by omega) (by rw [h2]; omega) (by omega)
  rw [h1, Int.toNat_natCast, Nat.mul_one] at r
  exact r
def zero48 : Array Value := madeCells #[Value.int .u8 0] 48
def zero47 : Array Value := madeCells #[Value.int .u8 0] 47
theorem zero48_list : zero48.toList = valsN .u8 (List.replicate 48 0) := by kernel_rfl
def wide5 : List Nat := 40 :: List.replicate 47 0
def wide1 : List Nat := [8, 0, 0, 128] ++ List.replicate 44 0
theorem zero48_0 : zero48[0]? = some (.int .u8 0) := by kernel_rfl
theorem zero48_3 : (zero48.setIfInBounds 0 (.int .u8 40))[3]? = some (.int .u8 0) := by kernel_rfl
theorem zero48_40 : (zero48.setIfInBounds 0 (.int .u8 40))[0]? = some (.int .u8 40) := by kernel_rfl
theorem zero48_set5 : (zero48.setIfInBounds 0 (.int .u8 40)).toList = valsN .u8 wide5 := by kernel_rfl
theorem zero48_set1 : (((zero48.setIfInBounds 0 (.int .u8 40)).set! 0 (.int .u8 8)).set! 3 (.int .u8 128)).toList = valsN .u8 wide1 := by kernel_rfl
def hd1 : Hd := ⟨0, 1, 0, 0, 0, -128, 0, 0, 0, 0, 0, 0, 0⟩
theorem hd1_wf : hd1.wf := ⟨by decide, by decide, by decide, by decide, by decide, by decide, by decide, by decide, by decide, by decide, by decide, by decide, by decide⟩
theorem hd1_wide : hdP wide1 = hd1 := by decide +kernel
theorem hd1_bytes : bytesH hd1 = wide1 := by decide +kernel
theorem no48 : ¬ mayH (hdP (List.replicate 48 0)) := by decide +kernel
theorem no5 : ¬ mayH (hdP wide5) := by decide +kernel
theorem wide1_byt : Byt wide1 := by decide

attribute [local go_sem ↓] loadP_eq storeP_eq boxP_eq allocP_eq zeroP_eq zeroP_eq' strB_eq eqlS_eq
set_option maxRecDepth 100000 in
set_option maxHeartbeats 16000000 in
theorem known4_walk (w : World) : Calls Try.prog 7 #[] w fun e w' => e = .returned (.bool true) ∧ Below w.heap.size w w' := by
  have sn := fun w h x => store_new w (pkC Hd.zero Xt.zero) h x rfl
  have al := alloc_pk
  have zr := zero_pk
  obtain ⟨Z8, hZ8⟩ : ∃ Z, Z = zero48 := ⟨_, rfl⟩
  obtain ⟨Z7, hZ7⟩ : ∃ Z, Z = zero47 := ⟨_, rfl⟩
  obtain ⟨z8, mk8⟩ := make8z 48 (by omega) Z8 hZ8
  obtain ⟨z7, mk7⟩ := make8z 47 (by omega) Z7 hZ7
  replace mk8 : ∀ w, (Instr.makeSlice 28 (.int .i64 48) (.int .i64 48)).run Try.prog w = .ok (.slice (some ⟨w.heap.size, 0, none⟩) 48 48) (w.alloc (.cells Z8 5)) := mk8
  replace mk7 : ∀ w, (Instr.makeSlice 28 (.int .i64 47) (.int .i64 47)).run Try.prog w = .ok (.slice (some ⟨w.heap.size, 0, none⟩) 47 47) (w.alloc (.cells Z7 5)) := mk7
  replace hZ8 := Lib.hid hZ8
  replace z8 := Lib.hid z8
  clear z7 hZ7
  go_enter Try.func7, Try.ntmps7
  go_wp2_with fail
  refine (pput_no _ Hd.zero Xt.zero (by decide)).mono ?_; rintro e w1 ⟨rfl, l⟩
  have L1 := Lib.hid l
  clear l
  go_wp2_with fail
  refine (pput_no _ ⟨0, 5, 0, 0, 0, 0, 0, 0, 0, 0, 0, 0, 0⟩ Xt.zero (by decide)).mono ?_; rintro e w2 ⟨rfl, l⟩
  have L2 : Hid (Below w.heap.size w w2) := L1.out.trans (l.mono L1.out.size)
  clear l
  go_wp2_with fail
  refine (pput_no _ ⟨4, 1, 0, 0, 0, 0, 0, 0, 0, 0, 0, 0, 0⟩ Xt.zero (by decide)).mono ?_; rintro e w3 ⟨rfl, l⟩
  have L3 : Hid (Below w.heap.size w w3) := L2.out.trans (l.mono L2.out.size)
  clear l
  go_wp2_with fail
  refine (pput_no _ ⟨0, 1, 8, 0, 0, 0, 0, 0, 0, 0, 0, 0, 0⟩ Xt.zero (by decide)).mono ?_; rintro e w4 ⟨rfl, l⟩
  have L4 : Hid (Below w.heap.size w w4) := L3.out.trans (l.mono L3.out.size)
  clear l
  go_wp2_with fail
  have H5 : Hid (Holds (w4.alloc (.cells Z8 5)) (some ⟨w4.heap.size, 0, none⟩) 48 48 (valsN .u8 (List.replicate 48 0))) := by
    unfold Hid
    rw [← zero48_list, ← hZ8.out]
    exact blk_holds (heap_alloc_new _ _) z8.out (by unfold maxLen; omega)
  have L4' : Hid (Below w.heap.size w (w4.alloc (.cells Z8 5))) := L4.out.alloc L4.out.size _
  refine (pparse_form _ _ 48 48 (List.replicate 48 0) H5.out (by decide) (by omega) (by omega) no48).mono ?_; rintro e w5 ⟨rfl, l⟩
  have L5 : Hid (Below w.heap.size w w5) := L4'.out.trans (l.mono L4'.out.size)
  clear l
  go_wp2_with fail
  have L5' : Hid (Below w.heap.size w ((w5.alloc (.cells (pkC Hd.zero Xt.zero) 27)).alloc (.cells Z7 5))) := (L5.out.alloc L5.out.size _).alloc (by simp; have := L5.out.size; omega) _
  refine (pparse_short _ _ 47 47 (by omega)).mono ?_; rintro e w6 ⟨rfl, l⟩
  have L6 : Hid (Below w.heap.size w w6) := L5'.out.trans (l.mono L5'.out.size)
  clear l
  have S7 : Hid (w6.heap.size < (w6.alloc (.cells (pkC Hd.zero Xt.zero) 27)).heap.size) := by unfold Hid; simp
  have N7 : (w6.alloc (.cells (pkC Hd.zero Xt.zero) 27)).heap.size = w6.heap.size + 1 := by simp
  have L7 : Hid (Below w.heap.size w (w6.alloc (.cells (pkC Hd.zero Xt.zero) 27))) := L6.out.alloc L6.out.size _
  have B7 : Hid (((w6.alloc (.cells (pkC Hd.zero Xt.zero) 27)).alloc (.cells Z8 5)).heap[w6.heap.size + 1]? = some (.cells Z8 5 (0, 0))) := heap_alloc2_new _ _ _
  have L8 : Hid (Below w.heap.size w ((w6.alloc (.cells (pkC Hd.zero Xt.zero) 27)).alloc (.cells Z8 5))) := L7.out.alloc L7.out.size _
  have c0 : ((w6.alloc (.cells (pkC Hd.zero Xt.zero) 27)).alloc (.cells Z8 5)).cell? ⟨w6.heap.size + 1, 0, none⟩ = some (.int .u8 0) := by
    rw [blk_cell B7.out, hZ8.out]; exact zero48_0
  have f0 : ((w6.alloc (.cells (pkC Hd.zero Xt.zero) 27)).alloc (.cells Z8 5)).frozen? ⟨w6.heap.size + 1, 0, none⟩ = false := blk_free B7.out
  go_wp2_with fail
  have B8 : Hid (((w6.alloc (.cells (pkC Hd.zero Xt.zero) 27)).alloc (.cells (Z8.setIfInBounds 0 (.int .u8 40)) 5)).heap[w6.heap.size + 1]? = some (.cells (Z8.setIfInBounds 0 (.int .u8 40)) 5 (0, 0))) := heap_alloc2_new _ _ _
  have L8' : Hid (Below w.heap.size w ((w6.alloc (.cells (pkC Hd.zero Xt.zero) 27)).alloc (.cells (Z8.setIfInBounds 0 (.int .u8 40)) 5))) := L7.out.alloc L7.out.size _
  clear c0 f0 N7
  generalize ((w6.alloc (.cells (pkC Hd.zero Xt.zero) 27)).alloc (.cells (Z8.setIfInBounds 0 (.int .u8 40)) 5)) = W7 at *
  have H8 : Hid (Holds W7 (some ⟨w6.heap.size + 1, 0, none⟩) 48 48 (valsN .u8 wide5)) := by
    unfold Hid
    rw [← zero48_set5, ← hZ8.out]
    exact blk_holds B8.out (by rw [Array.size_setIfInBounds]; exact z8.out) (by unfold maxLen; omega)
  refine (pparse_form _ _ 48 48 wide5 H8.out (by decide) (by decide) (by omega) no5).mono ?_; rintro e w7 ⟨rfl, l⟩
  have L9 : Hid (Below w.heap.size w w7) := L8'.out.trans (l.mono L8'.out.size)
  have B9 : Hid (w7.heap[w6.heap.size + 1]? = some (.cells (Z8.setIfInBounds 0 (.int .u8 40)) 5 (0, 0))) := (l.block _ (Array.getElem?_eq_some_iff.1 B8.out).1).trans B8.out
  have N9 : Hid (w.heap.size ≤ w6.heap.size + 1) := by unfold Hid; have := L6.out.size; omega
  clear l
  have BA : Hid ((w7.alloc (.cells (pkC Hd.zero Xt.zero) 27)).heap[w6.heap.size + 1]? = some (.cells (Z8.setIfInBounds 0 (.int .u8 40)) 5 (0, 0))) := (Below.heap_alloc _ _ _ (Array.getElem?_eq_some_iff.1 B9.out).1).trans B9.out
  have c0 : (w7.alloc (.cells (pkC Hd.zero Xt.zero) 27)).cell? ⟨w6.heap.size + 1, 0, none⟩ = some (.int .u8 40) := by rw [blk_cell BA.out, hZ8.out]; exact zero48_40
  have f0 : (w7.alloc (.cells (pkC Hd.zero Xt.zero) 27)).frozen? ⟨w6.heap.size + 1, 0, none⟩ = false := blk_free BA.out
  have c1 : ((w7.alloc (.cells (pkC Hd.zero Xt.zero) 27)).setCell ⟨w6.heap.size + 1, 0, none⟩ (.int .u8 8)).cell? ⟨w6.heap.size + 1, 3, none⟩ = some (.int .u8 0) := by
    rw [World.cell?_setCell_other _ _ _ _ (by simp), blk_cell BA.out, hZ8.out]; exact zero48_3
  have f1 : ((w7.alloc (.cells (pkC Hd.zero Xt.zero) 27)).setCell ⟨w6.heap.size + 1, 0, none⟩ (.int .u8 8)).frozen? ⟨w6.heap.size + 1, 3, none⟩ = false := by rw [World.frozen?_setCell]; exact blk_free BA.out
  go_wp2_with fail
  have BB : Hid ((((w7.alloc (.cells (pkC Hd.zero Xt.zero) 27)).setCell ⟨w6.heap.size + 1, 0, none⟩ (.int .u8 8)).setCell ⟨w6.heap.size + 1, 3, none⟩ (.int .u8 128)).heap[w6.heap.size + 1]? = some (.cells (((Z8.setIfInBounds 0 (.int .u8 40)).set! 0 (.int .u8 8)).set! 3 (.int .u8 128)) 5 (0, 0))) := blk_set (blk_set BA.out)
  have LB : Hid (Below w.heap.size w (((w7.alloc (.cells (pkC Hd.zero Xt.zero) 27)).setCell ⟨w6.heap.size + 1, 0, none⟩ (.int .u8 8)).setCell ⟨w6.heap.size + 1, 3, none⟩ (.int .u8 128))) := ((L9.out.alloc L9.out.size _).setCell N9.out _).setCell N9.out _
  clear c0 f0 c1 f1
  generalize (((w7.alloc (.cells (pkC Hd.zero Xt.zero) 27)).setCell ⟨w6.heap.size + 1, 0, none⟩ (.int .u8 8)).setCell ⟨w6.heap.size + 1, 3, none⟩ (.int .u8 128)) = W8 at *
  have H9 : Hid (Holds W8 (some ⟨w6.heap.size + 1, 0, none⟩) 48 48 (valsN .u8 wide1)) := by
    unfold Hid
    rw [← zero48_set1, ← hZ8.out]
    exact blk_holds BB.out (by simp [z8.out]) (by unfold maxLen; omega)
  refine (pparse_ok _ _ 48 48 wide1 H9.out wide1_byt (by decide) (by omega) (by rw [hd1_wide]; decide)).mono ?_; rintro e w8 ⟨r, rfl, o, l⟩
  rw [hd1_wide]
  obtain ⟨pr, cr, rfl, -⟩ := own_holds o
  have LC : Hid (Below w.heap.size w w8) := LB.out.trans (l.mono LB.out.size)
  have HC : Hid (Holds w8 (some ⟨w6.heap.size + 1, 0, none⟩) 48 48 (valsN .u8 wide1)) := H9.out.below l
  clear l o
  have z0 : (48 - 48 : Nat) = 0 := rfl
  rw [z0]
  go_wp2_with fail
  have NS : ((w8.alloc (.cells (pkC hd1 Xt.zero) 27)).alloc (.cells #[.int .u16 1, .slice none 0 0] 47)).heap.size = w8.heap.size + 1 + 1 := by simp
  obtain ⟨xt, hxt⟩ : ∃ xt : Xt, xt = ⟨some ⟨w8.heap.size + 1, 0, none⟩, 1, 1, true, 3, 9⟩ := ⟨_, rfl⟩
  have SF : (storeP (.pointer (some ⟨w8.heap.size + 1 + 1, 0, none⟩)) (.agg #[.int .u8 0, .int .u8 1, .int .u8 0, .int .u8 0, .int .i8 0, .int .i8 (-128), .int .u32 0, .int .u32 0, .int .u32 0, .int .u64 0, .int .u64 0, .int .u64 0, .int .u64 0, .slice (some ⟨w8.heap.size + 1, 0, none⟩) 1 1, .bool true, .int .u32 3, .int .u64 9])).run Try.prog (((w8.alloc (.cells (pkC hd1 Xt.zero) 27)).alloc (.cells #[.int .u16 1, .slice none 0 0] 47)).alloc (.cells (pkC Hd.zero Xt.zero) 27)) = .ok () (((w8.alloc (.cells (pkC hd1 Xt.zero) 27)).alloc (.cells #[.int .u16 1, .slice none 0 0] 47)).alloc (.cells (pkC hd1 xt) 27)) := by
    have e := store_new ((w8.alloc (.cells (pkC hd1 Xt.zero) 27)).alloc (.cells #[.int .u16 1, .slice none 0 0] 47)) (pkC Hd.zero Xt.zero) hd1 xt rfl
    rw [NS] at e
    rw [hxt] at e ⊢
    exact e
  rw [SF]
  have LD : Hid (Below w.heap.size w (((w8.alloc (.cells (pkC hd1 Xt.zero) 27)).alloc (.cells #[.int .u16 1, .slice none 0 0] 47)).alloc (.cells (pkC hd1 xt) 27))) := ((LC.out.alloc LC.out.size _).alloc (by simp; have := LC.out.size; omega) _).alloc (by rw [NS]; have := LC.out.size; omega) _
  have LE : Hid (Below w8.heap.size w8 (((w8.alloc (.cells (pkC hd1 Xt.zero) 27)).alloc (.cells #[.int .u16 1, .slice none 0 0] 47)).alloc (.cells (pkC hd1 xt) 27))) := (((Below.refl _ _).alloc (Nat.le_refl _) _).alloc (by simp) _).alloc (by rw [NS]; omega) _
  have GA : Hid ((((w8.alloc (.cells (pkC hd1 Xt.zero) 27)).alloc (.cells #[.int .u16 1, .slice none 0 0] 47)).alloc (.cells (pkC hd1 xt) 27)).heap[w8.heap.size]? = some (.cells (pkC hd1 Xt.zero) 27 (0, 0))) := (Below.heap_alloc _ _ _ (by rw [NS]; omega)).trans (heap_alloc2_old _ _ _)
  have GB : Hid ((((w8.alloc (.cells (pkC hd1 Xt.zero) 27)).alloc (.cells #[.int .u16 1, .slice none 0 0] 47)).alloc (.cells (pkC hd1 xt) 27)).heap[w8.heap.size + 1 + 1]? = some (.cells (pkC hd1 xt) 27 (0, 0))) := by
    have e := heap_alloc_new ((w8.alloc (.cells (pkC hd1 Xt.zero) 27)).alloc (.cells #[.int .u16 1, .slice none 0 0] 47)) (.cells (pkC hd1 xt) 27)
    rw [NS] at e
    exact e
  clear hxt SF NS
  generalize ((w8.alloc (.cells (pkC hd1 Xt.zero) 27)).alloc (.cells #[.int .u16 1, .slice none 0 0] 47)).alloc (.cells (pkC hd1 xt) 27) = W9 at *
  have LF := load_pk GB.out
  go_wp2_with fail
  refine (pput_yes _ hd1 xt hd1_wf (by decide)).mono ?_; rintro e w10 ⟨py, cy, rfl, ny, l⟩
  have hy := ny.holds
  rw [hd1_bytes] at hy
  have LG : Hid (Below w.heap.size w w10) := LD.out.trans (l.mono LD.out.size)
  have GA2 := (l.block _ (Array.getElem?_eq_some_iff.1 GA.out).1).trans GA.out
  have GB2 := (l.block _ (Array.getElem?_eq_some_iff.1 GB.out).1).trans GB.out
  have c5 : w10.cell? ⟨w8.heap.size, 5, none⟩ = some (.int .i8 (-128)) := by rw [blk_cell GA2]; rfl
  have SY := str_held hy
  have SW := str_held ((HC.out.below LE.out).below l)
  have EQ := eql_str w10 wide1_byt wide1_byt
  rw [decide_eq_true (rfl : wide1 = wide1)] at EQ
  have LA1 := load_pk GA2
  have LB1 := load_pk GB2
  clear LF l ny hy GA2 GB2
  go_wp2_with fail
  refine (psame_any _ hd1 hd1 Xt.zero xt).mono ?_; rintro e w11 ⟨rfl, l⟩
  rw [decide_eq_true (rfl : hd1 = hd1)]
  have LH : Hid (Below w.heap.size w w11) := LG.out.trans (l.mono LG.out.size)
  clear l c5 SY SW EQ LA1 LB1
  go_wp2_with fail
  refine (alive4_any _).mono ?_; rintro e w12 ⟨rfl, l⟩
  have LI : Hid (Below w.heap.size w w12) := LH.out.trans (l.mono LH.out.size)
  clear l
  go_wp2
  go_ret
  exact ⟨rfl, LI.out⟩
end Go.Proofs.Ytjjbalgonkphjaa
