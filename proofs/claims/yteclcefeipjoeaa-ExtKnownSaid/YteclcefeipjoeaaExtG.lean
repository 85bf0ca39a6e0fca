/- Layer 5 (ext), the program's Put; and Put of fields that may not be, the program's and the document's. -/
import Derived.Test.YteclcefeipjoeaaExtE
import Derived.Test.YteclcefeipjoeaaOctF
namespace Go.Proofs.Yteclcefeipjoeaa
open Go.ChangeShapes Go.WideShapes Go.ChangeAt Go.RowKit OctM

theorem rput5_arg (w : World) (p : Option Addr) (n c : Nat) (fs : List Fld) (hx : HoldsX w p n c fs) (my : ¬ mayX (says fs)) :
    Calls Try.prog 11 #[.slice p n c] w (TellPost w (.returned (.tuple #[.slice none 0 0, .int .i64 1]))) := by
  have RM := Lib.hid (rmay5_any w p n c fs hx)
  rw [decide_eq_false my] at RM
  have FIN : Hid (TellPost w (.returned (.tuple #[.slice none 0 0, .int .i64 1])) (.returned (.tuple #[.slice none 0 0, .int .i64 1])) w) := ⟨rfl, Below.refl _ _⟩
  clear hx my
  go_enter Try.func11, Try.ntmps11
  go_wp2_with fail
  refine RM.out.mono ?_; rintro e w' ⟨rfl, rfl⟩
  go_wp2
  go_ret2
  exact FIN.out

theorem pput5_arg (w : World) (p : Option Addr) (n c : Nat) (fs : List Fld) (hx : HoldsX w p n c fs) (my : ¬ mayX (says fs)) :
    Calls Try.prog 10 #[.slice p n c] w (TellPost w (.returned (.tuple #[.slice none 0 0, .int .i64 1]))) := by
  have RM := Lib.hid (pmay5_any w p n c fs hx)
  rw [decide_eq_false my] at RM
  have FIN : Hid (∀ w', Below w.heap.size w w' → TellPost w (.returned (.tuple #[.slice none 0 0, .int .i64 1])) (.returned (.tuple #[.slice none 0 0, .int .i64 1])) w') := fun w' b => ⟨rfl, b⟩
  clear hx my
  go_enter Try.func10, Try.ntmps10
  go_wp2_with fail
  refine RM.out.mono ?_; rintro e w' ⟨rfl, low⟩
  have F := Lib.hid (FIN.out _ low)
  clear low
  go_wp2
  go_ret2
  exact F.out

/-- A field's front: its type, how many bytes it has. -/
theorem play_two (w : World) (p q : Option Addr) (c c' t m : Nat) (hz : Holds w p 2 c (valsI .i64 [2, 2])) (hx : Holds w q 2 c' (valsN .u64 [t, m])) (ht : t < 65536) (hm : m < 65536) :
    Calls Try.prog 26 #[.slice p 2 c, .slice q 2 c'] w (RowPost w 4 [t / 256, t % 256, m / 256, m % 256]) := by
  have h := play_any w p q 2 c c' 4 [2, 2] [t, m] hz hx (fun x hx => by
    simp only [List.mem_cons, List.not_mem_nil, or_false] at hx
    rcases hx with rfl | rfl <;> omega) (by omega) (by decide) (by decide)
  refine h.mono ?_
  have fit : fitT [2, 2] [t, m] 2 := fun i hi => by
    have : i = 0 ∨ i = 1 := by omega
    rcases this with rfl | rfl
    · exact ht
    · exact hm
  have e : layT [2, 2] [t, m] 2 = [t / 256, t % 256, m / 256, m % 256] := by
    show ([] ++ ([] ++ [t / 256 % 256] ++ [t % 256])) ++ ([] ++ [m / 256 % 256] ++ [m % 256]) = _
    rw [show t / 256 % 256 = t / 256 by omega, show m / 256 % 256 = m / 256 by omega]
    rfl
  rintro en w' (⟨-, o⟩ | ⟨no, -⟩)
  · rwa [e] at o
  · exact absurd fit no

set_option maxRecDepth 100000 in
set_option maxHeartbeats 16000000 in
theorem pput5_ok (w : World) (p : Option Addr) (n c : Nat) (fs : List Fld) (hx : HoldsX w p n c fs) (ok : FldsOk fs) (my : mayX (says fs)) :
    Calls Try.prog 10 #[.slice p n c] w (RowPost w (bytesX (says fs)).length (bytesX (says fs))) := by
  obtain ⟨i0, hi, hz0, hz1, hz2⟩ := info_of info8
  have ln := hx.len
  have n8 : n ≤ 8 := by have := my.2; rw [says_len] at this; omega
  have nb : (n : Int) ≤ 8 := by omega
  have HX := Lib.hid hx
  have LN := Lib.hid ln
  have OK := Lib.hid ok
  have MY := Lib.hid my
  have N8 := Lib.hid n8
  have RM := Lib.hid (pmay5_any w p n c fs hx)
  rw [decide_eq_true my] at RM
  clear hx ok my ln n8
  go_enter Try.func10, Try.ntmps10
  go_wp2_with fail
  refine RM.out.mono ?_; rintro e w0 ⟨rfl, low0⟩
  have LOW0 := Lib.hid low0
  clear low0
  go_wp2_with fail
  go_loopw [4, 14] (fun v i wr => ∃ k : Nat, i = .int .i64 k ∧ Hid (k ≤ n) ∧ Hid (PutRel w wr (says fs) v k)) (fun _ i _ => 100 - (intOf i).toNat)
  case atStart => exact ⟨0, rfl, Nat.zero_le _, ⟨World.ownsRow_nil w0 _ _ 1, LOW0.out⟩⟩
  case round =>
    obtain ⟨k, rfl, hk, h⟩ := hrel
    by_cases g : k < n
    · have g' : (k : Int) < (n : Int) := by omega
      have G := Lib.hid g
      obtain ⟨a, f, rfl, hf, c0, c1, hh⟩ := (HX.out.below h.out.low).at g
      have lf : f.ds.length = f.n := by have := hh.len; rwa [valsN_len] at this
      have SF := says_get hf
      have lg := MY.out.1 _ (List.mem_of_getElem? SF)
      simp only at lg
      rw [lf] at lg
      have tf := (OK.out f (List.mem_of_getElem? hf)).1
      have HD := Lib.hid (fun w' (b : Below w.heap.size w w') => (HX.out.below b).data f (List.mem_of_getElem? hf))
      obtain ⟨t, fp, fn, fc, ds⟩ := f
      simp only at c0 c1 hh lf SF lg tf HD
      rcases fp with _ | pa
      · exfalso
        have := hh.bare rfl
        have := hh.cap
        unfold longN at lg
        omega
      obtain ⟨m, hm⟩ : ∃ x, x = fn + 4 := ⟨_, rfl⟩
      have lg' := lg
      unfold longN at lg'
      have fb : (fn : Int) ≤ 464 := by omega
      have mb : (m : Int) ≤ 468 := by omega
      have t16 : (t : Int) < 65536 := by omega
      have e1 : (4 : Int) + (fn : Int) = (m : Int) := by omega
      have w7 : IntKind.i64.wrap ((4 : Int) + (fn : Int)) = (m : Int) := by rw [IntKind.wrap_i64]; omega
      have w8 : IntKind.u64.wrap (m : Int) = (m : Int) := by rw [IntKind.wrap_u64]; omega
      have w9 : IntKind.u64.wrap (t : Int) = (t : Int) := by rw [IntKind.wrap_u64]; omega
      obtain ⟨L, hL⟩ : ∃ L, L = (bytesX ((says fs).take k)).length := ⟨_, rfl⟩
      have Lb : L ≤ 468 * 8 := by
        have a := bytesX_le (l := (says fs).take k) (fun x hx => MY.out.1 x (List.mem_of_mem_take hx))
        rw [List.length_take, says_len, LN.out] at a
        have := N8.out
        omega
      have BM : Hid (L + 4 ≤ maxLen) := by unfold Hid maxLen; omega
      have BY : Hid ((L + 4) * 1 ≤ 140737488355328) := by unfold Hid; omega
      have BM2 : Hid (L + 4 + fn ≤ maxLen) := by unfold Hid maxLen; omega
      have BY2 : Hid ((L + 4 + fn) * 1 ≤ 140737488355328) := by unfold Hid; omega
      have FN0 : Hid (0 < fn) := by unfold Hid; omega
      have OW := h.out.own
      rw [← hL] at OW
      obtain ⟨D, hD⟩ : ∃ D, D = [t / 256, t % 256, m / 256, m % 256] := ⟨_, rfl⟩
      have DL : D.length = 4 := by rw [hD]; rfl
      have NXT : Hid (∀ v w2, w2.ownsRow w.heap.size 5 1 v (L + 4 + fn) (valsN .u8 (bytesX ((says fs).take k)) ++ valsN .u8 D ++ valsN .u8 ds) → Below w.heap.size w w2 → PutRel w w2 (says fs) v (k + 1)) := fun v w2 o l => by
        refine ⟨?_, l⟩
        rw [take_snoc SF, bytesX_snoc, List.length_append, bytesF_len, ← hL, lf, ← Nat.add_assoc, valsN_append]
        have e : bytesF (t, ds) = D ++ ds := by
          unfold bytesF
          simp only [lf]
          rw [hD, hm]
        rw [e, valsN_append, ← List.append_assoc]
        exact o
      have LOW := Lib.hid h.out.low
      have PT := Lib.hid (fun w p q c c' (hz : Holds w p 2 c (valsI .i64 [2, 2])) (hx : Holds w q 2 c' (valsN .u64 [t, m])) => hD ▸ play_two w p q c c' t m hz hx tf (by omega))
      replace OW := Lib.hid OW
      have LT := Lib.hid (fun j (hj : u4.ownBlock = some j) => (World.ownsRow.lt OW.out j hj))
      have DL' := Lib.hid DL
      clear h hk hf SF lf lg lg' tf hm hL Lb g hh hD DL
      go_wp2_with fail
      have S1 : (wr.alloc (.cells #[.int .u16 (t : Nat), .slice (some pa) fn fc] 44)).heap.size = wr.heap.size + 1 := by simp
      have B1 : Below wr.heap.size wr (((wr.alloc (.cells #[.int .u16 (t : Nat), .slice (some pa) fn fc] 44)).alloc (.cells #[.int .i64 2, .int .i64 2] 3)).alloc (.cells #[.int .u64 (t : Nat), .int .u64 (m : Nat)] 53)) := (((Below.refl _ _).alloc (Nat.le_refl _) _).alloc (by simp) _).alloc (by simp; omega) _
      have HA : ((((wr.alloc (.cells #[.int .u16 (t : Nat), .slice (some pa) fn fc] 44)).alloc (.cells #[.int .i64 2, .int .i64 2] 3)).alloc (.cells #[.int .u64 (t : Nat), .int .u64 (m : Nat)] 53))).heap[wr.heap.size]? = some (.cells #[.int .u16 (t : Nat), .slice (some pa) fn fc] 44 (0, 0)) :=
        (Below.heap_alloc _ _ _ (by simp; omega)).trans ((Below.heap_alloc _ _ _ (by simp)).trans (heap_alloc_new wr _))
      have HB : ((((wr.alloc (.cells #[.int .u16 (t : Nat), .slice (some pa) fn fc] 44)).alloc (.cells #[.int .i64 2, .int .i64 2] 3)).alloc (.cells #[.int .u64 (t : Nat), .int .u64 (m : Nat)] 53))).heap[wr.heap.size + 1]? = some (.cells #[.int .i64 2, .int .i64 2] 3 (0, 0)) := by
        have h := heap_alloc2_old (wr.alloc (.cells #[.int .u16 (t : Nat), .slice (some pa) fn fc] 44)) (.cells #[.int .i64 2, .int .i64 2] 3) (.cells #[.int .u64 (t : Nat), .int .u64 (m : Nat)] 53)
        rwa [S1] at h
      have HC : ((((wr.alloc (.cells #[.int .u16 (t : Nat), .slice (some pa) fn fc] 44)).alloc (.cells #[.int .i64 2, .int .i64 2] 3)).alloc (.cells #[.int .u64 (t : Nat), .int .u64 (m : Nat)] 53))).heap[wr.heap.size + 1 + 1]? = some (.cells #[.int .u64 (t : Nat), .int .u64 (m : Nat)] 53 (0, 0)) := by
        have h := heap_alloc2_new (wr.alloc (.cells #[.int .u16 (t : Nat), .slice (some pa) fn fc] 44)) (.cells #[.int .i64 2, .int .i64 2] 3) (.cells #[.int .u64 (t : Nat), .int .u64 (m : Nat)] 53)
        rwa [S1] at h
      refine (PT.out _ _ _ _ _ (blk_holds HB rfl (by decide)) (blk_holds HC rfl (by decide))).mono ?_
      rintro e w1 ⟨v8, rfl, o8, l8⟩
      have HA1 := (l8.block _ (Array.getElem?_eq_some_iff.1 HA).1).trans HA
      have B2 : Hid (Below wr.heap.size wr w1) := B1.trans (l8.mono B1.size)
      obtain ⟨p8, c8, rfl, h8⟩ := own_holds o8
      rcases p8 with _ | a8
      · exfalso
        have := h8.bare rfl
        have := h8.cap
        omega
      have L1 : Hid (Below w.heap.size w w1) := LOW.out.trans (B2.out.mono LOW.out.size)
      have O1 : Hid (w1.drew.ownsRow w.heap.size 5 1 u4 L (valsN .u8 (bytesX ((says fs).take k)))) := own_keep OW.out (B2.out.drew)
      have SZ : Hid (wr.heap.size < w1.heap.size) := (Array.getElem?_eq_some_iff.1 HA1).1
      have K0 : w1.drew.cell? ⟨wr.heap.size, 1, none⟩ = some (.slice (some pa) fn fc) := blk_cell (w := w1.drew) HA1
      have HA2 := Lib.hid HA1
      have NW : Hid (∀ (j : Nat) (u : Value), (valsN .u8 D)[j]? = some u → w1.drew.cell? (a8.add j) = some u) := fun j u hu => by
        obtain ⟨a', e, hc⟩ := (h8.below (Below.refl _ _).drew).cell j u hu
        cases e
        exact hc
      have HB1 : Hid (Below w.heap.size w w1.drew) := L1.out.drew
      have NL : Hid ((valsN .u8 D).length = 4 * 1) := by unfold Hid; rw [valsN_len]; exact DL'.out
      have ST : Hid (∀ v' w2, w2.ownsRow w.heap.size 5 1 v' (L + 4) (valsN .u8 (bytesX ((says fs).take k)) ++ valsN .u8 D) → w1.drew.grownBy w2 u4.ownBlock → Below w.heap.size w w2 ∧ w2.cell? ⟨wr.heap.size, 1, none⟩ = some (.slice (some pa) fn fc) ∧ wr.heap.size < w2.heap.size) := fun v' w2 _ g =>
        ⟨HB1.out.grown g HB1.out.size (fun j hj => (World.ownsRow.lt OW.out j hj).1), (World.grownBy.cell_far g _ SZ.out (fun e => by have := (LT.out _ e.symm).2; exact Nat.lt_irrefl _ this)).trans K0, Nat.lt_of_lt_of_le SZ.out g.size⟩
      have WH : Hid (∀ gg, u4.ownBlock = some gg ∨ gg = w1.drew.heap.size → gg ≠ wr.heap.size) := fun gg h e => by
        rcases h with h | h
        · have := (LT.out _ h).2; omega
        · have e2 : w1.drew.heap.size = w1.heap.size := rfl
          have := SZ.out
          omega
      have SZ1 : Hid (w.heap.size ≤ w1.drew.heap.size) := HB1.out.size
      clear HA HB HC HA1 B1 S1 l8 o8 h8
      go_wp2_with fail
      go_region_held3 (fun w' => w'.cell? ⟨wr.heap.size, 1, none⟩ = some (.slice (some pa) fn fc))
        (first | exact K3 | exact K2 | exact K0)
        (first
          | (refine step_append_lies _ (by rfl) _ _ _ (by rfl) w.heap.size 5 i0 (.int .u8 0) 1 1 Try.underlying25 hi hz0 hz1 hz2 rfl (by omega) u4 L _ (by rfl) O1.out a8 4 c8 (valsN .u8 D) (by rfl) NL.out NW.out (valsN_one _ _) (by omega) BM.out BY.out SZ1.out _ rfl ?_; intro gg cap w2 o2 g2 m2 lt2; obtain ⟨HB2, K2, SZ2⟩ := ST.out _ _ o2 g2)
          | (refine step_append_lies _ (by rfl) _ _ _ (by rfl) w.heap.size 5 i0 (.int .u8 0) 1 1 Try.underlying25 hi hz0 hz1 hz2 rfl (by omega) _ (L + 4) _ (by rfl) o2 pa fn fc (valsN .u8 ds) (by rfl) (by rw [Nat.mul_one]; exact (HD.out w2 HB2).len) (fun j u hu => by obtain ⟨a', e, hc⟩ := (HD.out w2 HB2).cell j u hu; cases e; exact hc) (valsN_one _ _) FN0.out BM2.out BY2.out HB2.size _ rfl ?_; intro gg3 cap3 w3 o3 g3 m3 lt3; have HB3 := HB2.grown g3 HB2.size (fun j hj => (World.ownsRow.lt o2 j hj).1); have K3 := (World.grownBy.cell_far g3 ⟨wr.heap.size, 1, none⟩ SZ2 (fun e => by have e' : gg = wr.heap.size := (Option.some.inj e).symm; exact WH.out gg m2 e')).trans K2))
      have NX := Lib.hid (NXT.out _ w3 o3 HB3)
      clear o2 g2 m2 lt2 o3 g3 m3 lt3 HB2 HB3 K0 K2 K3 SZ2
      go_wp2
      go_roundw
      case rel => exact ⟨k + 1, by go_num, G.out, NX⟩
      case measure => simp [intOf]; omega
    · have g' : (n : Int) ≤ (k : Int) := by omega
      have FIN : Hid (RowPost w (bytesX (says fs)).length (bytesX (says fs)) (.returned (.tuple #[u4, .int .i64 0])) wr) := by
        have e : (says fs).take k = says fs := List.take_of_length_le (by rw [says_len, LN.out]; omega)
        have o := h.out.own
        rw [e] at o
        exact ⟨u4, rfl, o, h.out.low⟩
      clear g hk h
      go_wp2
      go_ret2
      exact FIN.out
end Go.Proofs.Yteclcefeipjoeaa
