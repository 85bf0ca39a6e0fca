/- The document's own answers for layer 4 (head): Parse of bytes that have a head. -/
import Derived.Test.YtjjbalgonkphjaaHeadK
import Derived.Deep.RegionHeld3
import Derived.Deep.AppendLies
namespace Go.Proofs.Ytjjbalgonkphjaa
open Go.ChangeShapes Go.WideShapes Go.ChangeAt Go.RowKit OctM

attribute [local go_sem ↓] loadP_eq storeP_eq
set_option maxHeartbeats 8000000 in
theorem rparse4_ok (w : World) (ad : Addr) (n c : Nat) (ds : List Nat) (z0 z1 z2 z3 q3 q6 ve m7 : Nat) (sa sb : Int) (x4 x5 x6 x7 x8 x9 x10 : Nat) (I : HeadIn w ad n c ds z0 z1 z2 z3 q3 q6 ve m7 sa sb x4 x5 x6 x7 x8 x9 x10) (hm : 1 ≤ ve ∧ ve ≤ 4) :
    Calls Try.prog 16 #[.slice (some ad) n c] w (ParsePost w n ds) := by
  have II := Lib.hid I
  have h' : (48 : Int) ≤ (n : Int) := by have := I.h48; omega
  have d0 := I.d0
  have d1 := I.d1
  have d2 := I.d2
  have d3 := I.d3
  have b0 := I.b0
  have b1 := I.b1
  have c4 := I.c4
  have c5 := I.c5
  have c6 := I.c6
  have ea := I.ea
  have eb := I.eb
  have e3 : (z0 : Int) / 8 = (q3 : Int) := by have := I.e3; omega
  have e6 : (z0 : Int) / 64 = (q6 : Int) := by have := I.e6; omega
  have e7 : (z0 : Int) % 8 = (m7 : Int) := by have := I.e7; omega
  have ev : (q3 : Int) % 8 = (ve : Int) := by have := I.ev; omega
  have q3b : q3 < 32 := by have := I.e3; omega
  have q6b : q6 < 4 := by have := I.e6; omega
  have m7b : m7 < 8 := by have := I.e7; omega
  have v4 : (ve : Int) ≤ 4 := by omega
  have v0 : ((ve : Int) == 0) = false := by rw [beq_eq_false_iff_ne]; omega
  have v1 : (1 : Int) ≤ (ve : Int) := by omega
  have cn : (n : Int) ≤ (c : Int) := by have := (I.hd default default).cap; omega
  clear I hm
  go_enter Try.func16, Try.ntmps16
  go_wp2_with fail
  refine (rread4_any _ _ n c 4 4 ds (II.out.hd _ _) II.out.hy (by omega) (by have := II.out.h48; omega) (by have := II.out.hn; omega) x4 II.out.r4).mono ?_; rintro e w' ⟨rfl, rfl⟩
  go_wp2_with fail
  refine (rread4_any _ _ n c 8 4 ds (II.out.hd _ _) II.out.hy (by omega) (by have := II.out.h48; omega) (by have := II.out.hn; omega) x5 II.out.r5).mono ?_; rintro e w' ⟨rfl, rfl⟩
  go_wp2_with fail
  refine (rread4_any _ _ n c 12 4 ds (II.out.hd _ _) II.out.hy (by omega) (by have := II.out.h48; omega) (by have := II.out.hn; omega) x6 II.out.r6).mono ?_; rintro e w' ⟨rfl, rfl⟩
  go_wp2_with fail
  refine (rread4_any _ _ n c 16 8 ds (II.out.hd _ _) II.out.hy (by omega) (by have := II.out.h48; omega) (by have := II.out.hn; omega) x7 II.out.r7).mono ?_; rintro e w' ⟨rfl, rfl⟩
  go_wp2_with fail
  refine (rread4_any _ _ n c 24 8 ds (II.out.hd _ _) II.out.hy (by omega) (by have := II.out.h48; omega) (by have := II.out.hn; omega) x8 II.out.r8).mono ?_; rintro e w' ⟨rfl, rfl⟩
  go_wp2_with fail
  refine (rread4_any _ _ n c 32 8 ds (II.out.hd _ _) II.out.hy (by omega) (by have := II.out.h48; omega) (by have := II.out.hn; omega) x9 II.out.r9).mono ?_; rintro e w' ⟨rfl, rfl⟩
  go_wp2_with fail
  refine (rread4_any _ _ n c 40 8 ds (II.out.hd _ _) II.out.hy (by omega) (by have := II.out.h48; omega) (by have := II.out.hn; omega) x10 II.out.r10).mono ?_; rintro e w' ⟨rfl, rfl⟩
  go_wp2_with fail
  have HA : Hid (((w.alloc (.cells #[.int .u8 0, .int .u8 0, .int .u8 0, .int .u8 0, .int .i8 0, .int .i8 0, .int .u32 0, .int .u32 0, .int .u32 0, .int .u64 0, .int .u64 0, .int .u64 0, .int .u64 0, .slice none 0 0, .bool false, .int .u32 0, .int .u64 0] 27)).alloc (.cells #[.int .u8 (q6 : Int), .int .u8 (ve : Int), .int .u8 (m7 : Int), .int .u8 (z1 : Int), .int .i8 sa, .int .i8 sb, .int .u32 (x4 : Int), .int .u32 (x5 : Int), .int .u32 (x6 : Int), .int .u64 (x7 : Int), .int .u64 (x8 : Int), .int .u64 (x9 : Int), .int .u64 (x10 : Int), .slice none 0 0, .bool false, .int .u32 0, .int .u64 0] 27)).heap[w.heap.size]? = some (.cells (pkC Hd.zero Xt.zero) 27 (0, 0))) := heap_alloc2_old _ _ _
  have HP : Hid (((w.alloc (.cells #[.int .u8 0, .int .u8 0, .int .u8 0, .int .u8 0, .int .i8 0, .int .i8 0, .int .u32 0, .int .u32 0, .int .u32 0, .int .u64 0, .int .u64 0, .int .u64 0, .int .u64 0, .slice none 0 0, .bool false, .int .u32 0, .int .u64 0] 27)).alloc (.cells #[.int .u8 (q6 : Int), .int .u8 (ve : Int), .int .u8 (m7 : Int), .int .u8 (z1 : Int), .int .i8 sa, .int .i8 sb, .int .u32 (x4 : Int), .int .u32 (x5 : Int), .int .u32 (x6 : Int), .int .u64 (x7 : Int), .int .u64 (x8 : Int), .int .u64 (x9 : Int), .int .u64 (x10 : Int), .slice none 0 0, .bool false, .int .u32 0, .int .u64 0] 27)).heap[w.heap.size + 1]? = some (.cells (pkC (hdP ds) Xt.zero) 27 (0, 0))) := by rw [II.out.eh]; exact heap_alloc2_new _ _ _
  have LW : Hid (Below w.heap.size w ((w.alloc (.cells #[.int .u8 0, .int .u8 0, .int .u8 0, .int .u8 0, .int .i8 0, .int .i8 0, .int .u32 0, .int .u32 0, .int .u32 0, .int .u64 0, .int .u64 0, .int .u64 0, .int .u64 0, .slice none 0 0, .bool false, .int .u32 0, .int .u64 0] 27)).alloc (.cells #[.int .u8 (q6 : Int), .int .u8 (ve : Int), .int .u8 (m7 : Int), .int .u8 (z1 : Int), .int .i8 sa, .int .i8 sb, .int .u32 (x4 : Int), .int .u32 (x5 : Int), .int .u32 (x6 : Int), .int .u64 (x7 : Int), .int .u64 (x8 : Int), .int .u64 (x9 : Int), .int .u64 (x10 : Int), .slice none 0 0, .bool false, .int .u32 0, .int .u64 0] 27))) := ((Below.refl _ _).alloc (Nat.le_refl _) _).alloc (by simp) _
  have HW := Lib.hid (II.out.hd (.cells #[.int .u8 0, .int .u8 0, .int .u8 0, .int .u8 0, .int .i8 0, .int .i8 0, .int .u32 0, .int .u32 0, .int .u32 0, .int .u64 0, .int .u64 0, .int .u64 0, .int .u64 0, .slice none 0 0, .bool false, .int .u32 0, .int .u64 0] 27) (.cells #[.int .u8 (q6 : Int), .int .u8 (ve : Int), .int .u8 (m7 : Int), .int .u8 (z1 : Int), .int .i8 sa, .int .i8 sb, .int .u32 (x4 : Int), .int .u32 (x5 : Int), .int .u32 (x6 : Int), .int .u64 (x7 : Int), .int .u64 (x8 : Int), .int .u64 (x9 : Int), .int .u64 (x10 : Int), .slice none 0 0, .bool false, .int .u32 0, .int .u64 0] 27))
  generalize ((w.alloc (.cells #[.int .u8 0, .int .u8 0, .int .u8 0, .int .u8 0, .int .i8 0, .int .i8 0, .int .u32 0, .int .u32 0, .int .u32 0, .int .u64 0, .int .u64 0, .int .u64 0, .int .u64 0, .slice none 0 0, .bool false, .int .u32 0, .int .u64 0] 27)).alloc (.cells #[.int .u8 (q6 : Int), .int .u8 (ve : Int), .int .u8 (m7 : Int), .int .u8 (z1 : Int), .int .i8 sa, .int .i8 sb, .int .u32 (x4 : Int), .int .u32 (x5 : Int), .int .u32 (x6 : Int), .int .u64 (x7 : Int), .int .u64 (x8 : Int), .int .u64 (x9 : Int), .int .u64 (x10 : Int), .slice none 0 0, .bool false, .int .u32 0, .int .u64 0] 27)) = W at *
  obtain ⟨i0, hi, hz0, hz1, hz2⟩ := info_of info8
  have K : Hid (∀ w', Below W.heap.size W w' → (loadP (.pointer (some ⟨w.heap.size + 1, 0, none⟩))).run Try.prog w' = .ok (pkV (hdP ds) Xt.zero) w') := fun w' b => load_pk ((b.block _ (Array.getElem?_eq_some_iff.1 HP.out).1).trans HP.out)
  have KS : Hid (∀ w', Below W.heap.size W w' → (loadP (.pointer (some ⟨w.heap.size + 1, 0, none⟩))).run Try.prog (w'.setRow w.heap.size (pkC (hdP ds) Xt.zero)) = .ok (pkV (hdP ds) Xt.zero) (w'.setRow w.heap.size (pkC (hdP ds) Xt.zero))) := fun w' b => load_pk ((setRow_other _ _ _ _ (by omega)).trans ((b.block _ (Array.getElem?_eq_some_iff.1 HP.out).1).trans HP.out))
  have SS : ∀ w', Below W.heap.size W w' → (storeP (.pointer (some ⟨w.heap.size, 0, none⟩)) (pkV (hdP ds) Xt.zero)).run Try.prog w' = .ok () (w'.setRow w.heap.size (pkC (hdP ds) Xt.zero)) := fun w' b => store_pk _ _ ((b.block _ (Array.getElem?_eq_some_iff.1 HA.out).1).trans HA.out) rfl
  have HB0 : Below W.heap.size W W.drew := (Below.refl _ _).drew
  have BF : Hid ((W.drew.setRow w.heap.size (pkC (hdP ds) Xt.zero)).heap[w.heap.size]? = some (.cells (pkC (hdP ds) Xt.zero) 27 (0, 0))) := setRow_heap _ _ _ _ _ _ (show W.drew.heap[w.heap.size]? = _ from HA.out)
  have LD : Hid (Below w.heap.size w (W.drew.setRow w.heap.size (pkC (hdP ds) Xt.zero))) := Below.setRow (LW.out.trans (HB0.mono LW.out.size)) (Nat.le_refl _) _
  by_cases n48 : n = 48
  · subst n48
    have D0 : ds.drop 48 = [] := List.drop_eq_nil_of_le (by have := HW.out.len; rw [valsN_len] at this; omega)
    have FN : Hid (ParsePost w 48 ds (.returned (.tuple #[pkV (hdP ds) Xt.zero, .slice none 0 0, .int .i64 0])) (W.drew.setRow w.heap.size (pkC (hdP ds) Xt.zero))) := by
      refine ⟨_, rfl, ?_, LD.out⟩
      rw [D0]
      exact World.ownsRow_nil _ _ _ 1
    clear D0
    by_cases cc : c = 48
    · go_region_held3 (fun w' => (loadP (.pointer (some ⟨w.heap.size + 1, 0, none⟩))).run Try.prog w' = .ok (pkV (hdP ds) Xt.zero) w')
        (first | exact K.out _ HB0 | exact KS.out _ HB0)
        (fail)
      go_wp2
      (try simp only [Exit.inBlock, Exit.then])
      refine bodyPost_ret (results_pk3 rfl _ _ w.heap.size _ Xt.zero rfl BF.out) rfl ?_
      exact FN.out
    · have cc' : (48 : Int) < (c : Int) := by omega
      go_region_held3 (fun w' => (loadP (.pointer (some ⟨w.heap.size + 1, 0, none⟩))).run Try.prog w' = .ok (pkV (hdP ds) Xt.zero) w')
        (first | exact K.out _ HB0 | exact KS.out _ HB0)
        (fail)
      go_wp2
      (try simp only [Exit.inBlock, Exit.then])
      refine bodyPost_ret (results_pk3 rfl _ _ w.heap.size _ Xt.zero rfl BF.out) rfl ?_
      exact FN.out
  · have nl : 48 < n := by have := II.out.h48; omega
    have lds : ds.length = n := by have := HW.out.len; rwa [valsN_len] at this
    have cl : 48 < c := by have := HW.out.cap; omega
    have nl' : (48 : Int) < (n : Int) := by omega
    have cl' : (48 : Int) < (c : Int) := by omega
    have cc : ¬ c = 48 := by omega
    have c2 : ¬ 48 = c := by omega
    have DO := drop_own (HW.out.below HB0) (Nat.le_of_lt nl)
    rw [if_neg cc] at DO
    have NW : Hid (∀ (j : Nat) (u : Value), (valsN .u8 (ds.drop 48))[j]? = some u → W.drew.cell? ((⟨ad.block, ad.off + 48, none⟩ : Addr).add j) = some u) := fun j u hu => by
      obtain ⟨a', e, h⟩ := DO.cell j u hu
      injection e with e
      rw [← e] at h
      exact h
    have NL : Hid ((valsN .u8 (ds.drop 48)).length = (n - 48) * 1) := by unfold Hid; rw [valsN_len, List.length_drop, lds]; omega
    have BM : Hid (0 + (n - 48) ≤ maxLen) := by unfold Hid maxLen; have := II.out.hn; omega
    have BY : Hid ((0 + (n - 48)) * 1 ≤ 140737488355328) := by unfold Hid; have := II.out.hn; omega
    have PS : Hid (0 < n - 48) := by unfold Hid; omega
    have MK : Hid (∀ gg cap w1, w1.ownsRow W.heap.size 5 1 (.slice (some ⟨gg, 0, none⟩) (0 + (n - 48)) cap) (0 + (n - 48)) ([] ++ valsN .u8 (ds.drop 48)) → W.drew.grownBy w1 (Value.ownBlock (.slice none 0 0)) → Below W.heap.size W w1 ∧ w1.ownsRow w.heap.size 5 1 (.slice (some ⟨gg, 0, none⟩) (0 + (n - 48)) cap) (n - 48) (valsN .u8 (ds.drop 48))) := fun gg cap w1 o g => by
      refine ⟨HB0.grown g (Nat.le_refl _) (fun j hj => by cases hj), own_base ?_ LW.out.size⟩
      have e : 0 + (n - 48) = n - 48 := by omega
      rw [e] at o ⊢
      exact o
    clear DO nl cl lds n48
    go_region_held3 (fun w' => (loadP (.pointer (some ⟨w.heap.size + 1, 0, none⟩))).run Try.prog w' = .ok (pkV (hdP ds) Xt.zero) w')
      (first | exact K.out _ HB1 | exact KS.out _ HB1 | exact K.out _ HB0)
      ((refine step_append_lies _ (by rfl) _ _ _ (by rfl) W.heap.size 5 i0 (.int .u8 0) 1 1 Try.underlying28 hi hz0 hz1 hz2 rfl (by omega) (.slice none 0 0) 0 [] (by rfl) (World.ownsRow_nil _ _ _ 1) ⟨ad.block, ad.off + 48, none⟩ (n - 48) (c - 48) (valsN .u8 (ds.drop 48)) (by rfl) NL.out NW.out (valsN_one _ _) PS.out BM.out BY.out (Nat.le_refl _) W.heap.size rfl ?_; intro gg cap w1 o1 g1 _ _; obtain ⟨HB1, OW⟩ := MK.out gg cap w1 o1 g1; replace OW := Lib.hid OW; clear o1 g1))
    have BF1 : Hid ((w1.setRow w.heap.size (pkC (hdP ds) Xt.zero)).heap[w.heap.size]? = some (.cells (pkC (hdP ds) Xt.zero) 27 (0, 0))) := setRow_heap _ _ _ _ _ _ ((HB1.block _ (Array.getElem?_eq_some_iff.1 HA.out).1).trans HA.out)
    have FN : Hid (ParsePost w n ds (.returned (.tuple #[pkV (hdP ds) Xt.zero, .slice (some ⟨gg, 0, none⟩) (0 + (n - 48)) cap, .int .i64 0])) (w1.setRow w.heap.size (pkC (hdP ds) Xt.zero))) :=
      ⟨_, rfl, own_row OW.out ((HB1.block _ (Array.getElem?_eq_some_iff.1 HA.out).1).trans HA.out) rfl, Below.setRow (LW.out.trans (HB1.mono LW.out.size)) (Nat.le_refl _) _⟩
    rw [Nat.zero_add] at FN
    go_wp2
    (try simp only [Exit.inBlock, Exit.then])
    refine bodyPost_ret (results_pk3 rfl _ _ w.heap.size _ Xt.zero rfl BF1.out) rfl ?_
    exact FN.out
end Go.Proofs.Ytjjbalgonkphjaa
