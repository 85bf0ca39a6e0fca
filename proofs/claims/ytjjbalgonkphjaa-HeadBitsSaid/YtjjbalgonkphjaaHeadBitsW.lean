/- The walk of HeadBits. -/
import Derived.Test.YtjjbalgonkphjaaHeadBitsA
import Derived.StillTailTactics
namespace Go.Proofs.Ytjjbalgonkphjaa
open Go.ChangeShapes Go.WideShapes Go.ChangeAt Go.RowKit OctM

attribute [local go_sem ↓] loadP_eq storeP_eq boxP_eq allocP_eq loadR_eq storeR_eq boxR_eq allocR_eq
set_option maxRecDepth 100000 in
set_option maxHeartbeats 16000000 in
theorem bits_core (w : World) (C : Array Value) (xs : List Nat) (bit k q r z zt : Nat) (hC : C.size = 48) (hL : C.toList = valsN .u8 xs) (hy : Byt xs) (hb : bit < 65536) (hk : bit % 384 = k) (hq : k / 8 = q) (hr : k % 8 = r) (hz : xs.getD q 0 = z) (ht : turn8 z r = zt)
    (hx hy2 : Hd) (Lx Ly : Nat) (ex ey : List Nat) (Ex Ey : Int) (TX : Told xs hx Lx ex Ex) (TY : Told (xs.set q zt) hy2 Ly ey Ey) (cs : BitsCase k hx hy2 Ex Ey) :
    Calls Try.prog 6 #[.agg C, .int .u16 bit] w fun e w' => e = .returned (.bool true) ∧ Below w.heap.size w w' := by
  have bx := box_r C
  have al := alloc_r
  have lx : xs.length = 48 := by have := congrArg List.length hL; rw [Array.length_toList, hC, valsN_len] at this; omega
  have h1 : C.all (·.oneCell') = true := by
    rw [Array.all_eq_true_iff_forall_mem]
    intro u hu
    exact valsN_one .u8 xs u (by rw [← hL]; exact Array.mem_toList_iff.2 hu)
  have st := fun w => store_r w hC h1
  have LD := load_r (heap_alloc_new w (.cells C 43)) hC
  have k1 : k < 384 := by omega
  have q1 : q < 48 := by omega
  have r1 : r < 8 := by omega
  have z1 : z < 256 := by rw [← hz]; exact byt_get hy q
  have ek : (bit : Int) % 384 = (k : Int) := by omega
  have eq : (k : Int) / 8 = (q : Int) := by omega
  have er : (k : Int) % 8 = (r : Int) := by omega
  have bb : (bit : Int) < 65536 := by omega
  have q2 : (q : Int) < 48 := by omega
  have r2 : (r : Int) < 8 := by omega
  have T := turn8_xor ⟨z, z1⟩ ⟨r, r1⟩
  simp only [ht] at T
  have B0 : Hid (((w.alloc (.cells C 43)).alloc (.cells C 43)).heap[w.heap.size]? = some (.cells C 43 (0, 0))) := heap_alloc2_old _ _ _
  have B1 : Hid (((w.alloc (.cells C 43)).alloc (.cells C 43)).heap[w.heap.size + 1]? = some (.cells C 43 (0, 0))) := heap_alloc2_new _ _ _
  have PX : Hid (∀ (w : World) (p : Option Addr) (c : Nat), Holds w p 48 c (valsN .u8 xs) → Calls Try.prog 15 #[.slice p 48 c] w (PQ w hx Lx ex Ex)) := fun w p c h => by
    have t := TX.prog w p c
    rw [lx] at t
    exact t h
  have PY : Hid (∀ (w : World) (p : Option Addr) (c : Nat), Holds w p 48 c (valsN .u8 (xs.set q zt)) → Calls Try.prog 15 #[.slice p 48 c] w (PQ w hy2 Ly ey Ey)) := fun w p c h => by
    have t := TY.prog w p c
    rw [List.length_set, lx] at t
    exact t h
  have CS := Lib.hid cs
  have sn := fun w h x => store_new w (pkC Hd.zero Xt.zero) h x rfl
  have alp := alloc_pk
  clear TX TY cs
  have st' := st (w.alloc (.cells C 43))
  rw [World.size_alloc] at st'
  clear h1 hb hk hq hr
  go_enter Try.func6, Try.ntmps6
  go_wp2_with fail
  rw [ek]
  have LW : Hid (Below w.heap.size w ((w.alloc (.cells C 43)).alloc (.cells C 43))) := ((Below.refl _ _).alloc (Nat.le_refl _) _).alloc (by simp) _
  generalize ((w.alloc (.cells C 43)).alloc (.cells C 43)) = W at *
  have cq : W.cell? ⟨w.heap.size + 1, q, none⟩ = some (.int .u8 (z : Int)) := by
    rw [blk_cell B1.out, ← Array.getElem?_toList, hL, valsN_get (by omega), hz]
  have fq : W.frozen? ⟨w.heap.size + 1, q, none⟩ = false := blk_free B1.out
  obtain ⟨T1, T2, T3⟩ := T
  have wq : IntKind.i64.wrap (q : Int) = (q : Int) := by rw [IntKind.wrap_i64]; omega
  have wr : IntKind.i64.wrap (r : Int) = (r : Int) := by rw [IntKind.wrap_i64]; omega
  have er2 : (k : Int).tmod 8 = (r : Int) := by rw [Int.tmod_eq_emod_of_nonneg (by omega)]; exact er
  go_still_tail 8, (by kernel_rfl)
  change wpList _ _ _ _ _ W.drew
  have B0' : Hid (W.drew.heap[w.heap.size]? = some (.cells C 43 (0, 0))) := B0.out
  have B1' : Hid (W.drew.heap[w.heap.size + 1]? = some (.cells C 43 (0, 0))) := B1.out
  have LV : Hid (Below w.heap.size w W.drew) := LW.out.drew
  have cV : W.drew.cell? ⟨w.heap.size + 1, q, none⟩ = some (.int .u8 (z : Int)) := cq
  have fV : W.drew.frozen? ⟨w.heap.size + 1, q, none⟩ = false := fq
  clear cq fq
  generalize W.drew = V at *
  have BX : Hid ((V.setCell ⟨w.heap.size + 1, q, none⟩ (.int .u8 (zt : Int))).heap[w.heap.size]? = some (.cells C 43 (0, 0))) := (Below.heap_setCell _ _ _ _ (by simp)).trans B0'.out
  have BY : Hid ((V.setCell ⟨w.heap.size + 1, q, none⟩ (.int .u8 (zt : Int))).heap[w.heap.size + 1]? = some (.cells (C.set! q (.int .u8 (zt : Int))) 43 (0, 0))) := blk_set B1'.out
  have LU : Hid (Below w.heap.size w (V.setCell ⟨w.heap.size + 1, q, none⟩ (.int .u8 (zt : Int)))) := LV.out.setCell (by simp) _
  have HX : Hid (Holds (V.setCell ⟨w.heap.size + 1, q, none⟩ (.int .u8 (zt : Int))) (some ⟨w.heap.size, 0, none⟩) 48 48 (valsN .u8 xs)) := by
    unfold Hid
    rw [← hL]
    exact blk_holds BX.out hC (by unfold maxLen; omega)
  have HY : Hid (Holds (V.setCell ⟨w.heap.size + 1, q, none⟩ (.int .u8 (zt : Int))) (some ⟨w.heap.size + 1, 0, none⟩) 48 48 (valsN .u8 (xs.set q zt))) := by
    have e : (C.set! q (.int .u8 (zt : Int))).toList = valsN .u8 (xs.set q zt) := by
      rw [Array.set!_eq_setIfInBounds, Array.toList_setIfInBounds, hL]
      unfold valsN
      rw [List.map_set]
    unfold Hid
    rw [← e]
    exact blk_holds BY.out (by rw [Array.set!_eq_setIfInBounds, Array.size_setIfInBounds]; exact hC) (by unfold maxLen; omega)
  replace hL := Lib.hid hL
  replace hC := Lib.hid hC
  go_wp2_with fail
  clear cV fV
  generalize V.setCell ⟨w.heap.size + 1, q, none⟩ (.int .u8 (zt : Int)) = U at *
  refine (PX.out _ _ _ HX.out).mono ?_; rintro e w3 ⟨p3, c3, rfl, -, l3⟩
  have L3 : Hid (Below w.heap.size w (w3.alloc (.cells (pkC hx Xt.zero) 27))) := (LU.out.trans (l3.mono LU.out.size)).alloc (by have := LU.out.size; have := l3.size; omega) _
  have HY3 : Hid (Holds (w3.alloc (.cells (pkC hx Xt.zero) 27)) (some ⟨w.heap.size + 1, 0, none⟩) 48 48 (valsN .u8 (xs.set q zt))) := (HY.out.below l3).below ((Below.refl _ _).alloc (Nat.le_refl _) _)
  have GA : Hid ((w3.alloc (.cells (pkC hx Xt.zero) 27)).heap[w3.heap.size]? = some (.cells (pkC hx Xt.zero) 27 (0, 0))) := heap_alloc_new _ _
  clear l3
  go_wp2_with fail
  generalize w3.alloc (.cells (pkC hx Xt.zero) 27) = U3 at *
  refine (PY.out _ _ _ HY3.out).mono ?_; rintro e w4 ⟨p4, c4, rfl, -, l4⟩
  have L4 : Hid (Below w.heap.size w (w4.alloc (.cells (pkC hy2 Xt.zero) 27))) := (L3.out.trans (l4.mono L3.out.size)).alloc (by have := L3.out.size; have := l4.size; omega) _
  have GA4 : Hid ((w4.alloc (.cells (pkC hy2 Xt.zero) 27)).heap[w3.heap.size]? = some (.cells (pkC hx Xt.zero) 27 (0, 0))) :=
    (Below.heap_alloc _ _ _ (by have := (Array.getElem?_eq_some_iff.1 GA.out).1; have := l4.size; omega)).trans ((l4.block _ (Array.getElem?_eq_some_iff.1 GA.out).1).trans GA.out)
  have GB4 : Hid ((w4.alloc (.cells (pkC hy2 Xt.zero) 27)).heap[w4.heap.size]? = some (.cells (pkC hy2 Xt.zero) 27 (0, 0))) := heap_alloc_new _ _
  clear l4
  rcases CS.out with ⟨rfl, rfl, ne⟩ | ⟨⟨rfl, rfl⟩ | ⟨rfl, rfl⟩, k3, k5⟩ | ⟨rfl, rfl⟩
  · have ND := decide_eq_false ne
    clear ne
    have LA := load_pk GA4.out
    have LB := load_pk GB4.out
    go_wp2_with fail
    generalize w4.alloc (.cells (pkC hy2 Xt.zero) 27) = U4 at *
    refine (psame_any _ hx hy2 Xt.zero Xt.zero).mono ?_; rintro e w5 ⟨rfl, l5⟩
    rw [ND]
    have L5 : Hid (Below w.heap.size w w5) := L4.out.trans (l5.mono L4.out.size)
    have LA5 := load_pk ((l5.block _ (Array.getElem?_eq_some_iff.1 GA4.out).1).trans GA4.out)
    clear LA LB l5
    go_wp2_with fail
    refine (psame_any _ hx hx Xt.zero Xt.zero).mono ?_; rintro e w6 ⟨rfl, l6⟩
    rw [decide_eq_true (rfl : hx = hx)]
    have L6 : Hid (Below w.heap.size w w6) := L5.out.trans (l6.mono L5.out.size)
    clear LA5 l6
    go_wp2_with fail
    refine (alive4_any _).mono ?_; rintro e w7 ⟨rfl, l7⟩
    have L7 : Hid (Below w.heap.size w w7) := L6.out.trans (l7.mono L6.out.size)
    clear l7
    go_wp2
    go_ret
    exact ⟨rfl, L7.out⟩
  · have k3' : (3 : Int) ≤ (k : Int) := by omega
    have k5' : (k : Int) ≤ 5 := by omega
    go_wp2_with fail
    refine (alive4_any _).mono ?_; rintro e w7 ⟨rfl, l7⟩
    have L7 : Hid (Below w.heap.size w w7) := L4.out.trans (l7.mono L4.out.size)
    clear l7
    go_wp2
    go_ret
    exact ⟨rfl, L7.out⟩
  · have k3' : (3 : Int) ≤ (k : Int) := by omega
    have k5' : (k : Int) ≤ 5 := by omega
    go_wp2_with fail
    refine (alive4_any _).mono ?_; rintro e w7 ⟨rfl, l7⟩
    have L7 : Hid (Below w.heap.size w w7) := L4.out.trans (l7.mono L4.out.size)
    clear l7
    go_wp2
    go_ret
    exact ⟨rfl, L7.out⟩
  · by_cases k3 : 3 ≤ k
    · have k3' : (3 : Int) ≤ (k : Int) := by omega
      by_cases k5 : k ≤ 5
      · have k5' : (k : Int) ≤ 5 := by omega
        go_wp2_with fail
        refine (alive4_any _).mono ?_; rintro e w7 ⟨rfl, l7⟩
        have L7 : Hid (Below w.heap.size w w7) := L4.out.trans (l7.mono L4.out.size)
        clear l7
        go_wp2
        go_ret
        exact ⟨rfl, L7.out⟩
      · have k5' : (5 : Int) < (k : Int) := by omega
        have k6 : decide ((k : Int) ≤ 5) = false := by simp; omega
        clear k5
        go_wp2_with fail
        refine (alive4_any _).mono ?_; rintro e w7 ⟨rfl, l7⟩
        have L7 : Hid (Below w.heap.size w w7) := L4.out.trans (l7.mono L4.out.size)
        clear l7
        go_wp2
        go_ret
        exact ⟨rfl, L7.out⟩
    · have k3' : (k : Int) < 3 := by omega
      have k6 : decide ((3 : Int) ≤ (k : Int)) = false := by simp; omega
      clear k3
      go_wp2_with fail
      refine (alive4_any _).mono ?_; rintro e w7 ⟨rfl, l7⟩
      have L7 : Hid (Below w.heap.size w w7) := L4.out.trans (l7.mono L4.out.size)
      clear l7
      go_wp2
      go_ret
      exact ⟨rfl, L7.out⟩

theorem bits_walk (w : World) (C : Array Value) (xs : List Nat) (bit : Nat) (hC : C.size = 48) (hL : C.toList = valsN .u8 xs) (hy : Byt xs) (hb : bit < 65536) :
    Calls Try.prog 6 #[.agg C, .int .u16 bit] w fun e w' => e = .returned (.bool true) ∧ Below w.heap.size w w' := by
  have lx : xs.length = 48 := by have := congrArg List.length hL; rw [Array.length_toList, hC, valsN_len] at this; omega
  obtain ⟨hx, Lx, ex, Ex, hz, Lz, ez, Ez, TX, TY, cs⟩ := bits_case lx hy (bit % 384) (by omega)
  exact bits_core w C xs bit (bit % 384) (bit % 384 / 8) (bit % 384 % 8) _ _ hC hL hy hb rfl rfl rfl rfl rfl hx hz Lx Lz ex ez Ex Ez TX TY cs
end Go.Proofs.Ytjjbalgonkphjaa
