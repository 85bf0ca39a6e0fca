/- ExtFinds: what is found is the data of the first field of a type: the walk. -/
import Derived.Test.YteclcefeipjoeaaExtP
import Derived.Test.YteclcefeipjoeaaExtF
import Derived.Test.YteclcefeipjoeaaExtH
namespace Go.Proofs.Yteclcefeipjoeaa
open Go.ChangeShapes Go.WideShapes Go.ChangeAt Go.RowKit OctM

theorem propX_ok {l : Says} (h : ∀ x ∈ l, x.1 < 65536 ∧ Byt x.2) : ∀ x ∈ propX l, x.1 < 65536 ∧ Byt x.2 := fun x hx => by
  unfold propX at hx
  obtain ⟨y, hy, rfl⟩ := List.mem_map.1 hx
  obtain ⟨a, b⟩ := h y (List.mem_of_mem_take hy)
  exact ⟨a, byt_append (byt_take b _) (byt_zeros _)⟩
theorem ok_of {gs : List Fld} {l : Says} (e : says gs = l) (h : ∀ x ∈ l, x.1 < 65536 ∧ Byt x.2) : FldsOk gs := fun f hf => h (f.ty, f.ds) (by rw [← e]; unfold says; exact List.mem_map.2 ⟨f, hf, rfl⟩)
theorem small_of {w : World} {p : Option Addr} {n c : Nat} {gs : List Fld} {l : Says} (hg : HoldsX w p n c gs) (e : says gs = l) (h : ∀ x ∈ l, x.2.length ≤ 10000) : ∀ f ∈ gs, f.n ≤ 10000 := fun f hf => by
  have a := h (f.ty, f.ds) (by rw [← e]; unfold says; exact List.mem_map.2 ⟨f, hf, rfl⟩)
  have b := (hg.data f hf).len
  rw [valsN_len] at b
  simp only at a
  omega
theorem propX_small (l : Says) : ∀ x ∈ propX l, x.2.length ≤ 10000 := fun x hx => by
  have := (propX_may l).1 x hx
  unfold longN at this
  omega

set_option maxRecDepth 100000 in
set_option maxHeartbeats 8000000 in
theorem finds_walk (w : World) (t : Nat) (p : Option Addr) (n c : Nat) (fs : List Fld) (hx : HoldsX w p n c fs) (ok : FldsOk fs) :
    Calls Try.prog 7 #[.slice p n c, .int .u16 (t : Nat)] w fun e w' => e = .returned (.bool true) ∧ Below w.heap.size w w' := by
  have PR := Lib.hid (proper_any w p n c fs hx)
  have OK := Lib.hid (propX_ok (ok_says ok))
  have SM := Lib.hid (propX_small (says fs))
  have M8 : Hid ((propX (says fs)).length ≤ 8) := (propX_may (says fs)).2
  generalize propX (says fs) = l at *
  clear hx ok
  go_enter Try.func7, Try.ntmps7
  go_wp2_with fail
  refine PR.out.mono ?_; rintro e w1 ⟨q, m, d, gs, rfl, hg, es, low1⟩
  have lg := hg.len
  have m8 : m ≤ 8 := by rw [← lg, ← says_len, es]; exact M8.out
  have mb : (m : Int) ≤ 8 := by omega
  have PF := Lib.hid (pfind5_any w1 t q m d gs hg (small_of hg es SM.out))
  have GO := Lib.hid (ok_of es OK.out)
  have HG := Lib.hid hg
  have LG := Lib.hid lg
  have L1 := Lib.hid low1
  have M := Lib.hid m8
  clear hg es low1 lg m8
  go_wp2_with fail
  refine PF.out.mono ?_; rintro e w2 ⟨⟨i, f, q2, d2, fst, rfl, nw⟩ | ⟨no, rfl⟩, low2⟩
  · have L2 : Hid (Below w.heap.size w w2) := L1.out.trans (low2.mono L1.out.size)
    have B2 := Lib.hid low2
    have FST := Lib.hid fst
    have NW := Lib.hid nw
    have il : i < m := by
      have := (List.getElem?_eq_some_iff.1 fst.at').1
      rwa [LG.out] at this
    have IL := Lib.hid il
    clear fst nw low2 il
    go_wp2_with fail
    go_loopw [19] (fun i' wr => ∃ k : Nat, i' = .int .i64 k ∧ Hid (k ≤ i) ∧ Hid (Below w2.heap.size w2 wr)) (fun i' _ => 100 - (intOf i').toNat)
    case atStart => exact ⟨0, rfl, Nat.zero_le _, Below.refl _ _⟩
    case round =>
      obtain ⟨k, rfl, hk, low⟩ := hrel
      have g : k < m := Nat.lt_of_le_of_lt hk.out IL.out
      have g' : (k : Int) < (m : Int) := by omega
      have kb : (k : Int) < 8 := by omega
      have BW : Hid (Below w1.heap.size w1 wr) := B2.out.trans (low.out.mono B2.out.size)
      have LW : Hid (Below w.heap.size w wr) := L2.out.trans (low.out.mono L2.out.size)
      obtain ⟨a, x, rfl, hf, c0, c1, hh⟩ := (HG.out.below BW.out).at g
      have LA : Hid (Below wr.heap.size wr (wr.alloc (.cells #[.int .u16 (x.ty : Nat), .slice x.p x.n x.c] 44))) := (Below.refl _ _).alloc (Nat.le_refl _) _
      by_cases ki : k = i
      · subst ki
        have ex : x = f := by have := FST.out.at'; rw [hf] at this; injection this
        subst ex
        have ty := FST.out.ty
        obtain ⟨t1, ht1⟩ : ∃ t1, t1 = x.ty := ⟨_, rfl⟩
        rw [← ht1] at c0 LA ty
        subst ty
        have BA := Lib.hid (awake5_any (wr.alloc (.cells #[.int .u16 (t1 : Nat), .slice x.p x.n x.c] 44)))
        have by' := (GO.out x (List.mem_of_getElem? hf)).2
        have HA : (wr.alloc (.cells #[.int .u16 (t1 : Nat), .slice x.p x.n x.c] 44)).heap[wr.heap.size]? = some (.cells #[.int .u16 (t1 : Nat), .slice x.p x.n x.c] 44 (0, 0)) := heap_alloc_new wr _
        have EQ := Lib.hid (fun w' (b : Below wr.heap.size wr w') => bequal_same w' q2 x.p x.n d2 x.n x.c x.ds (NW.out.holds.below (low.out.trans (b.mono low.out.size))) (hh.below b) by')
        have HAA := Lib.hid HA
        clear hk low g hf hh ht1 by' HA
        go_wp2_with fail
        refine BA.out.mono ?_; rintro e w3 ⟨rfl, l3⟩
        have k1 : w3.cell? ⟨wr.heap.size, 1, none⟩ = some (.slice x.p x.n x.c) := blk_cell ((l3.block _ (Array.getElem?_eq_some_iff.1 HAA.out).1).trans HAA.out)
        have L3 : Hid (Below wr.heap.size wr w3) := LA.out.trans (l3.mono LA.out.size)
        have L4 : Hid (Below w.heap.size w w3) := LW.out.trans (L3.out.mono LW.out.size)
        clear l3
        go_wp2_with fail
        refine (EQ.out _ L3.out).mono ?_; rintro e w4 ⟨rfl, rfl⟩
        go_wp2
        go_ret
        exact ⟨rfl, L4.out⟩
      · have ne := FST.out.ahead k (by have := hk.out; omega) x hf
        obtain ⟨s, hs⟩ : ∃ s, s = x.ty := ⟨_, rfl⟩
        rw [← hs] at c0 LA ne
        have f1 : ((s : Int) == (t : Int)) = false := by simp; omega
        have f2 : ((s : Int) != (t : Int)) = true := by simp; omega
        have f3 : ¬ (s : Int) = (t : Int) := by omega
        have KI : Hid (k + 1 ≤ i) := by unfold Hid; have := hk.out; omega
        have LN : Hid (Below w2.heap.size w2 (wr.alloc (.cells #[.int .u16 (s : Nat), .slice x.p x.n x.c] 44))) := low.out.trans (LA.out.mono low.out.size)
        clear hk low g hf hh ki ne hs
        go_wp2
        go_roundw
        case rel => exact ⟨k + 1, by go_num, KI, LN⟩
        case measure => simp [intOf]; omega
  · have L2 : Hid (Below w.heap.size w w2) := L1.out.trans (low2.mono L1.out.size)
    have B2 := Lib.hid low2
    have NO := Lib.hid no
    clear no low2
    go_wp2_with fail
    go_loopw [19] (fun i' wr => ∃ k : Nat, i' = .int .i64 k ∧ Hid (k ≤ m) ∧ Hid (Below w2.heap.size w2 wr)) (fun i' _ => 100 - (intOf i').toNat)
    case atStart => exact ⟨0, rfl, Nat.zero_le _, Below.refl _ _⟩
    case round =>
      obtain ⟨k, rfl, hk, low⟩ := hrel
      have kb : (k : Int) ≤ 8 := by have := hk.out; have := M.out; omega
      by_cases g : k < m
      · have g' : (k : Int) < (m : Int) := by omega
        have G := Lib.hid g
        have BW : Hid (Below w1.heap.size w1 wr) := B2.out.trans (low.out.mono B2.out.size)
        obtain ⟨a, x, rfl, hf, c0, c1, hh⟩ := (HG.out.below BW.out).at g
        have ne := NO.out x (List.mem_of_getElem? hf)
        obtain ⟨s, hs⟩ : ∃ s, s = x.ty := ⟨_, rfl⟩
        rw [← hs] at c0 ne
        have f1 : ((s : Int) == (t : Int)) = false := by simp; omega
        have f2 : ((s : Int) != (t : Int)) = true := by simp; omega
        have f3 : ¬ (s : Int) = (t : Int) := by omega
        have LN : Hid (Below w2.heap.size w2 (wr.alloc (.cells #[.int .u16 (s : Nat), .slice x.p x.n x.c] 44))) := low.out.alloc low.out.size _
        clear hk low g hf hh ne hs
        go_wp2
        go_roundw
        case rel => exact ⟨k + 1, by go_num, G.out, LN⟩
        case measure => simp [intOf]; omega
      · have g' : (m : Int) ≤ (k : Int) := by omega
        have BA := Lib.hid (awake5_any wr)
        have LW : Hid (Below w.heap.size w wr) := L2.out.trans (low.out.mono L2.out.size)
        clear g hk low
        go_wp2_with fail
        refine BA.out.mono ?_; rintro e w3 ⟨rfl, l3⟩
        have L3 : Hid (Below w.heap.size w w3) := LW.out.trans (l3.mono LW.out.size)
        clear l3
        go_wp2
        go_ret
        exact ⟨rfl, L3.out⟩
end Go.Proofs.Yteclcefeipjoeaa
