/- Layer 6 (mac), the program's own table of keys: New. -/
import Derived.Test.YtkojgegfmhoomaaMacK
import Derived.Deep.DeepCutAuto
namespace Go.Proofs.Ytkojgegfmhoomaa
open Go.ChangeShapes Go.WideShapes Go.ChangeAt Go.RowKit Go.Maps OctM

/-- A table is told: a map in new memory, behind a new pointer. -/
def PTab (w : World) (ks : List Ky) (e : Ending) (w' : World) : Prop :=
  ∃ T b n D, e = .returned (.tuple #[.pointer (some ⟨T, 0, none⟩), .int .i64 0]) ∧ w'.heap[T]? = some (.cells #[.map (some b)] 68 (0, 0)) ∧ w'.ownsMap Try.prog 22 keyR b n D ∧ TabD D ks ∧ w.heap.size ≤ T ∧ w.heap.size ≤ b ∧ Below w.heap.size w w'
def PNewR (w : World) (ks : List Ky) (e : Ending) (w' : World) : Prop :=
  (zeroK ks ∧ e = .returned (.tuple #[.pointer none, .int .i64 1]) ∧ Below w.heap.size w w') ∨ (¬ zeroK ks ∧ twiceK ks ∧ e = .returned (.tuple #[.pointer none, .int .i64 9]) ∧ Below w.heap.size w w') ∨
  (¬ zeroK ks ∧ ¬ twiceK ks ∧ 16 < ks.length ∧ e = .returned (.tuple #[.pointer none, .int .i64 7]) ∧ Below w.heap.size w w') ∨ (¬ zeroK ks ∧ ¬ twiceK ks ∧ ks.length ≤ 16 ∧ PTab w ks e w')

set_option maxRecDepth 100000 in
set_option maxHeartbeats 16000000 in
theorem pnew_any (w : World) (p : Option Addr) (n c : Nat) (ks : List Ky) (hx : HoldsK w p n c ks) (hk : ∀ k ∈ ks, KeyOk k) (hn : n ≤ 100000) :
    Calls Try.prog 13 #[.slice p n c] w (PNewR w ks) := by
  have nb : (n : Int) ≤ 100000 := by omega
  have HX := Lib.hid hx
  have LN := Lib.hid hx.len
  have HN := Lib.hid hn
  have KO := Lib.hid hk
  have PC := Lib.hid (fun w' (h : HoldsK w' p n c ks) => pcontains_zero w' p n c ks h)
  have hmm := @run_makeMap Try.prog
  clear hx hn hk
  go_enter Try.func13, Try.ntmps13
  go_wp2_with fail
  refine (PC.out w HX.out).mono ?_; rintro e w1 ⟨⟨b, rfl, hb⟩, l1⟩
  have L1 := Lib.hid l1
  have HB := Lib.hid hb
  clear l1 hb PC
  rcases b with _ | _
  · have NZ : Hid (¬ zeroK ks) := fun h => by have := HB.out.2 h; cases this
    have M0 : Hid ((w1.alloc (.map #[] 0)).ownsMap Try.prog 22 keyR w1.heap.size 0 (.map [])) := World.ownsMap_made w1 _ _ _
    have L2 : Hid (Below w.heap.size w (w1.alloc (.map #[] 0))) := L1.out.alloc L1.out.size _
    have WB : Hid (w.heap.size ≤ w1.heap.size) := L1.out.size
    clear HB
    go_upto_region 4 with (fail)
    generalize w1.alloc (.map #[] 0) = w2 at *
    go_wp2_with fail
    generalize w1.heap.size = B at *
    go_loopw [12] (fun i wr => ∃ (k : Nat) (D : DataW Unit), i = .int .i64 k ∧ Hid (k ≤ n) ∧ Hid (wr.ownsMap Try.prog 22 keyR B k D) ∧ Hid (TabD D (ks.take k)) ∧ Hid (Below w.heap.size w wr)) (fun i _ => 200000 - (intOf i).toNat)
    case atStart => exact ⟨0, .map [], rfl, Nat.zero_le _, M0, tab_nil, L2⟩
    case round =>
      obtain ⟨i, D, rfl, hi, own, tab, low⟩ := hrel
      have ib : (i : Int) ≤ 100000 := by have := hi.out; have := HN.out; omega
      by_cases g : i < n
      · have g' : (i : Int) < (n : Int) := by omega
        have G : Hid (i + 1 ≤ n) := g
        obtain ⟨a, k, rfl, hf, c0, c1, c2⟩ := (HX.out.below low.out).at g
        have kok := KO.out k (List.mem_of_getElem? hf)
        have TN : Hid (TabD (D.put (kl k.id) (datK k)) (ks.take (i + 1))) := by
          unfold Hid
          obtain ⟨h1, rfl⟩ := List.getElem?_eq_some_iff.1 hf
          rw [List.take_succ_eq_append_getElem h1]
          exact tab_put tab.out _
        have KR : Hid (keyR (.agg #[.int .u32 (k.id : Nat), .int .u64 (k.a : Nat), .int .u64 (k.b : Nat)]) = some (datK k, [])) := rfl
        have KL := Lib.hid (kl_of kok.1)
        obtain ⟨id, ka, kb⟩ := k
        simp only at *
        have OW : Hid ((wr.alloc (.cells #[.int .u32 (id : Nat), .int .u64 (ka : Nat), .int .u64 (kb : Nat)] 25)).ownsMap Try.prog 22 keyR B i D) := own.out.alloc _
        have LA : Hid (Below w.heap.size w (wr.alloc (.cells #[.int .u32 (id : Nat), .int .u64 (ka : Nat), .int .u64 (kb : Nat)] 25))) := low.out.alloc low.out.size _
        have IM : Hid (i < maxLen) := by unfold Hid maxLen; omega
        clear hi g hf kok tab own low
        go_wp2_with (at_mapUpdate; refine wpList_mapUpdate_own _ rfl _ _ _ 66 rfl 22 25 law32 Try.underlying66 keyR B i D rfl OW.out IM.out _ _ _ rfl rfl KL.out _ [] KR.out ?_)
        intro w4 o4 g4
        have O4 := Lib.hid o4
        have L4 : Hid (Below w.heap.size w w4) := LA.out.grown g4 LA.out.size (fun j hj => by cases hj; exact WB.out)
        clear o4 g4 OW LA
        go_wp2
        go_roundw
        case rel => exact ⟨i + 1, _, by go_num, G, O4, TN, L4⟩
        case measure => simp [intOf]; omega
      · have g' : (n : Int) ≤ (i : Int) := by omega
        obtain rfl : i = n := by have := hi.out; omega
        have TB : Hid (TabD D ks) := by
          have := tab.out
          rwa [List.take_of_length_le (by rw [LN.out]; exact Nat.le_refl _)] at this
        have OW := Lib.hid own.out
        have LW := Lib.hid low.out
        have SZ := TB.out.le
        rw [LN.out] at SZ
        have LT := Lib.hid LN.out
        clear hi g own low tab
        by_cases tw : Maps.size D < i
        · have t1 : ((Maps.size D : Nat) : Int) < (i : Int) := by omega
          have TW : Hid (twiceK ks) := by
            unfold Hid
            refine Classical.byContradiction fun h => ?_
            have := TB.out.all h
            rw [LN.out] at this
            omega
          have F : Hid (PNewR w ks (.returned (.tuple #[.pointer none, .int .i64 9])) wr) := .inr (.inl ⟨NZ.out, TW.out, rfl, LW.out⟩)
          clear SZ TB TW
          go_wp2_with (at_len; refine wpList_len_own _ rfl _ 66 rfl 22 25 Try.underlying66 keyR B i D rfl OW.out ?_)
          go_wp2
          go_ret2
          exact F.out
        · have NT : Hid (¬ twiceK ks) := fun h => by
            have := TB.out.less h
            rw [LN.out] at this
            exact tw this
          have hs : Maps.size D = i := by omega
          have hs' : ¬ ((Maps.size D : Nat) : Int) < (i : Int) := by omega
          clear SZ tw
          by_cases h16 : 16 < i
          · have t2 : (16 : Int) < (i : Int) := by omega
            have t3 : (16 : Int) < ((Maps.size D : Nat) : Int) := by omega
            have F : Hid (PNewR w ks (.returned (.tuple #[.pointer none, .int .i64 7])) wr) := .inr (.inr (.inl ⟨NZ.out, NT.out, by rw [LT.out]; exact h16, rfl, LW.out⟩))
            clear h16
            go_wp2_with (at_len; refine wpList_len_own _ rfl _ 66 rfl 22 25 Try.underlying66 keyR B i D rfl OW.out ?_)
            go_wp2
            go_ret2
            exact F.out
          · have t2 : ¬ (16 : Int) < (i : Int) := by omega
            have t3 : ¬ (16 : Int) < ((Maps.size D : Nat) : Int) := by omega
            have F : Hid (PNewR w ks (.returned (.tuple #[.pointer (some ⟨wr.heap.size, 0, none⟩), .int .i64 0])) (wr.alloc (.cells #[.map (some B)] 68))) :=
              .inr (.inr (.inr ⟨NZ.out, NT.out, by rw [LT.out]; omega, wr.heap.size, B, i, D, rfl, heap_alloc_new wr _, OW.out.alloc _, TB.out, LW.out.size, WB.out, LW.out.alloc LW.out.size _⟩))
            clear h16
            go_wp2_with (at_len; refine wpList_len_own _ rfl _ 66 rfl 22 25 Try.underlying66 keyR B i D rfl OW.out ?_)
            go_wp2
            go_ret2
            exact F.out
  · have F : Hid (PNewR w ks (.returned (.tuple #[.pointer none, .int .i64 1])) w1) := .inl ⟨HB.out.1 rfl, rfl, L1.out⟩
    go_wp2
    go_ret2
    exact F.out
end Go.Proofs.Ytkojgegfmhoomaa
