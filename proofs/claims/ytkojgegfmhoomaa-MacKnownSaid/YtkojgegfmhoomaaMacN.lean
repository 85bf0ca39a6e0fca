/- Layer 6 (mac), the program's own table of keys: Find, Len. -/
import Derived.Test.YtkojgegfmhoomaaMacL
import Derived.Deep.DeepCutAuto
namespace Go.Proofs.Ytkojgegfmhoomaa
open Go.ChangeShapes Go.WideShapes Go.ChangeAt Go.RowKit Go.Maps OctM

/-- A table of keys lies behind a pointer. -/
structure TabAt (w : World) (T : Nat) (ks : List Ky) : Prop where
  at_ : ∃ b n D, w.heap[T]? = some (.cells #[.map (some b)] 68 (0, 0)) ∧ w.ownsMap Try.prog 22 keyR b n D ∧ TabD D ks
  once : ¬ twiceK ks
theorem TabAt.below {w w' : World} {T : Nat} {ks : List Ky} (h : TabAt w T ks) (hb : Below w.heap.size w w') : TabAt w' T ks := by
  obtain ⟨⟨b, n, D, h1, h2, h3⟩, nt⟩ := h
  exact ⟨⟨b, n, D, by rw [hb.block _ (Array.getElem?_eq_some_iff.1 h1).1]; exact h1, ownsMap_below h2 hb, h3⟩, nt⟩

set_option maxRecDepth 100000 in
set_option maxHeartbeats 4000000 in
theorem pfind_any (w : World) (T id : Nat) (ks : List Ky) (hT : TabAt w T ks) (hid : id < 4294967296) :
    Calls Try.prog 15 #[.pointer (some ⟨T, 0, none⟩), .int .u32 (id : Nat)] w (FindR w ks id) := by
  obtain ⟨⟨b, n, D, h1, h2, h3⟩, nt⟩ := hT
  obtain ⟨k, hk⟩ : ∃ k, k = (findK ks id).getD ⟨0, 0, 0⟩ := ⟨_, rfl⟩
  obtain ⟨B, hB⟩ : ∃ B, B = (findK ks id).isSome := ⟨_, rfl⟩
  have TF := tab_find h3 nt id
  rw [← hk, ← hB] at TF
  have FIN : Hid (∀ w', Below w.heap.size w w' → FindR w ks id (.returned (.tuple #[keyV k, .bool B])) w') := fun w' hb => ⟨by rw [hk, hB], hb⟩
  have TF1 := Lib.hid TF.1
  have TF2 := Lib.hid TF.2
  have HID := Lib.hid hid
  clear hk hB TF h3 nt hid
  go_enter Try.func15, Try.ntmps15
  go_upto_region 1 with (fail)
  have L1 := Lib.hid ((Below.refl w.heap.size w).alloc (Nat.le_refl _) (.cells #[.int .u32 0, .int .u64 0, .int .u64 0] 25))
  have C0 := cell_of_one h1
  have C1 := (L1.out.cell (World.block_lt_of_cell? w _ C0)).trans C0
  have OW := Lib.hid (ownsMap_below h2 L1.out)
  have H1 := heap_alloc_new w (.cells #[.int .u32 0, .int .u64 0, .int .u64 0] 25)
  generalize w.alloc (.cells #[.int .u32 0, .int .u64 0, .int .u64 0] 25) = w1 at *
  obtain ⟨x, a, c⟩ := k
  have KV : Hid (keyV ⟨x, a, c⟩ = .agg #[.int .u32 (x : Nat), .int .u64 (a : Nat), .int .u64 (c : Nat)]) := rfl
  have SZ : w.heap.size < w1.heap.size := (Array.getElem?_eq_some_iff.1 H1).1
  have LA : Below w1.heap.size w1 (w1.alloc (.cells #[.int .u32 (x : Nat), .int .u64 (a : Nat), .int .u64 (c : Nat)] 25)) := (Below.refl _ _).alloc (Nat.le_refl _) _
  have H2 : (w1.alloc (.cells #[.int .u32 (x : Nat), .int .u64 (a : Nat), .int .u64 (c : Nat)] 25)).heap[w.heap.size]? = some (.cells #[.int .u32 0, .int .u64 0, .int .u64 0] 25 (0, 0)) := by rw [LA.block _ SZ]; exact H1
  have Z0 := blk_cell (o := 0) H2
  have Z1 := blk_cell (o := 1) H2
  have Z2 := blk_cell (o := 2) H2
  have F0 := blk_free (o := 0) H2
  have F1 := blk_free (o := 1) H2
  have F2 := blk_free (o := 2) H2
  have HB := Lib.hid (blk_key H2 (.int .u32 (x : Nat)) (.int .u64 (a : Nat)) (.int .u64 (c : Nat)))
  have LB := Lib.hid ((((L1.out.alloc L1.out.size (.cells #[.int .u32 (x : Nat), .int .u64 (a : Nat), .int .u64 (c : Nat)] 25)).setCell (p := ⟨w.heap.size, 0, none⟩) (Nat.le_refl _) (.int .u32 (x : Nat))).setCell (p := ⟨w.heap.size, 1, none⟩) (Nat.le_refl _) (.int .u64 (a : Nat))).setCell (p := ⟨w.heap.size, 2, none⟩) (Nat.le_refl _) (.int .u64 (c : Nat)))
  clear h1 h2 C0 H1 H2 LA SZ
  go_wp2_with (at_lookup; refine wpList_lookup_key _ rfl _ _ 66 rfl Try.underlying66 b n D rfl OW.out id HID.out rfl ⟨x, a, c⟩ B TF1.out TF2.out ?_; rw [KV.out])
  (try simp only [Exit.inBlock, Exit.then])
  refine bodyPost_ret (results_key rfl _ _ w.heap.size ⟨x, a, c⟩ rfl HB.out) rfl ?_
  exact FIN.out _ LB.out

set_option maxRecDepth 100000 in
theorem plen_any (w : World) (T : Nat) (ks : List Ky) (hT : TabAt w T ks) :
    Calls Try.prog 17 #[.pointer (some ⟨T, 0, none⟩)] w fun e w' => e = .returned (.int .i64 (ks.length : Nat)) ∧ Below w.heap.size w w' := by
  obtain ⟨⟨b, n, D, h1, h2, h3⟩, nt⟩ := hT
  have C0 := cell_of_one h1
  have OW := Lib.hid h2
  have SZ := h3.all nt
  rw [← SZ]
  clear SZ h1 h2 h3 nt
  go_enter Try.func17, Try.ntmps17
  go_wp2_with (at_len; refine wpList_len_own _ rfl _ 66 rfl 22 25 Try.underlying66 keyR b n D rfl OW.out ?_)
  go_wp2
  go_ret
  exact ⟨rfl, Below.refl _ _⟩

/-- No table. -/
theorem pfind_none (w : World) (id : Nat) :
    Calls Try.prog 15 #[.pointer none, .int .u32 (id : Nat)] w (FindR w [] id) := by
  go_enter Try.func15, Try.ntmps15
  go_upto_region 1 with (fail)
  have L1 := Lib.hid ((Below.refl w.heap.size w).alloc (Nat.le_refl _) (.cells #[.int .u32 0, .int .u64 0, .int .u64 0] 25))
  have H1 := heap_alloc_new w (.cells #[.int .u32 0, .int .u64 0, .int .u64 0] 25)
  generalize w.alloc (.cells #[.int .u32 0, .int .u64 0, .int .u64 0] 25) = w1 at *
  have Z0 := blk_cell (o := 0) H1
  have Z1 := blk_cell (o := 1) H1
  have Z2 := blk_cell (o := 2) H1
  have F0 := blk_free (o := 0) H1
  have F1 := blk_free (o := 1) H1
  have F2 := blk_free (o := 2) H1
  have HB := Lib.hid (blk_key H1 (.int .u32 0) (.int .u64 0) (.int .u64 0))
  have LB := Lib.hid (((L1.out.setCell (p := ⟨w.heap.size, 0, none⟩) (Nat.le_refl _) (.int .u32 0)).setCell (p := ⟨w.heap.size, 1, none⟩) (Nat.le_refl _) (.int .u64 0)).setCell (p := ⟨w.heap.size, 2, none⟩) (Nat.le_refl _) (.int .u64 0))
  clear H1
  go_wp2
  (try simp only [Exit.inBlock, Exit.then])
  refine bodyPost_ret (results_key rfl _ _ w.heap.size ⟨0, 0, 0⟩ rfl HB.out) rfl ?_
  exact ⟨rfl, LB.out⟩
theorem plen_none (w : World) :
    Calls Try.prog 17 #[.pointer none] w fun e w' => e = .returned (.int .i64 0) ∧ Below w.heap.size w w' := by
  go_enter Try.func17, Try.ntmps17
  go_wp2
  go_ret
  exact ⟨rfl, Below.refl _ _⟩
end Go.Proofs.Ytkojgegfmhoomaa
