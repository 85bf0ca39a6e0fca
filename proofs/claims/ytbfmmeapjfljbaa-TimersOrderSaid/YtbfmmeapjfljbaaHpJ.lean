/- Layer 13 (heap), the program's own: New, Len, Min, Find, Pop. -/
import Derived.Test.YtbfmmeapjfljbaaHpI
set_option maxRecDepth 100000
namespace Go.Proofs.Ytbfmmeapjfljbaa
open Go.ChangeShapes Go.WideShapes Go.ChangeAt Go.RowKit Go.Maps HeapM

def cell0 : Array Value := #[.int .u64 0, .int .u64 0, .int .i64 0]
def PNewP (w : World) (sz : Nat) (e : Ending) (w' : World) : Prop := ∃ N b, e = .returned (.tuple #[.pointer (some ⟨N, 0, none⟩), .int .i64 0]) ∧ PHp w' N b none 0 sz [] ∧ w.heap.size ≤ N ∧ w.heap.size ≤ b ∧ Below w.heap.size w w'
theorem pnew13_ok (w : World) (sz : Nat) (h1 : 1 ≤ sz) (h2 : sz ≤ 1048576) : Calls Try.prog 12 #[.int .i64 (sz : Nat)] w (PNewP w sz) := by
  have hmm := @run_makeMap Try.prog
  have M0 : MapP (w.alloc (.map #[] 0)) w.heap.size 0 (.map []) := World.ownsMap_made w _ _ _
  have L1 : Below w.heap.size w (w.alloc (.map #[] 0)) := (Below.refl _ _).alloc (Nat.le_refl _) _
  have S1 : (w.alloc (.map #[] 0)).heap.size = w.heap.size + 1 := by simp
  have F : Hid (PNewP w sz (.returned (.tuple #[.pointer (some ⟨w.heap.size + 1, 0, none⟩), .int .i64 0])) ((w.alloc (.map #[] 0)).alloc (.cells #[.int .i64 (sz : Nat), .slice none 0 0, .map (some w.heap.size)] 67))) := by
    have q := heap_alloc_new (w.alloc (.map #[] 0)) (.cells #[.int .i64 (sz : Nat), .slice none 0 0, .map (some w.heap.size)] 67)
    rw [S1] at q
    exact ⟨_, w.heap.size, rfl, ⟨q, OwnI.nil _ _ _, ⟨_, World.ownsMap.alloc M0 _, pl_nil⟩, (fun a ha => by cases ha), h1, ⟨Nat.zero_le _, h2⟩, (fun x hx => by cases hx), by unfold Nod; simp⟩, Nat.le_succ _, Nat.le_refl _, L1.alloc L1.size _⟩
  have s1 : ¬ (sz : Int) < 1 := by omega
  have s2 : ¬ (1048576 : Int) < (sz : Int) := by omega
  have s3 : decide ((sz : Int) < 1) = false := decide_eq_false s1
  have s4 : decide ((1048576 : Int) < (sz : Int)) = false := decide_eq_false s2
  have s5 : decide (1048576 < sz) = false := decide_eq_false (by omega)
  clear M0 L1 S1 h1 h2
  go_enter Try.func12, Try.ntmps12
  go_wp2
  go_ret2
  exact F.out
theorem pnew13_no (w : World) (s : Int) (h : ¬ (1 ≤ s ∧ s ≤ 1048576)) : Calls Try.prog 12 #[.int .i64 s] w fun e w' => e = .returned (.tuple #[.pointer none, .int .i64 1]) ∧ Below w.heap.size w w' := by
  by_cases a : s < 1
  · have s3 : decide (s < 1) = true := decide_eq_true a
    clear h
    go_enter Try.func12, Try.ntmps12
    go_wp2
    go_ret2
    exact ⟨rfl, Below.refl _ _⟩
  · have b : 1048576 < s := by omega
    have s3 : decide (s < 1) = false := decide_eq_false a
    have s4 : decide (1048576 < s) = true := decide_eq_true b
    clear h
    go_enter Try.func12, Try.ntmps12
    go_wp2
    go_ret2
    exact ⟨rfl, Below.refl _ _⟩

theorem plen13 {w : World} {N b c sz : Nat} {p : Option Addr} {l : List It} (h : PHp w N b p c sz l) : Calls Try.prog 31 #[.pointer (some ⟨N, 0, none⟩)] w fun e w' => e = .returned (.int .i64 (l.length : Nat)) ∧ w' = w := by
  have M := Lib.hid (pmade13 h)
  have c1 := h.c1
  obtain ⟨n, hn⟩ : ∃ n, l.length = n := ⟨_, rfl⟩
  rw [hn] at c1 ⊢
  clear h hn
  go_enter Try.func31, Try.ntmps31
  go_wp2_with (go_at_call 22; refine M.out.mono ?_; rintro e w' ⟨rfl, rfl⟩)
  go_ret
  exact ⟨rfl, rfl⟩

/-- A result cell in new memory. -/
structure NewC (w v : World) (r : Nat) : Prop where
  blk : v.heap[r]? = some (.cells #[.int .u64 0, .int .u64 0, .int .i64 0] 55 (0, 0))
  low : Below w.heap.size w v
  nr : w.heap.size ≤ r
theorem newC (w : World) : NewC w (w.alloc (.cells #[.int .u64 0, .int .u64 0, .int .i64 0] 55)) w.heap.size := ⟨heap_alloc_new _ _, (Below.refl _ _).alloc (Nat.le_refl _) _, Nat.le_refl _⟩
theorem NewC.tell {w v : World} {r : Nat} (h : NewC w v r) (u0 u1 u2 : Value) : Below w.heap.size w (((v.setCell ⟨r, 0, none⟩ u0).setCell ⟨r, 1, none⟩ u1).setCell ⟨r, 2, none⟩ u2) :=
  ((h.low.setCell (p := ⟨r, 0, none⟩) h.nr _).setCell (p := ⟨r, 1, none⟩) h.nr _).setCell (p := ⟨r, 2, none⟩) h.nr _

set_option maxHeartbeats 1000000 in
theorem pmin13 {w : World} {N b c sz : Nat} {p : Option Addr} {l : List It} (h : PHp w N b p c sz l) : Calls Try.prog 24 #[.pointer (some ⟨N, 0, none⟩)] w fun e w' => e = .returned (.tuple #[itV (popX l), .bool (decide (0 < l.length))]) ∧ Below w.heap.size w w' := by
  have NC := Lib.hid (newC w)
  have H1 := Lib.hid (h.below NC.out.low)
  have PL := Lib.hid (plen13 H1.out)
  obtain ⟨n, hn⟩ : ∃ n, l.length = n := ⟨_, rfl⟩
  rw [hn] at PL
  have c1 := H1.out.c1
  rw [hn] at c1
  by_cases z : n = 0
  · have e1 : popX l = zeroI := by unfold popX; rw [hn, if_pos z]
    have e2 : decide (0 < l.length) = false := decide_eq_false (by omega)
    rw [e1, e2]
    subst z
    clear h H1 hn e1 e2
    go_enter Try.func24, Try.ntmps24
    go_wp2_with fail
    have z0 := blk_cell (o := 0) NC.out.blk
    have z1 := blk_cell (o := 1) NC.out.blk
    have z2 := blk_cell (o := 2) NC.out.blk
    have f0 := blk_free (o := 0) NC.out.blk
    have f1 := blk_free (o := 1) NC.out.blk
    have f2 := blk_free (o := 2) NC.out.blk
    have Z := Lib.hid (blk_itm NC.out.blk (.int .u64 0) (.int .u64 0) (.int .i64 0))
    have LZ := Lib.hid (NC.out.tell (.int .u64 0) (.int .u64 0) (.int .i64 0))
    simp only [List.getElem?_toArray, List.getElem?_cons_zero, List.getElem?_cons_succ] at z0 z1 z2
    clear NC
    obtain ⟨r, hr⟩ : ∃ r, w.heap.size = r := ⟨_, rfl⟩
    have HR := Lib.hid hr
    rw [hr] at z0 z1 z2 f0 f1 f2 Z LZ ⊢
    generalize w.alloc (.cells #[.int .u64 0, .int .u64 0, .int .i64 0] 55) = v at *
    refine PL.out.mono ?_; rintro e w1 ⟨rfl, rfl⟩
    go_wp2
    (try simp only [Exit.inBlock, Exit.then])
    refine bodyPost_ret (results_itp rfl _ _ r zeroI rfl Z.out) rfl ?_
    exact ⟨rfl, by rw [HR.out]; exact LZ.out⟩
  · have e1 : popX l = gt l 0 := by unfold popX; rw [hn, if_neg z]
    have e2 : decide (0 < l.length) = true := decide_eq_true (by omega)
    rw [e1, e2]
    obtain ⟨a, rfl⟩ := H1.out.adr (by omega)
    obtain ⟨y0, y1, y2⟩ := own_at H1.out.o (k := 0) (by omega)
    obtain ⟨x, hx⟩ : ∃ x, gt l 0 = x := ⟨_, rfl⟩
    rw [hx] at y0 y1 y2 ⊢
    rw [Nat.zero_mul, addr_zero] at y0 y1 y2
    have d1 : ((n : Int) == 0) = false := by rw [beq_eq_false_iff_ne]; omega
    have d2 : (n == 0) = false := by rw [beq_eq_false_iff_ne]; exact z
    have d3 : (0 : Int) < (n : Int) := by omega
    obtain ⟨xi, xs, xt⟩ := x
    dsimp only at y0 y1 y2
    clear h H1 hn e1 e2 hx
    go_enter Try.func24, Try.ntmps24
    go_wp2_with fail
    have z0 := blk_cell (o := 0) NC.out.blk
    have z1 := blk_cell (o := 1) NC.out.blk
    have z2 := blk_cell (o := 2) NC.out.blk
    have f0 := blk_free (o := 0) NC.out.blk
    have f1 := blk_free (o := 1) NC.out.blk
    have f2 := blk_free (o := 2) NC.out.blk
    have Z := Lib.hid (blk_itm NC.out.blk (.int .u64 (xi : Nat)) (.int .u64 (xs : Nat)) (.int .i64 xt))
    have LZ := Lib.hid (NC.out.tell (.int .u64 (xi : Nat)) (.int .u64 (xs : Nat)) (.int .i64 xt))
    simp only [List.getElem?_toArray, List.getElem?_cons_zero, List.getElem?_cons_succ] at z0 z1 z2
    clear NC
    obtain ⟨r, hr⟩ : ∃ r, w.heap.size = r := ⟨_, rfl⟩
    have HR := Lib.hid hr
    rw [hr] at z0 z1 z2 f0 f1 f2 Z LZ ⊢
    generalize w.alloc (.cells #[.int .u64 0, .int .u64 0, .int .i64 0] 55) = v at *
    refine PL.out.mono ?_; rintro e w1 ⟨rfl, rfl⟩
    go_wp2
    (try simp only [Exit.inBlock, Exit.then])
    refine bodyPost_ret (results_itp rfl _ _ r ⟨xi, xs, xt⟩ rfl Z.out) rfl ?_
    exact ⟨rfl, by rw [HR.out]; exact LZ.out⟩

/-! ### None -/
theorem plen13_none (w : World) : Calls Try.prog 31 #[.pointer none] w fun e w' => e = .returned (.int .i64 0) ∧ w' = w := by
  have M := Lib.hid (pmade13_none w)
  go_enter Try.func31, Try.ntmps31
  go_wp2_with (go_at_call 22; refine M.out.mono ?_; rintro e w' ⟨rfl, rfl⟩)
  go_ret
  exact ⟨rfl, rfl⟩
theorem ppush13_none (w : World) (x : It) : Calls Try.prog 16 #[.pointer none, itV x] w fun e w' => e = .returned (.int .i64 2) ∧ Below w.heap.size w w' := by
  have L1 := Lib.hid ((Below.refl w.heap.size w).alloc (Nat.le_refl _) (.cells (itC x) 55))
  have M := Lib.hid pmade13_none
  obtain ⟨xi, xs, xt⟩ := x
  unfold itC at L1
  unfold itV
  dsimp only at L1 ⊢
  go_enter Try.func16, Try.ntmps16
  go_wp2_with (go_at_call 22; refine (M.out _).mono ?_; rintro e w' ⟨rfl, rfl⟩)
  go_ret
  exact ⟨rfl, L1.out⟩
theorem pset13_none (w : World) (x : It) : Calls Try.prog 27 #[.pointer none, itV x] w fun e w' => e = .returned (.int .i64 2) ∧ Below w.heap.size w w' := by
  have L1 := Lib.hid ((Below.refl w.heap.size w).alloc (Nat.le_refl _) (.cells (itC x) 55))
  have B1 := heap_alloc_new w (.cells (itC x) 55)
  have M := Lib.hid pplace13_nil
  obtain ⟨xi, xs, xt⟩ := x
  unfold itC at L1 B1
  unfold itV
  dsimp only at L1 B1 ⊢
  have x0 := blk_cell (o := 0) B1
  simp only [List.getElem?_toArray, List.getElem?_cons_zero] at x0
  clear B1
  go_enter Try.func27, Try.ntmps27
  go_wp2_with (go_at_call 34; refine (M.out _ _).mono ?_; rintro e w' ⟨rfl, rfl⟩)
  go_ret
  exact ⟨rfl, L1.out⟩
end Go.Proofs.Ytbfmmeapjfljbaa

