/- The laws' own helper of layer 3: the first 30 cells' sizes and numbers. -/
import Derived.Test.YtpamnephndoefaaOctW
namespace Go.Proofs.Ytpamnephndoefaa
open Go.ChangeShapes Go.WideShapes Go.ChangeAt Go.RowKit OctM

/-- Cells (a size, a number) behind a slice. -/
structure HoldsC (w : World) (p : Option Addr) (n c : Nat) (cs : List (Nat × Nat)) : Prop where
  len : cs.length = n
  cap : n ≤ c
  max : c ≤ maxLen
  cell : ∀ i, i < n → ∃ a, p = some a ∧ w.cell? (a.add (i * 2)) = some (.int .u8 ((cs.getD i (0, 0)).1 : Nat)) ∧ w.cell? (a.add (i * 2 + 1)) = some (.int .u64 ((cs.getD i (0, 0)).2 : Nat))
theorem HoldsC.below {w w' : World} {p : Option Addr} {n c : Nat} {cs : List (Nat × Nat)} (h : HoldsC w p n c cs) (hb : Below w.heap.size w w') : HoldsC w' p n c cs := by
  refine ⟨h.len, h.cap, h.max, fun i hi => ?_⟩
  obtain ⟨a, ha, c1, c2⟩ := h.cell i hi
  exact ⟨a, ha, (hb.cell (World.block_lt_of_cell? w _ c1)).trans c1, (hb.cell (World.block_lt_of_cell? w _ c2)).trans c2⟩

def sizeT (cs : List (Nat × Nat)) (i : Nat) : Nat := 1 + (cs.getD i (0, 0)).1 % 8
def numT (cs : List (Nat × Nat)) (i : Nat) : Nat := (cs.getD i (0, 0)).2 / 2 ^ (64 - 8 * sizeT cs i)
def sizesT (cs : List (Nat × Nat)) : Nat → List Int
  | 0 => []
  | k + 1 => sizesT cs k ++ [(sizeT cs k : Int)]
def numsT (cs : List (Nat × Nat)) : Nat → List Nat
  | 0 => []
  | k + 1 => numsT cs k ++ [numT cs k]

theorem info_int : (Try.prog.info? 3).map (fun i => (i.zero, i.size, i.bytes)) = some (some (.int .i64 0), 1, 8) := by kernel_rfl

theorem rows_apart {w : World} {B B' : Nat} {v v' : Value} {n n' : Nat} {vs vs' : List Value} {S T : TypeId} (hST : S ≠ T) (h : w.ownsRow B S 1 v n vs) (h' : w.ownsRow B' T 1 v' n' vs') : v'.ownBlock = none ∨ v'.ownBlock ≠ v.ownBlock := by
  obtain ⟨-, ⟨rfl, -⟩ | ⟨g', cap', cur', rfl, -, hg', -⟩⟩ := h'
  · exact .inl rfl
  · right
    obtain ⟨-, ⟨rfl, -⟩ | ⟨g, cap, cur, rfl, -, hg, -⟩⟩ := h
    · intro e; cases e
    · intro e
      have e1 : g' = g := by injection e
      rw [e1, hg] at hg'
      injection hg' with hg'
      injection hg' with _ hT _
      exact hST hT

structure GRel (w wr : World) (cs : List (Nat × Nat)) (v1 v2 : Value) (k : Nat) : Prop where
  own1 : wr.ownsRow w.heap.size 3 1 v1 k (valsI .i64 (sizesT cs k))
  own2 : wr.ownsRow w.heap.size 40 1 v2 k (valsN .u64 (numsT cs k))
  low : Below w.heap.size w wr

theorem grel_one {w wr w1 : World} {cs : List (Nat × Nat)} {v1 v2 v' : Value} {k : Nat} {o o' : Obj} (h : GRel w wr cs v1 v2 k)
    (ho : w1.ownsRow w.heap.size 3 1 v' (k + 1) (valsI .i64 (sizesT cs k) ++ [.int .i64 (sizeT cs k)])) (hg : ((wr.alloc o).alloc o').grownBy w1 v1.ownBlock) :
    w1.ownsRow w.heap.size 3 1 v' (k + 1) (valsI .i64 (sizesT cs (k + 1))) ∧ w1.ownsRow w.heap.size 40 1 v2 k (valsN .u64 (numsT cs k)) ∧ Below w.heap.size w w1 := by
  have a1 := World.ownsRow.alloc (World.ownsRow.alloc h.own1 o) o'
  have a2 := World.ownsRow.alloc (World.ownsRow.alloc h.own2 o) o'
  have lo : Below w.heap.size w ((wr.alloc o).alloc o') := seqB h.low (seqB (laidB _ _) (laidB _ _))
  refine ⟨?_, World.ownsRow.kept a2 hg (rows_apart (by decide) a1 a2), lo.grown hg lo.size (fun j hj => (World.ownsRow.lt h.own1 j hj).1)⟩
  have e : valsI .i64 (sizesT cs (k + 1)) = valsI .i64 (sizesT cs k) ++ [.int .i64 (sizeT cs k)] := by
    show (sizesT cs k ++ [(sizeT cs k : Int)]).map _ = _
    rw [List.map_append]
    rfl
  rw [e]
  exact ho
theorem grel_two {w w1 w2 : World} {cs : List (Nat × Nat)} {v1 v2 v' : Value} {k : Nat} {o : Obj} (h1 : w1.ownsRow w.heap.size 3 1 v1 (k + 1) (valsI .i64 (sizesT cs (k + 1)))) (h2 : w1.ownsRow w.heap.size 40 1 v2 k (valsN .u64 (numsT cs k))) (hl : Below w.heap.size w w1)
    (ho : w2.ownsRow w.heap.size 40 1 v' (k + 1) (valsN .u64 (numsT cs k) ++ [.int .u64 (numT cs k)])) (hg : (w1.alloc o).grownBy w2 v2.ownBlock) : GRel w w2 cs v1 v' (k + 1) := by
  have a1 := World.ownsRow.alloc h1 o
  have a2 := World.ownsRow.alloc h2 o
  have lo : Below w.heap.size w (w1.alloc o) := seqB hl (laidB _ _)
  refine ⟨World.ownsRow.kept a1 hg (rows_apart (by decide) a2 a1), ?_, lo.grown hg lo.size (fun j hj => (World.ownsRow.lt h2 j hj).1)⟩
  have e : valsN .u64 (numsT cs (k + 1)) = valsN .u64 (numsT cs k) ++ [.int .u64 (numT cs k)] := by
    show valsN .u64 (numsT cs k ++ [numT cs k]) = _
    rw [valsN_append]
    rfl
  rw [e]
  exact ho

/-- What the helper leaves. -/
structure CellsPost (w : World) (cs : List (Nat × Nat)) (N : Nat) (e : Ending) (w' : World) : Prop where
  out : ∃ v1 v2, e = .returned (.tuple #[v1, v2]) ∧ w'.ownsRow w.heap.size 3 1 v1 N (valsI .i64 (sizesT cs N)) ∧ w'.ownsRow w.heap.size 40 1 v2 N (valsN .u64 (numsT cs N)) ∧ Below w.heap.size w w'

theorem add_next (a : Addr) (x : Nat) : (⟨(a.add x).block, (a.add x).off + 1, none⟩ : Addr) = a.add (x + 1) := by
  unfold Addr.add
  by_cases h : x = 0
  · subst h; simp
  · rw [if_neg h, if_neg (by omega)]
    simp [Nat.add_assoc]

set_option maxHeartbeats 3200000 in
theorem cells_any (w : World) (p : Option Addr) (n c N : Nat) (cs : List (Nat × Nat)) (hc : HoldsC w p n c cs) (h8 : ∀ i, i < n → (cs.getD i (0, 0)).1 < 256) (h64 : ∀ i, i < n → (cs.getD i (0, 0)).2 < 18446744073709551616) (hN : N = min n 30) :
    Calls Try.prog 28 #[.slice p n c] w (CellsPost w cs N) := by
  obtain ⟨i0, hi, hz0, hz1, hz2⟩ := info_of info_int
  obtain ⟨j0, gi, gz0, gz1, gz2⟩ := info_of info64
  have mx := hc.max
  have cp := hc.cap
  unfold maxLen at mx
  have n1 : (n : Int) ≤ 9223372036854775807 := by omega
  have HC := Lib.hid hc
  have H8 := Lib.hid h8
  have H64 := Lib.hid h64
  have HN := Lib.hid hN
  clear hc h8 h64 mx cp hN
  go_enter Try.func28, Try.ntmps28
  go_wp2_with fail
  go_loopw [4, 5, 11] (fun v1 v2 i wr => ∃ k : Nat, i = .int .i64 k ∧ Hid (k ≤ n) ∧ Hid (k ≤ 30) ∧ Hid (GRel w wr cs v1 v2 k)) (fun _ _ i _ => 2000 - (intOf i).toNat)
  case atStart => exact ⟨0, rfl, Nat.zero_le _, by unfold Hid; omega, ⟨World.ownsRow_nil w _ _ 1, World.ownsRow_nil w _ _ 1, Below.refl _ _⟩⟩
  case round =>
    obtain ⟨k, rfl, hk, h30, h⟩ := hrel
    by_cases g : k < n
    · have g' : (k : Int) < (n : Int) := by omega
      obtain ⟨a, ea, c1, c2⟩ := (HC.out.below h.out.low).cell k g
      subst ea
      obtain ⟨sz, hsz⟩ : ∃ sz, sz = (cs.getD k (0, 0)).1 := ⟨_, rfl⟩
      obtain ⟨v, hv⟩ : ∃ v, v = (cs.getD k (0, 0)).2 := ⟨_, rfl⟩
      rw [← hsz] at c1
      rw [← hv] at c2
      have s1 : (sz : Int) < 256 := by have := H8.out k g; omega
      have c3 : wr.cell? ⟨(a.add (k * 2)).block, (a.add (k * 2)).off + 1, none⟩ = some (.int .u64 (v : Int)) := by rw [add_next]; exact c2
      have k30 : (k : Int) ≤ 30 := by have := h30.out; omega
      have kn : (0 : Int) ≤ (k : Int) := by omega
      by_cases f : k = 30
      · have FIN : Hid (CellsPost w cs N (.returned (.tuple #[u4, u5])) (wr.alloc (.cells #[.int .u8 sz, .int .u64 v] 64))) := by
          have e : N = k := by have := HN.out; omega
          rw [e]
          exact ⟨u4, u5, rfl, World.ownsRow.alloc h.out.own1 _, World.ownsRow.alloc h.out.own2 _, seqB h.out.low (laidB _ _)⟩
        have f1 : ((k : Int) == 30) = true := by rw [f]; rfl
        have f4 : (k == 30) = true := by rw [f]; rfl
        have f5 : decide (k = 30) = true := by rw [f]; rfl
        clear h hk h30 f hsz hv
        go_wp2
        go_ret2
        exact FIN.out
      · have f1 : ((k : Int) == 30) = false := by rw [beq_eq_false_iff_ne]; omega
        obtain ⟨t, ht⟩ : ∃ t, t = sizeT cs k := ⟨_, rfl⟩
        obtain ⟨x, hx⟩ : ∃ x, x = numT cs k := ⟨_, rfl⟩
        have t0 : t = 1 + sz % 8 := by rw [ht, hsz]; rfl
        have e1 : 1 + (sz : Int) % 8 = (t : Int) := by omega
        have t1 : (1 : Int) ≤ (t : Int) := by omega
        have t8 : (t : Int) ≤ 8 := by omega
        have e2 : (v : Int) / 2 ^ (64 - 8 * t) = (x : Int) := by
          rw [hx]
          show _ = ((((cs.getD k (0, 0)).2 / 2 ^ (64 - 8 * sizeT cs k) : Nat)) : Int)
          rw [← hv, ← ht, Int.natCast_ediv]
          simp
        have ez : (wr.alloc (.cells #[.int .u8 sz, .int .u64 v] 64)).heap.size = wr.heap.size + 1 := by simp
        have D1 : Hid (∀ j u, [Value.int .i64 (t : Int)][j]? = some u → ((wr.alloc (.cells #[.int .u8 sz, .int .u64 v] 64)).alloc (.cells #[.int .i64 (t : Int)] 3)).cell? ((⟨wr.heap.size + 1, 0, none⟩ : Addr).add j) = some u) := by
          have d := one_new8 (wr.alloc (.cells #[.int .u8 sz, .int .u64 v] 64)) (.int .i64 (t : Int)) 3
          rw [ez] at d
          exact d
        have BM : Hid (k + 1 ≤ maxLen) := by unfold Hid maxLen; have := h30.out; omega
        have BY : Hid ((k + 1) * 8 ≤ 140737488355328) := by unfold Hid; have := h30.out; omega
        have BS : Hid (w.heap.size ≤ ((wr.alloc (.cells #[.int .u8 sz, .int .u64 v] 64)).alloc (.cells #[.int .i64 (t : Int)] 3)).heap.size) := by unfold Hid; simp; have := h.out.low.size; omega
        have HT := Lib.hid ht
        have HX := Lib.hid hx
        have E2 := Lib.hid e2
        have G := Lib.hid g
        have T0 := Lib.hid t0
        have F := Lib.hid f
        clear ht hx e2 g t0 hsz hv f
        go_wp2_with (at_builtin; refine wpList_append_own _ rfl _ _ 22 rfl w.heap.size 3 i0 (.int .i64 0) 1 8 Try.underlying22 hi hz0 hz1 hz2 rfl (by decide) _ _ _ rfl (World.ownsRow.alloc (World.ownsRow.alloc h.out.own1 _) _) ⟨wr.heap.size + 1, 0, none⟩ 1 1 [.int .i64 (t : Int)] rfl rfl D1.out (one_int _ _) BM.out BY.out BS.out ?_)
        intro v' w1 o1 g1 _
        have cN : w1.cell? ⟨wr.heap.size, 1, none⟩ = some (.int .u64 (v : Int)) := by
          refine World.grownBy.cell g1 ?_ ?_
          · simp [go_sem]
          · intro e
            have l := (World.ownsRow.lt h.out.own1 wr.heap.size e.symm).2
            omega
        have P1 := grel_one h.out (by rw [← HT.out]; exact o1) g1
        have P := Lib.hid P1
        have e2' := E2.out
        have BS2 : Hid (w.heap.size ≤ (w1.alloc (.cells #[.int .u64 (x : Int)] 40)).heap.size) := by unfold Hid; simp; have := P1.2.2.size; omega
        clear o1 g1 P1
        go_wp2_with (at_builtin; refine wpList_append_own _ rfl _ _ 23 rfl w.heap.size 40 j0 (.int .u64 0) 1 8 Try.underlying23 gi gz0 gz1 gz2 rfl (by decide) _ _ _ rfl (World.ownsRow.alloc P.out.2.1 _) ⟨w1.heap.size, 0, none⟩ 1 1 [.int .u64 (x : Int)] rfl rfl (one_new8 w1 _ _) (one_int _ _) BM.out BY.out BS2.out ?_)
        intro v2' w2 o2 g2 _
        have NX : Hid (GRel w w2 cs v' v2' (k + 1)) := grel_two P.out.1 P.out.2.1 P.out.2.2 (by rw [← HX.out]; exact o2) g2
        have K3 : Hid (k + 1 ≤ 30) := by unfold Hid; have := h30.out; have := F.out; omega
        clear o2 g2 h
        go_wp2
        go_roundw
        case rel => exact ⟨k + 1, by go_num, G.out, K3.out, NX.out⟩
        case measure => simp [intOf]; omega
    · have g' : (n : Int) ≤ (k : Int) := by omega
      have FIN : Hid (CellsPost w cs N (.returned (.tuple #[u4, u5])) wr) := by
        have e : N = k := by have := HN.out; have := hk.out; have := h30.out; omega
        rw [e]
        exact ⟨u4, u5, rfl, h.out.own1, h.out.own2, h.out.low⟩
      clear h hk h30
      go_wp2
      go_ret2
      exact FIN.out
end Go.Proofs.Ytpamnephndoefaa
