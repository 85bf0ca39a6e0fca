/- Layer 7's laws: one packet of few fields in its box. -/
import Derived.Test.YtfnidehbibfclaaPktN
import Derived.Test.YtfnidehbibfclaaPktK
set_option maxRecDepth 100000
namespace Go.Proofs.Ytfnidehbibfclaa
open Go.ChangeShapes Go.WideShapes Go.ChangeAt Go.RowKit OctM

/-- A packet that says K in its box. -/
structure One (w wx : World) (N : Nat) (K : Pak) (h : Hd) (x : Xt) (fs : List Fld) : Prop where
  i : Pk wx h x fs K
  bi : wx.heap[N]? = some (.cells (pkC h x) 27 (0, 0))
  low : Below w.heap.size w wx
theorem One.below {w wx wy : World} {N : Nat} {K : Pak} {h : Hd} {x : Xt} {fs : List Fld} (o : One w wx N K h x fs) (b : Below wx.heap.size wx wy) : One w wy N K h x fs := ⟨o.i.below b, pk_keep o.bi b, o.low.trans (b.mono o.low.size)⟩
theorem one_meet {w w1 : World} {N B : Nat} {K : Pak} {h1 h0 : Hd} {x1 x0 : Xt} {fs : List Fld} {n1 : Nat} (dx : DataX w fs) (hN : w.heap.size ≤ N) (hB : N < B) (I1 : Pk w1 h1 x1 ((fs.take n1).map cutF) K) (p1 : ∀ a, x1.p = some a → B ≤ a.block)
    (l1 : Below w.heap.size w w1) (b1 : w1.heap[N]? = some (.cells (pkC h0 x0) 27 (0, 0))) :
    One w (w1.setRow N (pkC h1 x1)) N K h1 x1 ((fs.take n1).map cutF) := by
  have low : Below w.heap.size w (w1.setRow N (pkC h1 x1)) := Below.setRow l1 hN _
  exact ⟨I1.far (B := B) (fun j hj _ => setRow_other _ _ _ _ (by omega)) p1 (cut_data (dx.below low) n1), setRow_heap _ _ _ _ _ _ b1, low⟩
theorem three_one (w : World) (a b c : Obj) : (((w.alloc a).alloc b).alloc c).heap[w.heap.size]? = some a ∧ (((w.alloc a).alloc b).alloc c).heap[w.heap.size + 1]? = some b ∧ (((w.alloc a).alloc b).alloc c).heap[w.heap.size + 1 + 1]? = some c ∧
    Below w.heap.size w (((w.alloc a).alloc b).alloc c) ∧ (((w.alloc a).alloc b).alloc c).heap.size = w.heap.size + 1 + 1 + 1 := by
  have s1 : (w.alloc a).heap.size = w.heap.size + 1 := by simp
  have s2 : ((w.alloc a).alloc b).heap.size = w.heap.size + 1 + 1 := by simp
  have l1 : Below w.heap.size w (w.alloc a) := (Below.refl _ _).alloc (Nat.le_refl _) a
  have l2 : Below (w.alloc a).heap.size (w.alloc a) ((w.alloc a).alloc b) := (Below.refl _ _).alloc (Nat.le_refl _) b
  have l3 : Below ((w.alloc a).alloc b).heap.size ((w.alloc a).alloc b) (((w.alloc a).alloc b).alloc c) := (Below.refl _ _).alloc (Nat.le_refl _) c
  refine ⟨?_, ?_, ?_, l1.trans ((l2.trans (l3.mono l2.size)).mono l1.size), by simp⟩
  · rw [l3.block _ (by omega), l2.block _ (by omega)]; exact heap_alloc_new w a
  · rw [l3.block _ (by omega), ← s1]; exact heap_alloc_new _ b
  · rw [← s2]; exact heap_alloc_new _ c
end Go.Proofs.Ytfnidehbibfclaa
