/- Layer 7's laws: one packet of few fields in its box. -/
import Derived.Test.YtfnidehbibfclaaPktN
import Derived.Test.YtfnidehbibfclaaPktK
set_option maxRecDepth 100000
namespace Go.Proofs.Ytfnidehbibfclaa
open Go.ChangeShapes Go.WideShapes Go.ChangeAt Go.RowKit OctM

/-- A packet that says K in its box. -/
structure One (w wx : World) (N : Nat) (K : Pak) (h : Hd) (x : Xt) (fs : List Fld) : Prop where
  i : Pk wx h x fs K
  bi : wx.heap[N]? = some (.cells (pkC h x) 27 (0, 0))
  low : Below w.heap.size w wx
theorem One.below {w wx wy : World} {N : Nat} {K : Pak} {h : Hd} {x : Xt} {fs : List Fld} (o : One w wx N K h x fs) (b : Below wx.heap.size wx wy) : One w wy N K h x fs := ⟨o.i.below b, pk_keep o.bi b, o.low.trans (b.mono o.low.size)⟩
theorem one_meet {w w1 : World} {N B : Nat} {K : Pak} {h1 h0 : Hd} {x1 x0 : Xt} {fs : List Fld} {n1 : Nat} (dx : DataX w fs) (hN : w.heap.size ≤ N) (hB : N < B) (I1 : Pk w1 h1 x1 ((fs.take n1).map cutF) K) (p1 : ∀ a, x1.p = some a → B ≤ a.block)
    (l1 : Below w.heap.size w w1) (b1 : w1.heap[N]? = some (.cells (pkC h0 x0) 27 (0, 0))) :
    One w (w1.setRow N (pkC h1 x1)) N K h1 x1 ((fs.take n1).map cutF) := by
  have low : Below w.heap.size w (w1.setRow N (pkC h1 x1)) := Below.setRow l1 hN _
  exact ⟨I1.far (B := B) (fun j hj _ => setRow_other _ _ _ _ (by omega)) p1 (cut_data (dx.below low) n1), setRow_heap _ _ _ _ _ _ b1, low⟩
end Go.Proofs.Ytfnidehbibfclaa
