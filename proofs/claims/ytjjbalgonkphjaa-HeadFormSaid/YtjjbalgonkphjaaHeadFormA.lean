/- What the walk of HeadForm begins with. (Written by wip/tools/genheadform.py.) -/
import Derived.Test.YtjjbalgonkphjaaHeadP
import Derived.Test.YtjjbalgonkphjaaHeadF
import Derived.Test.YtjjbalgonkphjaaHeadQ
import Derived.Test.YtjjbalgonkphjaaAppendM
import Derived.Test.YtjjbalgonkphjaaStrN
import Derived.LoopTactic
import Derived.Deep.QuietTactic
import Derived.BigQuiet
namespace Go.Proofs.Ytjjbalgonkphjaa
open Go.ChangeShapes Go.WideShapes Go.ChangeAt Go.RowKit OctM

/-- What is told of a head's bytes with bytes behind. -/
theorem told_bytes (h : Hd) (hw : h.wf) (hm : mayH h) {bh : List Nat} (hy : Byt bh) (hn : bh.length ≤ 100) : Told (bytesH h ++ bh) h bh.length bh 0 := by
  have l : (bytesH h ++ bh).length = 48 + bh.length := by rw [List.length_append, bytesH_len]
  have t := told_ok (byt_append (bytesH_byt h) hy) (by rw [l]; omega) (by rw [l]; omega) (by rw [hdP_bytes h hw hm]; exact hm)
  rw [hdP_bytes h hw hm, l, show 48 + bh.length - 48 = bh.length by omega] at t
  rwa [show (bytesH h ++ bh).drop 48 = bh by rw [← bytesH_len h, List.drop_left]] at t

/-- What every way begins with. -/
structure FormIn (w : World) (h : Hd) (p1 p2 : Option Addr) (n1 c1 m1 n2 c2 m2 : Nat) (bh ds : List Nat) : Prop where
  hw : h.wf
  k1 : ∀ w', Below w.heap.size w w' → Holds w' p1 m1 c1 (valsN .u8 bh)
  k2 : ∀ w', Below w.heap.size w w' → Holds w' p2 m2 c2 (valsN .u8 ds)
  y1 : Byt bh
  y2 : Byt ds
  l1 : bh.length = m1
  l2 : ds.length = m2
  e1 : min (n1 : Int) 100 = (m1 : Int)
  e2 : min (n2 : Int) 100 = (m2 : Int)
  q1 : (m1 : Int) ≤ (c1 : Int)
  q2 : (m2 : Int) ≤ (c2 : Int)
  b1 : m1 ≤ 100
  b2 : m2 ≤ 100

end Go.Proofs.Ytjjbalgonkphjaa
