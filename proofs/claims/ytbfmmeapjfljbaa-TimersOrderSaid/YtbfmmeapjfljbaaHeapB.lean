/- Layer 13 (heap), the document's own: Ahead, Place, up. -/
import Derived.Test.YtbfmmeapjfljbaaHeapA
import Derived.LoopTactic
import Derived.BigQuiet
import Derived.Deep.RegionHeld3
import Derived.Deep.RegionWith
import Derived.Deep.DeepCutAuto
set_option maxRecDepth 100000
namespace Go.Proofs.Ytbfmmeapjfljbaa
open Go.ChangeShapes Go.WideShapes Go.ChangeAt Go.RowKit HeapM

theorem two_blocks (w : World) (c d : Array Value) (T U : TypeId) :
    Below w.heap.size w ((w.alloc (.cells c T)).alloc (.cells d U)) ∧ ((w.alloc (.cells c T)).alloc (.cells d U)).heap[w.heap.size]? = some (.cells c T (0, 0)) ∧ ((w.alloc (.cells c T)).alloc (.cells d U)).heap[w.heap.size + 1]? = some (.cells d U (0, 0)) ∧ ((w.alloc (.cells c T)).alloc (.cells d U)).heap.size = w.heap.size + 1 + 1 := by
  have B1 : Below w.heap.size w (w.alloc (.cells c T)) := (Below.refl _ _).alloc (Nat.le_refl _) _
  have C1 : (w.alloc (.cells c T)).heap[w.heap.size]? = some (.cells c T (0, 0)) := heap_alloc_new w _
  have s1 : (w.alloc (.cells c T)).heap.size = w.heap.size + 1 := by simp
  generalize w.alloc (.cells c T) = u at *
  have C2 := heap_alloc_new u (.cells d U)
  rw [s1] at C2
  have B2 : Below u.heap.size u (u.alloc (.cells d U)) := (Below.refl _ _).alloc (Nat.le_refl _) _
  exact ⟨B1.trans (B2.mono B1.size), (B2.block _ (by omega)).trans C1, C2, by simp [s1]⟩

/-- A place as Place tells it. -/
def placeI (l : List It) (d : Nat) : Int := match place l d with | some k => (k : Int) | none => -1
end Go.Proofs.Ytbfmmeapjfljbaa

