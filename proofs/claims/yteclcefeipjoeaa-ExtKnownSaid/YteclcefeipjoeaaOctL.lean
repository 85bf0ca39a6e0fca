/- Contracts of the document's own answers for layer 3 (octet): rows laid. -/
import Derived.Test.YteclcefeipjoeaaOctP
import Derived.Deep.RegionHeld3
namespace Go.Proofs.Yteclcefeipjoeaa
open Go.ChangeShapes Go.WideShapes Go.ChangeAt Go.RowKit OctM

structure LRel (w wr : World) (zs : List Int) (xs : List Nat) (v : Value) (L k : Nat) : Prop where
  own : wr.ownsRow w.heap.size 5 1 v L (valsN .u8 (layT zs xs k))
  low : Below w.heap.size w wr
  len : L = (layT zs xs k).length
  fit : fitT zs xs k

/-- What Lay leaves: the row, or ErrRange. -/
def LayPost (w : World) (n L : Nat) (zs : List Int) (xs : List Nat) (e : Ending) (w' : World) : Prop :=
  (fitT zs xs n ∧ RowPost w L (layT zs xs n) e w') ∨ (¬ fitT zs xs n ∧ TellPost w (.returned (.tuple #[.slice none 0 0, .int .i64 20])) e w')

theorem lrel_next {w wr w1 w2 : World} {zs : List Int} {xs : List Nat} {v v' : Value} {L k s x : Nat} (h : LRel w wr zs xs v L k) (hx : xs.getD k 0 = x) (hs : (zs.getD k 0).toNat = s) (hf : x < 256 ^ s) (hb : Below wr.heap.size wr w1)
    (ho : w2.ownsRow w.heap.size 5 1 v' (L + s) (valsN .u8 (layT zs xs k) ++ valsN .u8 (digN x s))) (hg : w1.grownBy w2 v.ownBlock) : LRel w w2 zs xs v' (L + s) (k + 1) := by
  refine ⟨?_, (h.low.trans (hb.mono h.low.size)).grown hg (Nat.le_trans h.low.size hb.size) (fun j hj => (World.ownsRow.lt h.own j hj).1), ?_, fun i hi => ?_⟩
  · rw [layT_succ, hx, hs, valsN_append]; exact ho
  · rw [layT_succ, hx, hs, List.length_append, digN_len, ← h.len]
  · by_cases e : i = k
    · subst e; rw [hx, hs]; exact hf
    · exact h.fit i (by omega)

end Go.Proofs.Yteclcefeipjoeaa

