/- Contracts of the document's own answers for layer 3 (octet): signed numbers. -/
import Derived.Test.YteclcefeipjoeaaOctA
namespace Go.Proofs.Yteclcefeipjoeaa
open Go.ChangeShapes Go.WideShapes Go.ChangeAt Go.RowKit OctM

structure CRel (w wr : World) (ds : List Nat) (s k : Nat) (cs : Array Value) : Prop where
  blk : wr.heap[w.heap.size]? = some (.cells cs 5 (0, 0))
  low : Below w.heap.size w wr
  siz : cs.size = s
  dig : ∀ i, i < s → cs[i]? = some (.int .u8 (if i < k then (255 - ds.getD i 0 : Nat) else (ds.getD i 0 : Nat)))

theorem crel_start {w w1 : World} {ds : List Nat} {s : Nat} {cs : Array Value} (hb : w1.heap[w.heap.size]? = some (.cells cs 5 (0, 0))) (hl : Below w.heap.size w w1) (hc : cs.toList = valsN .u8 ds) (hs : ds.length = s) : CRel w w1 ds s 0 cs := by
  have e : cs.size = s := by rw [← Array.length_toList, hc, valsN_len, hs]
  refine ⟨hb, hl, e, fun i hi => ?_⟩
  rw [if_neg (by omega), ← Array.getElem?_toList, hc, valsN_get (by omega)]
theorem crel_step {w wr : World} {ds : List Nat} {s k : Nat} {cs : Array Value} (h : CRel w wr ds s k cs) (hk : k < s) : CRel w (wr.setCell ⟨w.heap.size, k, none⟩ (.int .u8 (255 - ds.getD k 0 : Nat))) ds s (k + 1) (cs.set! k (.int .u8 (255 - ds.getD k 0 : Nat))) := by
  refine ⟨blk_set h.blk, h.low.setCell (Nat.le_refl _) _, by rw [Array.set!_eq_setIfInBounds, Array.size_setIfInBounds]; exact h.siz, fun i hi => ?_⟩
  rw [Array.set!_eq_setIfInBounds, Array.getElem?_setIfInBounds]
  by_cases e : k = i
  · subst e
    have z := h.siz
    rw [if_pos rfl, if_pos (by omega), if_pos (by omega)]
  · rw [if_neg e, h.dig i hi]
    by_cases g : i < k
    · rw [if_pos g, if_pos (by omega)]
    · rw [if_neg g, if_neg (by omega)]
theorem crel_end {w wr : World} {ds : List Nat} {s : Nat} {cs : Array Value} (h : CRel w wr ds s s cs) (hs : ds.length = s) (hm : s ≤ 8) : Holds wr (some ⟨w.heap.size, 0, none⟩) s s (valsN .u8 (flip ds)) := by
  have e : cs.toList = valsN .u8 (flip ds) := by
    apply List.ext_getElem?
    intro i
    rw [Array.getElem?_toList]
    by_cases g : i < s
    · rw [h.dig i g, if_pos g, valsN_get (by rw [flip_len]; omega), flip_get _ _ (by omega)]
    · rw [Array.getElem?_eq_none (by rw [h.siz]; omega), List.getElem?_eq_none (by rw [valsN_len, flip_len]; omega)]
  have o := own_of_blk h.blk h.siz (by unfold maxLen; omega) (Nat.zero_le _)
  rw [e] at o
  obtain ⟨p, c, hv, hh⟩ := own_holds o
  cases hv
  exact hh

/-- What a call leaves that lays new memory alone, and answers e. -/
def TellPost (w : World) (x : Ending) (e : Ending) (w' : World) : Prop := e = x ∧ Below w.heap.size w w'

end Go.Proofs.Yteclcefeipjoeaa

