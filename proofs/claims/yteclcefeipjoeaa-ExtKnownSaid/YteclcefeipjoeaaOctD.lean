/- Contracts of the document's own answers for layer 3 (octet): a number's digits, in new memory. -/
import Derived.Test.YteclcefeipjoeaaOctR
import Derived.Laws.MakeOwn
namespace Go.Proofs.Yteclcefeipjoeaa
open Go.ChangeShapes Go.WideShapes Go.ChangeAt Go.RowKit OctM

theorem info8 : (Try.prog.info? 5).map (fun i => (i.zero, i.size, i.bytes)) = some (some (.int .u8 0), 1, 1) := by kernel_rfl
theorem info_of {o : Option TypeInfo} {z : Option Value} {s b : Nat} (h : o.map (fun i => (i.zero, i.size, i.bytes)) = some (z, s, b)) : ∃ i, o = some i ∧ i.zero = z ∧ i.size = s ∧ i.bytes = b := by
  obtain ⟨i, hi, h⟩ := Option.map_eq_some_iff.1 h
  simp only [Prod.mk.injEq] at h
  exact ⟨i, hi, h.1, h.2.1, h.2.2⟩

/-- New bytes, nothing in them. -/
theorem make8 (s : Nat) (hs : s ≤ 1000000) : ∃ C : Array Value, C.size = s ∧ ∀ w, (Instr.makeSlice 25 (.int .i64 (s : Int)) (.int .i64 (s : Int))).run Try.prog w = .ok (.slice (some ⟨w.heap.size, 0, none⟩) s s) (w.alloc (.cells C 5)) := by
  obtain ⟨i, hi, h0, h1, h2⟩ := info_of info8
  refine ⟨madeCells #[Value.int .u8 0] s, size_madeCells _ _, fun w => ?_⟩
  have r := run_make (P := Try.prog) w 25 5 i (.int .u8 0) Try.underlying25 hi h0 .i64 .i64 (s : Int) (s : Int) (by omega) (by omega) (by rw [h2]; omega) (by omega)
  rw [h1, Int.toNat_natCast, Nat.mul_one] at r
  exact r

structure DRel (w wr : World) (n s j m : Nat) (cs : Array Value) : Prop where
  blk : wr.heap[w.heap.size]? = some (.cells cs 5 (0, 0))
  low : Below w.heap.size w wr
  siz : cs.size = s
  top : j ≤ s
  num : n / 256 ^ (s - j) = m
  dig : ∀ i, j ≤ i → i < s → cs[i]? = some (.int .u8 ((digN n s).getD i 0 : Nat))

theorem drel_step {w wr : World} {n s j m : Nat} {cs : Array Value} (h : DRel w wr n s (j + 1) m cs) : DRel w (wr.setCell ⟨w.heap.size, j, none⟩ (.int .u8 (m % 256 : Nat))) n s j (m / 256) (cs.set! j (.int .u8 (m % 256 : Nat))) := by
  have t := h.top
  refine ⟨blk_set h.blk, h.low.setCell (Nat.le_refl _) _, by rw [Array.set!_eq_setIfInBounds, Array.size_setIfInBounds]; exact h.siz, by omega, ?_, fun i hi hs => ?_⟩
  · rw [← h.num, div_step, show s - (j + 1) + 1 = s - j by omega]
  · rw [Array.set!_eq_setIfInBounds, Array.getElem?_setIfInBounds]
    by_cases e : j = i
    · subst e
      have z := h.siz
      rw [if_pos rfl, if_pos (by omega), dig_at _ _ _ hs, show s - 1 - j = s - (j + 1) by omega, h.num]
    · rw [if_neg e]
      exact h.dig i (by omega) hs

theorem drel_end {w wr : World} {n s m : Nat} {cs : Array Value} (h : DRel w wr n s 0 m cs) : cs.toList = valsN .u8 (digN n s) ∧ n / 256 ^ s = m := by
  refine ⟨?_, h.num⟩
  apply List.ext_getElem?
  intro i
  rw [Array.getElem?_toList]
  by_cases g : i < s
  · rw [h.dig i (Nat.zero_le _) g, valsN_get (by rw [digN_len]; exact g)]
  · rw [Array.getElem?_eq_none (by rw [h.siz]; omega), List.getElem?_eq_none (by rw [valsN_len, digN_len]; omega)]

/-- What Digits leaves: new bytes that hold the digits. -/
structure DPost (w : World) (n s : Nat) (e : Ending) (w' : World) : Prop where
  out : ∃ cs, e = .returned (.tuple #[.slice (some ⟨w.heap.size, 0, none⟩) s s, .bool (decide (n < 256 ^ s))]) ∧ w'.heap[w.heap.size]? = some (.cells cs 5 (0, 0)) ∧ cs.toList = valsN .u8 (digN n s) ∧ Below w.heap.size w w'

end Go.Proofs.Yteclcefeipjoeaa

