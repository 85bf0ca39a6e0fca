/- Contracts of the document's own answers for layer 1: numbers with a sign: trimmed, of an int64, as an int64. -/
import Derived.Test.YtokhlagcflkocaaBigB
namespace Go.Proofs.Ytokhlagcflkocaa
open Go.ChangeShapes Go.WideShapes Go.ChangeAt Go.RowKit BigM

/-- A number with a sign: its sign, and a row of digits without zeros at the high end. -/
structure BigIs (w : World) (x : Value) (m : Bool) (n L : Nat) : Prop where
  out : ∃ v ds, x = .agg #[.bool m, v] ∧ Own w v ds ∧ Dig ds ∧ Canon ds ∧ val ds = n ∧ ds.length ≤ L

structure BigPost (w : World) (m : Bool) (n L : Nat) (e : Ending) (w' : World) : Prop where
  out : ∃ x, e = .returned x ∧ BigIs w' x m n L ∧ Below w.heap.size w w'

/-- A row, cut at its end. -/
theorem own_cut {B : Nat} {w : World} {p : Option Addr} {n c : Nat} {ds : List Nat} (h : OwnAt B w (.slice p n c) ds) (k : Nat) (hk : k ≤ ds.length) (h0 : p ≠ none) : OwnAt B w (.slice p k c) (ds.take k) := by
  have hl : (ds.take k).length = k := by rw [List.length_take]; omega
  refine ⟨by rw [List.length_map, Nat.mul_one], ?_⟩
  rcases h.2 with ⟨e, _⟩ | ⟨g, cap, cur, e, hb, hg, h1, h2, h3, h4⟩
  · injection e with e1 _ _; exact absurd e1 h0
  · injection e with e1 e2 e3
    subst e1 e2 e3
    refine .inr ⟨g, c, cur, by rw [hl], hb, hg, by rw [hl]; omega, h2, h3, ?_⟩
    rw [hl, Nat.mul_one, List.map_take, ← h4, Nat.mul_one, List.take_take]; congr 1; omega

theorem own_cap {B : Nat} {w : World} {p : Option Addr} {n c : Nat} {ds : List Nat} (h : OwnAt B w (.slice p n c) ds) : ds.length ≤ c ∧ c ≤ maxLen := by
  rcases h.2 with ⟨e, h2⟩ | ⟨g, cap, cur, e, hb, hg, h1, h2, h3, h4⟩
  · rw [h2]; exact ⟨Nat.zero_le _, by injection e with _ _ e3; rw [e3]; exact Nat.zero_le _⟩
  · injection e with _ _ e3
    subst e3
    exact ⟨h1, h2⟩

/-- How long the slice is that a cell holds: for a loop's measure. -/
def lenAt (w : World) (a : Addr) : Nat := match w.cell? a with | some (.slice _ n _) => n | _ => 0

set_option maxHeartbeats 2000000 in
theorem trim_any (w : World) (m : Bool) (v : Value) (ds : List Nat) (o : Own w v ds) (hd : Dig ds) (hl : ds.length ≤ 1000) :
    Calls Try.prog 47 #[.agg #[.bool m, v]] w (BigPost w (m && decide (val ds ≠ 0)) (val ds) ds.length) := by
  obtain ⟨n, hn⟩ : ∃ n, n = ds.length := ⟨_, rfl⟩
  obtain ⟨p, c, rfl⟩ := own_len o hn
  have O := Lib.hid o
  have HD := Lib.hid hd
  have HN := Lib.hid hn
  have n1 : n ≤ 1000 := by omega
  clear o hd hn hl
  go_enter Try.func47, Try.ntmps47
  go_wp2
  go_loopw [] (fun wr => ∃ k, Hid (k ≤ n) ∧ Hid (val (ds.take k) = val ds) ∧ wr = (w.alloc (.cells #[.bool m, .slice p k c] 54)).alloc (.cells #[.bool false, .slice none 0 0] 54)) (fun wr => lenAt wr ⟨w.heap.size, 1, none⟩)
  case atStart => exact ⟨n, Nat.le_refl _, by unfold Hid; rw [HN.out, List.take_length], rfl⟩
  case round =>
    obtain ⟨k, hk, hv, rfl⟩ := hrel
    rcases k with _ | j
    · have v0 : val ds = 0 := by have := hv.out; simp [val] at this; omega
      have fin : BigPost w (m && decide (val ds ≠ 0)) (val ds) ds.length (.returned (.agg #[.bool false, .slice p 0 c])) ((w.alloc (.cells #[.bool false, .slice p 0 c] 54)).alloc (.cells #[.bool false, .slice p 0 c] 54)) := by
        have hb : Below w.heap.size w ((w.alloc (.cells #[.bool false, .slice p 0 c] 54)).alloc (.cells #[.bool false, .slice p 0 c] 54)) := ((Below.refl _ _).alloc (Nat.le_refl _) _).alloc (by simp) _
        have e : (m && decide (val ds ≠ 0)) = false := by simp [v0]
        rw [e, v0]
        have ow : Own w (.slice p 0 c) [] := by
          rcases own_shape O.out with ⟨h1, h2⟩ | ⟨g, cap, h1, _⟩
          · injection h1 with e1 e2 e3
            subst e1 e3
            exact own_nil _ _
          · injection h1 with e1 _ _
            subst e1
            exact own_cut O.out 0 (Nat.zero_le _) (by simp)
        exact ⟨_, rfl, ⟨_, [], rfl, own_below ow hb, by intro d hd; simp at hd, canon_nil, rfl, by simp⟩, hb⟩
      have FIN := Lib.hid fin
      clear fin v0
      go_wp2
      exact bodyPost_ret (v := .agg #[.bool false, .slice p 0 c]) (by simp [results, Try.results47, go_sem]) rfl FIN.out
    · have jn : j + 1 ≤ ds.length := by have := hk.out; have := HN.out; omega
      obtain ⟨z, hz⟩ : ∃ z, ds.getD j 0 = z := ⟨_, rfl⟩
      obtain ⟨g, rfl, hc⟩ := own_cell O.out (by omega : j < ds.length) hz
      have hg : g < w.heap.size := World.block_lt_of_cell? w _ hc
      have j1 : (j : Int) ≤ 1000 := by have := hk.out; omega
      have j2 : (j : Int) < ((j + 1 : Nat) : Int) := by omega
      have jc : j ≤ c := by have := (own_cap O.out).1; omega
      by_cases hz0 : z = 0
      · subst hz0
        have HV : Hid (val (ds.take j) = val ds) := by unfold Hid; rw [trim_step hz]; exact hv.out
        have HK : Hid (j ≤ n) := by unfold Hid; have := hk.out; omega
        clear hz jn
        go_wp2
        go_roundw
        case rel => exact ⟨j, HK, HV, rfl⟩
        case measure => simp [lenAt, go_sem]
      · have fin : BigPost w (m && decide (val ds ≠ 0)) (val ds) ds.length (.returned (.agg #[.bool m, .slice (some ⟨g, 0, none⟩) (j + 1) c])) ((w.alloc (.cells #[.bool m, .slice (some ⟨g, 0, none⟩) (j + 1) c] 54)).alloc (.cells #[.bool m, .slice (some ⟨g, 0, none⟩) (j + 1) c] 54)) := by
          have hb : Below w.heap.size w ((w.alloc (.cells #[.bool m, .slice (some ⟨g, 0, none⟩) (j + 1) c] 54)).alloc (.cells #[.bool m, .slice (some ⟨g, 0, none⟩) (j + 1) c] 54)) := ((Below.refl _ _).alloc (Nat.le_refl _) _).alloc (by simp) _
          have cn := canon_take jn (by rw [hz]; exact hz0)
          have v1 : val ds ≠ 0 := by
            rw [← hv.out]
            intro h
            have := (canon_zero cn).1 h
            have l : (ds.take (j + 1)).length = 0 := by rw [this]; rfl
            rw [List.length_take] at l
            omega
          have e : (m && decide (val ds ≠ 0)) = m := by simp [v1]
          rw [e]
          exact ⟨_, rfl, ⟨_, ds.take (j + 1), rfl, own_below (own_cut O.out (j + 1) jn (by simp)) hb, fun d hd => HD.out d (List.mem_of_mem_take hd), cn, hv.out, by rw [List.length_take]; omega⟩, hb⟩
        have FIN := Lib.hid fin
        have t1 : ((z : Int) == 0) = false := by rw [beq_eq_false_iff_ne]; omega
        clear fin hz jn
        go_wp2
        exact bodyPost_ret (v := .agg #[.bool m, .slice (some ⟨g, 0, none⟩) (j + 1) c]) (by simp [results, Try.results47, go_sem]) rfl FIN.out
end Go.Proofs.Ytokhlagcflkocaa

