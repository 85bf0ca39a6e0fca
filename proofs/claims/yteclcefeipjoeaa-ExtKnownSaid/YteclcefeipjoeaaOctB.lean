/- Layer 3 (octet): the program's places, one behind the other; what Lay's row holds, number by number. -/
import Derived.Test.YteclcefeipjoeaaOctQ
namespace Go.Proofs.Yteclcefeipjoeaa
open Go.ChangeShapes Go.WideShapes Go.ChangeAt Go.RowKit OctM

theorem pplaces_any (w : World) (a : Option Addr) (len cap : Nat) :
    Calls Try.prog 40 #[.slice a len cap] w fun e w' => e = .returned (.func (.func 44) #[] #[.pointer (some ⟨w.heap.size, 0, none⟩), .pointer (some ⟨w.heap.size + 1, 0, none⟩)]) ∧
      w' = (w.alloc (.cells #[.slice a len cap] 25)).alloc (.cells #[.int .i64 0] 3) := by
  go_enter Try.func40, Try.ntmps40
  go_wp2
  go_ret
  exact ⟨rfl, rfl⟩

theorem pnext_any (W : World) (B0 B1 : Nat) (a : Addr) (n c t s : Nat) (b0 : Boxed W B0 25 (.slice (some a) n c)) (b1 : Boxed W B1 3 (.int .i64 (t : Int))) (h : t + s ≤ n) (h1 : 1 ≤ s) (hc : n ≤ c) (hn : n ≤ 100000) :
    Calls Try.prog 44 #[.int .i64 s, .pointer (some ⟨B0, 0, none⟩), .pointer (some ⟨B1, 0, none⟩)] W fun e w' => e = .returned (.slice (some (a.add t)) s (c - t)) ∧
      w' = W.setCell ⟨B1, 0, none⟩ (.int .i64 ((t + s : Nat) : Int)) := by
  have c0 := b0.cell
  have c1 := b1.cell
  have f1 := b1.frozen
  have d3 : (t : Int) ≤ (n : Int) := by omega
  have d5 : (t : Int) + (s : Int) ≤ (c : Int) := by omega
  have d6 : ¬ c = t := by omega
  have d7 : (n : Int) ≤ 100000 := by omega
  have d8 : (t : Int) + (s : Int) ≤ 100000 := by omega
  have E : t + s - t = s := by omega
  have EE := Lib.hid E
  clear h h1 hc hn b0 b1 E
  go_enter Try.func44, Try.ntmps44
  go_wp2
  go_ret
  refine ⟨?_, rfl⟩
  show Ending.returned (.slice (some (a.add t)) (t + s - t) (c - t)) = _
  rw [EE.out]

/-- What Lay's row holds where k numbers are laid: block w.heap.size, the two boxes behind it. -/
structure PL (w wr : World) (zs : List Int) (xs : List Nat) (L k : Nat) : Prop where
  row : ∃ cs : Array Value, wr.heap[w.heap.size]? = some (.cells cs 5 (0, 0)) ∧ cs.size = L ∧ ∀ i, i < atT zs k → cs[i]? = some (.int .u8 ((layT zs xs k).getD i 0 : Nat))
  b0 : Boxed wr (w.heap.size + 1) 25 (.slice (some ⟨w.heap.size, 0, none⟩) L L)
  b1 : Boxed wr (w.heap.size + 1 + 1) 3 (.int .i64 (atT zs k : Int))
  low : Below w.heap.size w wr

theorem pl_start (w : World) (zs : List Int) (xs : List Nat) (C : Array Value) (L : Nat) (hC : C.size = L) :
    PL w (((w.alloc (.cells C 5)).alloc (.cells #[.slice (some ⟨w.heap.size, 0, none⟩) L L] 25)).alloc (.cells #[.int .i64 0] 3)) zs xs L 0 := by
  have b0 := Boxed.new (w.alloc (.cells C 5)) 25 (.slice (some ⟨w.heap.size, 0, none⟩) L L)
  rw [World.size_alloc] at b0
  have b1 := Boxed.new ((w.alloc (.cells C 5)).alloc (.cells #[.slice (some ⟨w.heap.size, 0, none⟩) L L] 25)) 3 (.int .i64 0)
  rw [World.size_alloc, World.size_alloc] at b1
  refine ⟨⟨C, ?_, hC, fun i hi => ?_⟩, b0.alloc _, b1, (((Below.refl _ w).alloc (Nat.le_refl _) _).alloc (by simp) _).alloc (by simp; omega) _⟩
  · exact (Below.heap_alloc _ _ _ (by simp; omega)).trans ((Below.heap_alloc _ _ _ (by simp)).trans (heap_alloc_new w _))
  · exact absurd hi (by unfold atT; simp [sumI])

theorem pl_next {w wr w2 : World} {zs : List Int} {xs : List Nat} {L k s x : Nat} {cs : Array Value} (h : PL w wr zs xs L k) (ok : okAll zs) (hk : k < zs.length) (hx : xs.getD k 0 = x) (hs : (zs.getD k 0).toNat = s)
    (hb : wr.heap[w.heap.size]? = some (.cells cs 5 (0, 0))) (g : Wrote (wr.setCell ⟨w.heap.size + 1 + 1, 0, none⟩ (.int .i64 ((atT zs k + s : Nat) : Int))) w.heap.size (atT zs k) s x cs w2) : PL w w2 zs xs L (k + 1) := by
  obtain ⟨cs', hb', hz, hi⟩ := h.row
  rw [hb] at hb'
  obtain rfl : cs = cs' := by injection hb' with e; injection e
  obtain ⟨cs2, h2, z2, i2⟩ := g.row
  have a1 := atT_succ ok hk
  rw [hs] at a1
  have ll : (layT zs xs k).length = atT zs k := by
    have a := layT_len zs xs k ok (by omega)
    have b := atT_int ok (k := k) (by omega)
    omega
  have kept : ∀ {B : Nat} {t : TypeId} {v : Value}, w.heap.size < B → Boxed (wr.setCell ⟨w.heap.size + 1 + 1, 0, none⟩ (.int .i64 ((atT zs k + s : Nat) : Int))) B t v → Boxed w2 B t v := fun hB hv => hv.kept g.gr (fun e => by injection e with e; omega)
  refine ⟨⟨cs2, h2, z2.trans hz, fun i hi' => ?_⟩, kept (by omega) (boxed_set h.b0 (by simp)), ?_, ?_⟩
  · rw [i2 i, layT_succ, hx, hs]
    by_cases e : i < atT zs k
    · rw [if_neg (by omega), hi i e, List.getD_eq_getElem?_getD, List.getD_eq_getElem?_getD, List.getElem?_append_left (by omega)]
    · rw [if_pos (by omega), List.getD_eq_getElem?_getD, List.getD_eq_getElem?_getD, List.getElem?_append_right (by omega), ll]
  · rw [a1]
    exact kept (by omega) (h.b1.set _)
  · refine (h.low.setCell (p := ⟨w.heap.size + 1 + 1, 0, none⟩) (by simp; omega) _).grown g.gr (by simpa using h.low.size) (fun j e => by injection e with e; omega)

theorem pl_end {w wr : World} {zs : List Int} {xs : List Nat} {L : Nat} (h : PL w wr zs xs L zs.length) (ok : okAll zs) (hL : atT zs zs.length = L) (hm : L ≤ 100000) :
    RowPost w L (layT zs xs zs.length) (.returned (.tuple #[.slice (some ⟨w.heap.size, 0, none⟩) L L, .int .i64 0])) wr := by
  obtain ⟨cs, hb, hz, hi⟩ := h.row
  have ll : (layT zs xs zs.length).length = L := by
    have a := layT_len zs xs zs.length ok (Nat.le_refl _)
    have b := atT_int ok (k := zs.length) (Nat.le_refl _)
    omega
  have e : cs.toList = valsN .u8 (layT zs xs zs.length) := by
    apply List.ext_getElem?
    intro i
    rw [Array.getElem?_toList]
    by_cases g : i < L
    · rw [hi i (by omega), valsN_get (by omega)]
    · rw [Array.getElem?_eq_none (by omega), List.getElem?_eq_none (by rw [valsN_len]; omega)]
  have o := own_of_blk (B := w.heap.size) hb hz (by unfold maxLen; omega) (Nat.le_refl _)
  rw [e] at o
  exact ⟨_, rfl, o, h.low⟩
end Go.Proofs.Yteclcefeipjoeaa

