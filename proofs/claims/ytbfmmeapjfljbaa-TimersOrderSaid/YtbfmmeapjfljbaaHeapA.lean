/- Layer 13 (heap): items as values and as cells; rows of items, read and written in place. -/
import Derived.Test.YtbfmmeapjfljbaaHeapN
import Derived.Test.YtbfmmeapjfljbaaSlice
import Derived.Test.YtbfmmeapjfljbaaTurn
import Derived.OneCell
import Derived.Laws.AppendOwn
import Derived.Laws.AppendOwnNone
import Derived.Deep.Heap
namespace Go.Proofs.Ytbfmmeapjfljbaa
open Go.ChangeShapes Go.WideShapes Go.ChangeAt Go.RowKit HeapM

/-- An item's numbers fit. -/
structure ItOk (x : It) : Prop where
  a : x.id < 18446744073709551616
  b : x.seq < 18446744073709551616
  c : -9223372036854775808 ≤ x.t
  d : x.t ≤ 9223372036854775807
def itV (x : It) : Value := .agg #[.int .u64 (x.id : Nat), .int .u64 (x.seq : Nat), .int .i64 x.t]
def itC (x : It) : Array Value := #[.int .u64 (x.id : Nat), .int .u64 (x.seq : Nat), .int .i64 x.t]
def cellsI (l : List It) : List Value := l.flatMap fun x => [.int .u64 (x.id : Nat), .int .u64 (x.seq : Nat), .int .i64 x.t]
theorem cellsI_cons (x : It) (l : List It) : cellsI (x :: l) = .int .u64 (x.id : Nat) :: .int .u64 (x.seq : Nat) :: .int .i64 x.t :: cellsI l := by unfold cellsI; rw [List.flatMap_cons]; rfl
theorem cellsI_app (l m : List It) : cellsI (l ++ m) = cellsI l ++ cellsI m := by unfold cellsI; rw [List.flatMap_append]
theorem cellsI_len (l : List It) : (cellsI l).length = l.length * 3 := by
  induction l with
  | nil => rfl
  | cons f fs ih => rw [cellsI_cons, List.length_cons, List.length_cons, List.length_cons, List.length_cons, ih]; omega
theorem cellsI_one (l : List It) : ∀ u ∈ cellsI l, u.oneCell' = true := by
  intro u hu
  unfold cellsI at hu
  obtain ⟨f, _, hf⟩ := List.mem_flatMap.1 hu
  simp only [List.mem_cons, List.not_mem_nil, or_false] at hf
  rcases hf with rfl | rfl | rfl <;> rfl
theorem cellsI_get : ∀ (l : List It) (i : Nat), i < l.length → (cellsI l)[i * 3]? = some (.int .u64 ((gt l i).id : Nat)) ∧ (cellsI l)[i * 3 + 1]? = some (.int .u64 ((gt l i).seq : Nat)) ∧ (cellsI l)[i * 3 + 2]? = some (.int .i64 (gt l i).t)
  | [], i, h => by simp at h
  | g :: fs, 0, _ => by rw [cellsI_cons]; exact ⟨rfl, rfl, rfl⟩
  | g :: fs, i + 1, h => by
    rw [cellsI_cons, show (i + 1) * 3 = i * 3 + 1 + 1 + 1 by omega]
    exact cellsI_get fs i (by simpa using h)
theorem cellsI_at : ∀ (l : List It) (j : Nat) (u : Value), (cellsI l)[j]? = some u → ∃ i, i < l.length ∧ ((j = i * 3 ∧ u = .int .u64 ((gt l i).id : Nat)) ∨ (j = i * 3 + 1 ∧ u = .int .u64 ((gt l i).seq : Nat)) ∨ (j = i * 3 + 2 ∧ u = .int .i64 (gt l i).t))
  | [], j, u, h => by simp [cellsI] at h
  | f :: fs, j, u, h => by
    rw [cellsI_cons] at h
    rcases j with _ | _ | _ | j
    · exact ⟨0, by simp, .inl ⟨rfl, by injection h with h; exact h.symm⟩⟩
    · exact ⟨0, by simp, .inr (.inl ⟨rfl, by injection h with h; exact h.symm⟩)⟩
    · exact ⟨0, by simp, .inr (.inr ⟨rfl, by injection h with h; exact h.symm⟩)⟩
    · obtain ⟨i, hi, hh⟩ := cellsI_at fs j u h
      refine ⟨i + 1, by simpa using hi, ?_⟩
      rcases hh with ⟨e, eu⟩ | ⟨e, eu⟩ | ⟨e, eu⟩
      · exact .inl ⟨by omega, eu⟩
      · exact .inr (.inl ⟨by omega, eu⟩)
      · exact .inr (.inr ⟨by omega, eu⟩)
theorem cellsI_set : ∀ (l : List It) (k : Nat) (x : It), k < l.length → cellsI (l.set k x) = (((cellsI l).set (k * 3) (.int .u64 (x.id : Nat))).set (k * 3 + 1) (.int .u64 (x.seq : Nat))).set (k * 3 + 2) (.int .i64 x.t)
  | [], k, x, h => by simp at h
  | g :: fs, 0, x, _ => by rw [List.set_cons_zero, cellsI_cons, cellsI_cons]; rfl
  | g :: fs, k + 1, x, h => by
    rw [List.set_cons_succ, cellsI_cons, cellsI_cons, cellsI_set fs k x (by simpa using h), show (k + 1) * 3 = k * 3 + 1 + 1 + 1 by omega]
    rfl

/-- Items behind a slice, as what may be read. -/
structure HoldsI (w : World) (p : Option Addr) (n c : Nat) (l : List It) : Prop where
  len : l.length = n
  cap : n ≤ c
  max : c ≤ maxLen
  bare : p = none → c = 0
  cell : ∀ i, i < n → ∃ a, p = some a ∧ w.cell? (a.add (i * 3)) = some (.int .u64 ((gt l i).id : Nat)) ∧ w.cell? (a.add (i * 3 + 1)) = some (.int .u64 ((gt l i).seq : Nat)) ∧ w.cell? (a.add (i * 3 + 2)) = some (.int .i64 (gt l i).t)
theorem HoldsI.below {w w' : World} {p : Option Addr} {n c : Nat} {l : List It} (h : HoldsI w p n c l) (hb : Below w.heap.size w w') : HoldsI w' p n c l := by
  refine ⟨h.len, h.cap, h.max, h.bare, fun i hi => ?_⟩
  obtain ⟨a, ha, c1, c2, c3⟩ := h.cell i hi
  exact ⟨a, ha, (hb.cell (World.block_lt_of_cell? w _ c1)).trans c1, (hb.cell (World.block_lt_of_cell? w _ c2)).trans c2, (hb.cell (World.block_lt_of_cell? w _ c3)).trans c3⟩
theorem itm_next (a : Addr) (x : Nat) : (⟨(a.add x).block, (a.add x).off + 1, none⟩ : Addr) = a.add (x + 1) ∧ (⟨(a.add x).block, (a.add x).off + 2, none⟩ : Addr) = a.add (x + 2) := by
  unfold Addr.add
  by_cases h : x = 0
  · subst h; simp
  · rw [if_neg h, if_neg (by omega), if_neg (by omega)]
    simp [Nat.add_assoc]
theorem HoldsI.at {w : World} {p : Option Addr} {n c : Nat} {l : List It} (h : HoldsI w p n c l) {i : Nat} (hi : i < n) : ∃ a, p = some a ∧ w.cell? (a.add (i * 3)) = some (.int .u64 ((gt l i).id : Nat)) ∧ w.cell? ⟨(a.add (i * 3)).block, (a.add (i * 3)).off + 1, none⟩ = some (.int .u64 ((gt l i).seq : Nat)) ∧ w.cell? ⟨(a.add (i * 3)).block, (a.add (i * 3)).off + 2, none⟩ = some (.int .i64 (gt l i).t) := by
  obtain ⟨a, ha, c1, c2, c3⟩ := h.cell i hi
  exact ⟨a, ha, c1, by rw [(itm_next a _).1]; exact c2, by rw [(itm_next a _).2]; exact c3⟩

/-- A row of items of one's own. -/
def OwnI (w : World) (T : TypeId) (B : Nat) (p : Option Addr) (n c : Nat) (l : List It) : Prop := w.ownsRow B T 3 (.slice p n c) n (cellsI l)
theorem OwnI.holds {w : World} {T : TypeId} {B : Nat} {p : Option Addr} {n c : Nat} {l : List It} (h : OwnI w T B p n c l) : HoldsI w p n c l := by
  have hl := h.1
  rw [cellsI_len] at hl
  have ln : l.length = n := by omega
  have hc := h
  obtain ⟨-, ⟨e, rfl⟩ | ⟨g, cap, cur, e, hb, hg, h1, h2, h3, h4⟩⟩ := h
  · injection e with e1 _ e3
    subst e1 e3
    exact ⟨ln, Nat.le_refl _, Nat.zero_le _, fun _ => rfl, fun i hi => absurd hi (by omega)⟩
  · injection e with e1 _ e3
    subst e1 e3
    refine ⟨ln, h1, h2, (fun e => by cases e), fun i hi => ?_⟩
    obtain ⟨c1, c2, c3⟩ := cellsI_get l i (by omega)
    exact ⟨_, rfl, World.ownsRow.cells hc (g := g) rfl _ _ c1, World.ownsRow.cells hc (g := g) rfl _ _ c2, World.ownsRow.cells hc (g := g) rfl _ _ c3⟩
theorem OwnI.nil (w : World) (T : TypeId) (B : Nat) : OwnI w T B none 0 0 [] := ⟨rfl, .inl ⟨rfl, rfl⟩⟩
/-- Where it lies, and that it may be written. -/
theorem OwnI.blk {w : World} {T : TypeId} {B : Nat} {p : Option Addr} {n c : Nat} {l : List It} (h : OwnI w T B p n c l) (hn : 0 < n) : ∃ g cur, p = some ⟨g, 0, none⟩ ∧ B ≤ g ∧ w.heap[g]? = some (.cells cur T (0, 0)) ∧ n ≤ c ∧ c ≤ maxLen ∧ cur.size = c * 3 ∧ cur.toList.take (n * 3) = cellsI l := by
  obtain ⟨-, ⟨e, rfl⟩ | ⟨g, cap, cur, e, hb, hg, h1, h2, h3, h4⟩⟩ := h
  · omega
  · injection e with e1 _ e3
    subst e1 e3
    exact ⟨g, cur, rfl, hb, hg, h1, h2, h3, h4⟩
/-- An item is written in its place. -/
theorem OwnI.store {w : World} {T : TypeId} {B g : Nat} {n c k : Nat} {l : List It} (h : OwnI w T B (some ⟨g, 0, none⟩) n c l) (hk : k < n) (x : It) :
    OwnI (((w.setCell ⟨g, k * 3, none⟩ (.int .u64 (x.id : Nat))).setCell ⟨g, k * 3 + 1, none⟩ (.int .u64 (x.seq : Nat))).setCell ⟨g, k * 3 + 2, none⟩ (.int .i64 x.t)) T B (some ⟨g, 0, none⟩) n c (l.set k x) := by
  have hl := h.1
  rw [cellsI_len] at hl
  have ln : l.length = n := by omega
  obtain ⟨g', cur, e, hb, hg, h1, h2, h3, h4⟩ := h.blk (by omega)
  injection e with e
  injection e with e _ _
  subst e
  refine ⟨by rw [cellsI_len, List.length_set]; omega, .inr ⟨g, c, _, rfl, hb, blk_set (blk_set (blk_set hg)), h1, h2, by simp [h3], ?_⟩⟩
  rw [cellsI_set l k x (by omega), ← h4]
  simp only [Array.set!_eq_setIfInBounds, Array.toList_setIfInBounds, List.take_set]
theorem OwnI.keep {w w' : World} {T : TypeId} {B : Nat} {p : Option Addr} {n c : Nat} {l : List It} (h : OwnI w T B p n c l) (k : ∀ a, p = some a → w'.heap[a.block]? = w.heap[a.block]?) : OwnI w' T B p n c l := by
  refine ⟨h.1, ?_⟩
  rcases h.2 with hn | ⟨g, cap, cur, e, hb, hg, r⟩
  · exact .inl hn
  · injection e with e1 e2 e3
    subst e1 e3
    exact .inr ⟨g, c, cur, rfl, hb, by rw [k _ rfl]; exact hg, r⟩
theorem OwnI.below {w w' : World} {T : TypeId} {B : Nat} {p : Option Addr} {n c : Nat} {l : List It} (h : OwnI w T B p n c l) (b : Below w.heap.size w w') : OwnI w' T B p n c l := own_keep h b
theorem OwnI.lt {w : World} {T : TypeId} {B : Nat} {n c : Nat} {a : Addr} {l : List It} (h : OwnI w T B (some a) n c l) : a.block < w.heap.size := by
  rcases h.2 with ⟨e, -⟩ | ⟨g, cap, cur, e, hb, hg, r⟩
  · injection e with e1 _ _; cases e1
  · injection e with e1 _ _
    injection e1 with e1
    subst e1
    exact (Array.getElem?_eq_some_iff.1 hg).1
end Go.Proofs.Ytbfmmeapjfljbaa

