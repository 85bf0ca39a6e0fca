/- Layer 13 (heap), the document's own: New, Push. -/
import Derived.Test.YtbfmmeapjfljbaaHeapD
import Derived.Deep.AppendLies
set_option maxRecDepth 100000
namespace Go.Proofs.Ytbfmmeapjfljbaa
open Go.ChangeShapes Go.WideShapes Go.ChangeAt Go.RowKit HeapM

/-- Of all that was there, a heap's own block and its row's alone have turned. -/
structure HTurn (M : Nat) (p : Option Addr) (w w' : World) : Prop where
  keep : ∀ K, K ≠ M → (∀ a, p = some a → K ≠ a.block) → K < w.heap.size → w'.heap[K]? = w.heap[K]?
  low : ∀ B, B ≤ M → (∀ a, p = some a → B ≤ a.block) → B ≤ w.heap.size → Below B w w'
  size : w.heap.size ≤ w'.heap.size
theorem HTurn.of_below {M : Nat} {p : Option Addr} {w w' : World} (h : Below w.heap.size w w') : HTurn M p w w' := ⟨fun _ _ _ hK => h.block _ hK, fun _ _ _ hB => h.mono hB, h.size⟩
theorem HTurn.of_turn {M : Nat} {a : Addr} {w w' : World} (h : Turn a.block w w') : HTurn M (some a) w w' := ⟨fun _ _ hk hK => h.keep _ (hk a rfl) hK, fun _ _ hb hB => h.low _ (hb a rfl) hB, h.size⟩
theorem HTurn.trans {M : Nat} {p p' : Option Addr} {w w1 w2 : World} (h : HTurn M p w w1) (k : HTurn M p' w1 w2) (hp : p' = p ∨ ∀ a, p' = some a → w.heap.size ≤ a.block) : HTurn M p w w2 := by
  refine ⟨fun K h1 h2 h3 => ?_, fun B h1 h2 h3 => ?_, Nat.le_trans h.size k.size⟩
  · refine (k.keep K h1 (fun a ha => ?_) (Nat.lt_of_lt_of_le h3 h.size)).trans (h.keep K h1 h2 h3)
    rcases hp with e | e
    · exact h2 a (by rw [← e]; exact ha)
    · have := e a ha; omega
  · refine (h.low B h1 h2 h3).trans (k.low B h1 (fun a ha => ?_) (Nat.le_trans h3 h.size))
    rcases hp with e | e
    · exact h2 a (by rw [← e]; exact ha)
    · have := e a ha; omega
theorem HTurn.set {M o : Nat} {p : Option Addr} {w w' : World} (h : HTurn M p w w') (v : Value) : HTurn M p w (w'.setCell ⟨M, o, none⟩ v) :=
  ⟨fun K h1 h2 h3 => (Below.heap_setCell w' ⟨M, o, none⟩ v K h1).trans (h.keep K h1 h2 h3), fun B h1 h2 h3 => (h.low B h1 h2 h3).setCell h1 v, by have := h.size; simpa using this⟩
theorem HTurn.drew {M : Nat} {p : Option Addr} {w w' : World} (h : HTurn M p w w') : HTurn M p w w'.drew := ⟨h.keep, fun B h1 h2 h3 => (h.low B h1 h2 h3).drew, h.size⟩

theorem HTurn.grown {M n c : Nat} {p : Option Addr} {w w' w'' : World} (h : HTurn M p w w') (g : w'.grownBy w'' (Value.slice p n c).ownBlock) : HTurn M p w w'' := by
  refine ⟨fun K h1 h2 h3 => ?_, fun B h1 h2 h3 => ?_, Nat.le_trans h.size g.size⟩
  · refine (g.block K (Nat.lt_of_lt_of_le h3 h.size) (fun e => ?_)).trans (h.keep K h1 h2 h3)
    cases p with
    | none => cases e
    | some a => injection e with e; exact h2 a rfl e
  · refine (h.low B h1 h2 h3).grown g (Nat.le_trans h3 h.size) (fun k hk => ?_)
    cases p with
    | none => cases hk
    | some a => injection hk with hk; rw [← hk]; exact h2 a rfl

/-- What Push tells, and what it makes. -/
def pushE (sz : Int) (l : List It) (x : It) : Int := if (place l x.id).isSome then 9 else if sz ≤ l.length then 7 else 0
def pushR (sz : Int) (l : List It) (x : It) : List It := if (place l x.id).isSome then l else if sz ≤ l.length then l else pushL l x
theorem push_there {sz : Int} {l : List It} {x : It} {k : Nat} (h : place l x.id = some k) : pushE sz l x = 9 ∧ pushR sz l x = l := by unfold pushE pushR; rw [h]; exact ⟨rfl, rfl⟩
theorem push_full {sz : Int} {l : List It} {x : It} (h : place l x.id = none) (f : sz ≤ l.length) : pushE sz l x = 7 ∧ pushR sz l x = l := by unfold pushE pushR; rw [h, if_pos f, if_pos f]; exact ⟨rfl, rfl⟩
theorem push_in {sz : Int} {l : List It} {x : It} (h : place l x.id = none) (f : ¬ sz ≤ l.length) : pushE sz l x = 0 ∧ pushR sz l x = pushL l x := by unfold pushE pushR; rw [h, if_neg f, if_neg f]; exact ⟨rfl, rfl⟩
theorem infoI_of {o : Option TypeInfo} {z : Option Value} {s b : Nat} (h : o.map (fun i => (i.zero, i.size, i.bytes)) = some (z, s, b)) : ∃ i, o = some i ∧ i.zero = z ∧ i.size = s ∧ i.bytes = b := by
  obtain ⟨i, hi, h⟩ := Option.map_eq_some_iff.1 h
  simp only [Prod.mk.injEq] at h
  exact ⟨i, hi, h.1, h.2.1, h.2.2⟩

end Go.Proofs.Ytbfmmeapjfljbaa

