/- Layer 13 (heap), the document's own: an item goes up. -/
import Derived.Test.YtbfmmeapjfljbaaHeapB
set_option maxRecDepth 100000
namespace Go.Proofs.Ytbfmmeapjfljbaa
open Go.ChangeShapes Go.WideShapes Go.ChangeAt Go.RowKit HeapM

/-- An item written behind a pointer, as the walk does it. -/
def set3 (w : World) (a : Addr) (k : Nat) (x : It) : World :=
  ((w.setCell (a.add (k * 3)) (.int .u64 (x.id : Nat))).setCell ⟨(a.add (k * 3)).block, (a.add (k * 3)).off + 1, none⟩ (.int .u64 (x.seq : Nat))).setCell ⟨(a.add (k * 3)).block, (a.add (k * 3)).off + 2, none⟩ (.int .i64 x.t)
theorem own_base0 {w : World} {T : TypeId} {B n c : Nat} {a : Addr} {l : List It} (h : OwnI w T B (some a) n c l) : a = ⟨a.block, 0, none⟩ ∧ ∃ cur, w.heap[a.block]? = some (.cells cur T (0, 0)) := by
  rcases h.2 with ⟨e, -⟩ | ⟨g, cap, cur, e, hb, hg, r⟩
  · injection e with e1 _ _; cases e1
  · injection e with e1 _ _
    injection e1 with e1
    subst e1
    exact ⟨rfl, cur, hg⟩
theorem set3_own {w : World} {T : TypeId} {B n c k : Nat} {a : Addr} {l : List It} (h : OwnI w T B (some a) n c l) (hk : k < n) (x : It) : OwnI (set3 w a k x) T B (some a) n c (l.set k x) := by
  obtain ⟨e, -⟩ := own_base0 h
  unfold set3
  obtain ⟨g, o, f⟩ := a
  injection e with _ e1 e2
  subst e1 e2
  rw [add_zero']
  exact h.store hk x
theorem set3_other (w : World) (a : Addr) (k : Nat) (x : It) {N : Nat} (h : N ≠ a.block) : (set3 w a k x).heap[N]? = w.heap[N]? := by
  unfold set3
  have e := add_block a (k * 3)
  rw [Go.Deep.blk_setCell_other _ _ _ _ (by rw [e]; exact h), Go.Deep.blk_setCell_other _ _ _ _ (by rw [e]; exact h), Go.Deep.blk_setCell_other _ _ _ _ (by rw [e]; exact h)]
theorem set3_turn {W w : World} {T : TypeId} {B n c : Nat} {a : Addr} {l : List It} (h : OwnI w T B (some a) n c l) (k : Nat) (x : It) (t : Turn a.block W w) : Turn a.block W (set3 w a k x) := by
  obtain ⟨e, -⟩ := own_base0 h
  unfold set3
  obtain ⟨g, o, f⟩ := a
  injection e with _ e1 e2
  subst e1 e2
  rw [add_zero']
  exact ((t.set _).set _).set _
theorem own_free {w : World} {T : TypeId} {B n c : Nat} {a : Addr} {l : List It} (h : OwnI w T B (some a) n c l) (k : Nat) : w.frozen? (a.add (k * 3)) = false ∧ w.frozen? ⟨(a.add (k * 3)).block, (a.add (k * 3)).off + 1, none⟩ = false ∧ w.frozen? ⟨(a.add (k * 3)).block, (a.add (k * 3)).off + 2, none⟩ = false := by
  obtain ⟨e, cur, hg⟩ := own_base0 h
  obtain ⟨g, o, f⟩ := a
  injection e with _ e1 e2
  subst e1 e2
  rw [add_zero']
  exact ⟨blk_free hg, blk_free hg, blk_free hg⟩
theorem own_at {w : World} {T : TypeId} {B n c k : Nat} {a : Addr} {l : List It} (h : OwnI w T B (some a) n c l) (hk : k < n) : w.cell? (a.add (k * 3)) = some (.int .u64 ((gt l k).id : Nat)) ∧ w.cell? ⟨(a.add (k * 3)).block, (a.add (k * 3)).off + 1, none⟩ = some (.int .u64 ((gt l k).seq : Nat)) ∧ w.cell? ⟨(a.add (k * 3)).block, (a.add (k * 3)).off + 2, none⟩ = some (.int .i64 (gt l k).t) := by
  obtain ⟨a', e, c1, c2, c3⟩ := h.holds.at hk
  injection e with e
  subst e
  exact ⟨c1, c2, c3⟩

theorem set3_mid {w : World} {a : Addr} {k : Nat} {u1 u2 : Value} (h1 : w.cell? ⟨(a.add (k * 3)).block, (a.add (k * 3)).off + 1, none⟩ = some u1) (h2 : w.cell? ⟨(a.add (k * 3)).block, (a.add (k * 3)).off + 2, none⟩ = some u2) (v0 v1 : Value) :
    (w.setCell (a.add (k * 3)) v0).cell? ⟨(a.add (k * 3)).block, (a.add (k * 3)).off + 1, none⟩ = some u1 ∧ ((w.setCell (a.add (k * 3)) v0).setCell ⟨(a.add (k * 3)).block, (a.add (k * 3)).off + 1, none⟩ v1).cell? ⟨(a.add (k * 3)).block, (a.add (k * 3)).off + 2, none⟩ = some u2 := by
  have n1 : a.add (k * 3) ≠ ⟨(a.add (k * 3)).block, (a.add (k * 3)).off + 1, none⟩ := fun e => by
    have := congrArg Addr.off e
    simp at this
  have n2 : a.add (k * 3) ≠ ⟨(a.add (k * 3)).block, (a.add (k * 3)).off + 2, none⟩ := fun e => by
    have := congrArg Addr.off e
    simp at this
  have n3 : (⟨(a.add (k * 3)).block, (a.add (k * 3)).off + 1, none⟩ : Addr) ≠ ⟨(a.add (k * 3)).block, (a.add (k * 3)).off + 2, none⟩ := fun e => by
    have := congrArg Addr.off e
    simp at this
  refine ⟨?_, ?_⟩
  · rw [World.cell?_setCell_other _ _ _ _ n1]; exact h1
  · rw [World.cell?_setCell_other _ _ _ _ n3, World.cell?_setCell_other _ _ _ _ n2]; exact h2

/-- Both items of a region, and the row's own pointer. -/
def UpC (M n c : Nat) (a : Addr) (k q : Nat) (x y : It) (w : World) : Prop :=
  w.cell? ⟨M, 0, none⟩ = some (.slice (some a) n c) ∧ w.cell? (a.add (k * 3)) = some (.int .u64 (x.id : Nat)) ∧ w.cell? ⟨(a.add (k * 3)).block, (a.add (k * 3)).off + 1, none⟩ = some (.int .u64 (x.seq : Nat)) ∧ w.cell? ⟨(a.add (k * 3)).block, (a.add (k * 3)).off + 2, none⟩ = some (.int .i64 x.t) ∧
  w.cell? (a.add (q * 3)) = some (.int .u64 (y.id : Nat)) ∧ w.cell? ⟨(a.add (q * 3)).block, (a.add (q * 3)).off + 1, none⟩ = some (.int .u64 (y.seq : Nat)) ∧ w.cell? ⟨(a.add (q * 3)).block, (a.add (q * 3)).off + 2, none⟩ = some (.int .i64 y.t)
end Go.Proofs.Ytbfmmeapjfljbaa

