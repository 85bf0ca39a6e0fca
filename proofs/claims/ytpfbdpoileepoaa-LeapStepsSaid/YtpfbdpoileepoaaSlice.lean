/- New blocks as rows; addresses; slices of bytes, opaque in a walk ('attribute [local go_sem ↓] sliceB_eq' in the text that walks): the first so many of a row that may be nil: for every stage. -/
import Derived.Test.YtpfbdpoileepoaaRow
namespace Go.Proofs.Ytpfbdpoileepoaa
open Go.ChangeShapes Go.WideShapes Go.ChangeAt Go.RowKit

/-- A whole block that is new, as what may be read. -/
theorem blk_holds {w : World} {N n : Nat} {cs : Array Value} {T : TypeId} (h : w.heap[N]? = some (.cells cs T (0, 0))) (hn : cs.size = n) (hm : n ≤ maxLen) : Holds w (some ⟨N, 0, none⟩) n n cs.toList := by
  refine ⟨by simp [hn], Nat.le_refl _, hm, (fun e => by cases e), fun i u hu => ⟨_, rfl, ?_⟩⟩
  rw [add_zero', blk_cell h]
  simpa using hu

theorem add_block (a : Addr) (i : Nat) : (a.add i).block = a.block := by unfold Addr.add; split <;> rfl
theorem add_off (a : Addr) (i : Nat) : (a.add i).off = a.off + i := by
  unfold Addr.add
  by_cases h : i = 0
  · subst h; simp
  · rw [if_neg h]

theorem holds_drewN {w : World} {p : Option Addr} {n c : Nat} {vs : List Value} (h : Holds w p n c vs) (k : Nat) : Holds (w.drewN k) p n c vs := h.below (below_drewN (Below.refl _ _) k)

theorem drewN_add (w : World) (i j : Nat) : (w.drewN i).drewN j = w.drewN (i + j) := by
  unfold World.drewN
  simp [Nat.add_assoc]

theorem ret_bool {a b : Bool} (h : a = b) : Ending.returned (.bool a) = .returned (.bool b) := by rw [h]

def sliceB (x : Value) (lo hi mx : Option Value) : Sem Value := Instr.sliceAt 42 x lo hi mx
theorem sliceB_eq (x : Value) (lo hi mx : Option Value) : Instr.sliceAt 42 x lo hi mx = sliceB x lo hi mx := rfl
theorem slice_to {w : World} {p : Option Addr} {n c k : Nat} (hk : k ≤ c) : (sliceB (.slice p n c) none (some (.int .i64 (k : Int))) none).run Try.prog w = .ok (.slice p k c) w := by
  have h1 : (k : Int) ≤ (c : Int) := by omega
  unfold sliceB
  simp only [Instr.sliceAt]
  rw [Sem.run_bind, run_underlying Try.underlying42]
  simp [Instr.slice, Instr.sliceBounds, run_underlying Try.underlying42, Instr.sliceBound, asIntOf, go_sem, hk]
end Go.Proofs.Ytpfbdpoileepoaa

