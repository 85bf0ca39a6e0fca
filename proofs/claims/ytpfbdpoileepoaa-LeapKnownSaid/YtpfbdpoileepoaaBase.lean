/- What every stage's texts stand on: numbers of 64 bits, a call's answers, calls that lay new blocks alone. -/
import Derived.Test.YtpfbdpoileepoaaRows
import Derived.WalkKit
import Derived.ProofKit
import Derived.OpenShut
import Derived.IntWalk
import Derived.Lib.Hide
import Derived.Below
import Derived.WalkSmall
namespace Go.Proofs.Ytpfbdpoileepoaa
open Go.ChangeShapes Go.WideShapes Go.ChangeAt Go.RowKit

def I64 (a : Int) : Prop := -9223372036854775808 ≤ a ∧ a ≤ 9223372036854775807

theorem ret_int {k : IntKind} {a b : Int} (h : a = b) : Ending.returned (.int k a) = .returned (.int k b) := by rw [h]

theorem i64_of_wf {x : Int} (h : (Lit.int .i64 x).wf = true) : I64 x := by
  simp [Lit.wf, IntKind.min, IntKind.max, IntKind.signed, IntKind.bits] at h
  exact ⟨by omega, by omega⟩

theorem word_of_wf {x : Int} (h : (Lit.int .u64 x).wf = true) : 0 ≤ x ∧ x < 18446744073709551616 := by
  simp [Lit.wf, IntKind.min, IntKind.max, IntKind.signed, IntKind.bits] at h
  exact ⟨by omega, by omega⟩

theorem u32_of_wf {x : Int} (h : (Lit.int .u32 x).wf = true) : 0 ≤ x ∧ x < 4294967296 := by
  simp [Lit.wf, IntKind.min, IntKind.max, IntKind.signed, IntKind.bits] at h
  exact ⟨by omega, by omega⟩

theorem i32_of_wf {x : Int} (h : (Lit.int .i32 x).wf = true) : -2147483648 ≤ x ∧ x ≤ 2147483647 := by
  simp [Lit.wf, IntKind.min, IntKind.max, IntKind.signed, IntKind.bits] at h
  exact ⟨by omega, by omega⟩

theorem ret_pair {k l : IntKind} {a b c d : Int} (h : a = c) (h' : b = d) : Ending.returned (.tuple #[.int k a, .int l b]) = .returned (.tuple #[.int k c, .int l d]) := by rw [h, h']

/-- A call that lays new blocks alone: in both of the kit's words. -/
structure Out (w w' : World) : Prop where
  g : Grown w w'
  b : Below w.heap.size w w'
theorem Out.refl (w : World) : Out w w := ⟨Grown.refl _, Below.refl _ _⟩
theorem Out.trans {a b c : World} (h : Out a b) (k : Out b c) : Out a c :=
  ⟨⟨World.keptBut_trans h.g.1 k.g.1, fun x => (k.g.2.1 x).trans (h.g.2.1 x), Nat.le_trans h.g.2.2 k.g.2.2⟩, h.b.trans (k.b.mono h.g.2.2)⟩
theorem Out.alloc {a b : World} (h : Out a b) (c : Array Value) (t : TypeId) : Out a (b.alloc (.cells c t)) := ⟨h.g.alloc c t, h.b.alloc h.g.2.2 _⟩
theorem Out.setCell {a b : World} (h : Out a b) {p : Addr} (hp : a.heap.size ≤ p.block) (v : Value) : Out a (b.setCell p v) := ⟨h.g.setCell hp v, h.b.setCell hp v⟩
theorem Out.drewN {a b : World} (h : Out a b) (n : Nat) : Out a (b.drewN n) := h.trans ⟨Grown.refl b, below_drewN (Below.refl _ _) n⟩
theorem Out.of_eq {a b : World} (h : a = b) : Out a b := h ▸ Out.refl a

end Go.Proofs.Ytpfbdpoileepoaa

