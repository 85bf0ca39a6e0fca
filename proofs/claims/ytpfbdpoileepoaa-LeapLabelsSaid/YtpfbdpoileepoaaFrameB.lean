/- Frames of laws: a bool, a slice of bools as parameters. -/
import Derived.Test.YtpfbdpoileepoaaFrame
import Derived.Deep.Grids
set_option maxRecDepth 100000
namespace Go.Proofs.Ytpfbdpoileepoaa
open Go.ChangeShapes Go.WideShapes Go.ChangeAt Go.RowKit

theorem u16w {x : Int} (h : (Lit.int .u16 x).wf = true) : 0 ≤ x ∧ x < 65536 := by
  simp [Lit.wf, IntKind.min, IntKind.max, IntKind.signed, IntKind.bits] at h
  exact ⟨by omega, by omega⟩
/-- Bools behind a slice, as what may be read. -/
structure HoldsBo (w : World) (p : Option Addr) (n c : Nat) (B : Nat → Bool) : Prop where
  cap : n ≤ c
  max : c ≤ maxLen
  bare : p = none → c = 0
  cell : ∀ i, i < n → ∃ a, p = some a ∧ w.cell? (a.add i) = some (.bool (B i))
theorem HoldsBo.below {w w' : World} {p : Option Addr} {n c : Nat} {B : Nat → Bool} (h : HoldsBo w p n c B) (b : Below w.heap.size w w') : HoldsBo w' p n c B :=
  ⟨h.cap, h.max, h.bare, fun i hi => by
    obtain ⟨a, ha, hc⟩ := h.cell i hi
    exact ⟨a, ha, (b.cell (World.block_lt_of_cell? w _ hc)).trans hc⟩⟩
section
variable {H : Type} {enc : TypeId × Value → H}
theorem read_bool {t : TypeId} (ht : Try.prog.underlying t = some .bool) {W : World} {base : Nat} {v : Value} {d : DataW H} {ps : List MemPlace} (hok : Value.okWide Try.prog W .any base t v) (h : DataW.Trod enc Try.prog W 0 (fun _ => true) true t v d ps) : ∃ b, v = .bool b := by
  obtain ⟨b, rfl, -, -⟩ := open_bool ht hok h
  exact ⟨b, rfl⟩
theorem read_bools {t e : TypeId} (ht : Try.prog.underlying t = some (.slice e)) (he : Try.prog.underlying e = some .bool) (hc : Try.prog.cellsOf e = 1) {W : World} {base : Nat} {v : Value} {d : DataW H} {ps : List MemPlace}
    (hok : Value.okWide Try.prog W .any base t v) (h : DataW.Trod enc Try.prog W 0 (fun _ => true) true t v d ps) :
    ∃ (p : Option Addr) (n c : Nat) (B : Nat → Bool), v = .slice p n c ∧ HoldsBo W p n c B := by
  obtain ⟨a, l, c, rfl⟩ := okWide_slice ht hok
  obtain ⟨fuel, hf⟩ := h
  rcases Go.Deep.open_bools ht he hc hf with ⟨e1, -⟩ | ⟨b, len, cap, B, e1, hb, hl, hm, -, hcell⟩
  · simp [Value.cells] at e1
    obtain ⟨rfl, rfl, rfl⟩ := e1
    exact ⟨none, 0, 0, fun _ => false, rfl, ⟨Nat.le_refl _, Nat.zero_le _, fun _ => rfl, fun i hi => absurd hi (by omega)⟩⟩
  · simp [Value.cells] at e1
    obtain ⟨rfl, rfl, rfl⟩ := e1
    exact ⟨some b, l, c, B, rfl, ⟨hl, hm, (fun e => by cases e), fun i hi => ⟨b, rfl, hcell i (by omega)⟩⟩⟩
end
end Go.Proofs.Ytpfbdpoileepoaa

