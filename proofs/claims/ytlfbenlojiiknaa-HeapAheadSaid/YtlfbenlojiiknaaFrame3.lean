/- A parameter that is a struct of three integers, opened: for layer 13 (XFrameK has it too, over layer 6's texts: never import both). -/
import Derived.Test.YtlfbenlojiiknaaFrame
import Derived.Deep.Slices
set_option maxRecDepth 100000
namespace Go.Proofs.Ytlfbenlojiiknaa
open Go.ChangeShapes Go.WideShapes Go.ChangeAt Go.RowKit Go.Joins Go.Deep

section
variable {H : Type} {enc : TypeId × Value → H}

theorem read_agg3 {t : TypeId} {f0 f1 f2 : Field} {k0 k1 k2 : IntKind} (hs : Try.prog.underlying t = some (.struct #[f0, f1, f2])) (hone : oneCellFields Try.prog #[f0, f1, f2] = true) (hC : Try.prog.cellsOf t = 3) (h0 : Try.prog.underlying f0.type = some (.int k0)) (h1 : Try.prog.underlying f1.type = some (.int k1)) (h2 : Try.prog.underlying f2.type = some (.int k2))
    {W : World} {base : Nat} {v : Value} {d : DataW H} {ps : List MemPlace} (hok : Value.okWide Try.prog W .any base t v) (h : DataW.Trod enc Try.prog W 0 (fun _ => true) true t v d ps) :
    ∃ a b c, v = .agg #[.int k0 a, .int k1 b, .int k2 c] ∧ (Lit.int k0 a).wf = true ∧ (Lit.int k1 b).wf = true ∧ (Lit.int k2 c).wf = true := by
  obtain ⟨v0, v1, v2, y0, y1, y2, n, rfl, rfl, rfl, z0, z1, z2⟩ := open_agg3 hs hone hC hok h
  obtain ⟨a, e0, rfl, wa⟩ := DataW.trod_int h0 z0
  obtain ⟨b, e1, rfl, wb⟩ := DataW.trod_int h1 z1
  obtain ⟨c, e2, rfl, wc⟩ := DataW.trod_int h2 z2
  simp at e0 e1 e2
  subst e0 e1 e2
  exact ⟨a, b, c, rfl, wa, wb, wc⟩
end
end Go.Proofs.Ytlfbenlojiiknaa
