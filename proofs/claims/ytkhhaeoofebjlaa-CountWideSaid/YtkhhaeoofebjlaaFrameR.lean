/- A parameter that is an array of integers, opened: for every stage. -/
import Derived.Test.YtkhhaeoofebjlaaFrame
set_option maxRecDepth 100000
namespace Go.Proofs.Ytkhhaeoofebjlaa
open Go.ChangeShapes Go.WideShapes Go.ChangeAt Go.RowKit Go.Joins Go.Deep

theorem u16_of_wf {x : Int} (h : (Lit.int .u16 x).wf = true) : 0 ≤ x ∧ x < 65536 := by
  simp [Lit.wf, IntKind.min, IntKind.max, IntKind.signed, IntKind.bits] at h
  exact ⟨by omega, by omega⟩

section
variable {H : Type} {enc : TypeId × Value → H}

def numV : Value → Int
  | .int _ z => z
  | _ => 0

theorem read_arr {t e : TypeId} {k : IntKind} {n : Nat} (ht : Try.prog.underlying t = some (.array n e)) (he : Try.prog.underlying e = some (.int k)) (hc : Try.prog.cellsOf e = 1) (hn : Try.prog.cellsOf t = n) {W : World} {base : Nat} {v : Value} {d : DataW H} {ps : List MemPlace}
    (hok : Value.okWide Try.prog W .any base t v) (h : DataW.Trod enc Try.prog W 0 (fun _ => true) true t v d ps) :
    ∃ (C : Array Value) (zs : List Int), v = .agg C ∧ C.size = n ∧ C.toList = valsI k zs ∧ ∀ z ∈ zs, (Lit.int k z).wf = true := by
  simp only [Value.okWide, ht] at hok
  obtain ⟨C, rfl, hs, -⟩ := hok
  rw [hn] at hs
  obtain ⟨fuel, hf⟩ := h
  obtain ⟨xs, m, -, -, -, hl, hg⟩ := DataW.trod_array ht hf
  have each : ∀ c ∈ C.toList, ∃ z, c = .int k z ∧ (Lit.int k z).wf = true := by
    intro c hc'
    obtain ⟨i, hi, rfl⟩ := List.getElem_of_mem hc'
    have hi' : i < n := by rw [Array.length_toList, hs] at hi; exact hi
    have g := hg i hi'
    rw [hc, Nat.mul_one, show (Value.agg C).cells = C from rfl, List.drop_eq_getElem_cons hi, List.take_succ_cons, List.take_zero, List.getElem?_eq_getElem (by omega)] at g
    obtain ⟨z, ez, -, wf⟩ := DataW.trod_int he g
    exact ⟨z, by simpa using ez, wf⟩
  refine ⟨C, C.toList.map numV, rfl, hs, ?_, fun z hz => ?_⟩
  · unfold valsI
    rw [List.map_map]
    conv => lhs; rw [← List.map_id C.toList]
    refine List.map_congr_left fun c hc' => ?_
    obtain ⟨z, rfl, -⟩ := each c hc'
    rfl
  · obtain ⟨c, hc', rfl⟩ := List.mem_map.1 hz
    obtain ⟨z, rfl, wf⟩ := each c hc'
    exact wf
end
end Go.Proofs.Ytkhhaeoofebjlaa

