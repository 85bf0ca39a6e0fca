/- What every law's row stands on: a parameter is opened (an integer, a struct of two integers, a slice of integers), and whatever it is, it reads behind the call as it read before: for every stage. -/
import Derived.Test.YtpfbdpoileepoaaRow
import Derived.Test.YtpfbdpoileepoaaPostLow
import Derived.ProofKit
import Derived.OpenShut
import Derived.Lib.SmallJoins
import Derived.ChangeSlices
import Derived.WideKeyArgs
import Derived.Carry
set_option maxRecDepth 100000
namespace Go.Proofs.Ytpfbdpoileepoaa
open Go.ChangeShapes Go.WideShapes Go.ChangeAt Go.RowKit Go.Joins Go.Deep

theorem laid_out : laidOutB Try.prog = true := by kernel_rfl

section
variable {H : Type} {enc : TypeId × Value → H}

/-- All arguments read behind the call as before, whatever lies in new memory. -/
theorem all_back {W W' : World} {sp : Nat → Bool} (hb : Below W.heap.size W W') : ∀ {ts : List TypeId} {vs : List Value} {ds : List (DataW H)} {ps : List MemPlace}, (∀ t ∈ ts, Try.prog.readableRec t = true ∧ t < Try.prog.types.size) →
    DataW.TrodAll enc Try.prog W 0 (fun _ => true) true ts vs ds ps → (∀ x ∈ ps, x.block < W.heap.size) → (∀ x ∈ ps, sp x.block = true) → DataW.TrodAll enc Try.prog W' 0 sp true ts vs ds ps
  | [], [], [], _, _, h, _, _ => h
  | t :: _, _ :: _, _ :: _, _, hT, ⟨p, q, h1, h2, e⟩, hl, hs => by
    have a := hT t (List.mem_cons.2 (.inl rfl))
    exact ⟨p, q, WideElems.Trod_stays laid_out a.1 a.2 h1 (fun x hx => hb.same (hl x (by rw [e]; exact List.mem_append_left _ hx))) (fun x hx => hs x (by rw [e]; exact List.mem_append_left _ hx)),
      all_back hb (fun t ht => hT t (List.mem_cons.2 (.inr ht))) h2 (fun x hx => hl x (by rw [e]; exact List.mem_append_right _ hx)) (fun x hx => hs x (by rw [e]; exact List.mem_append_right _ hx)), e⟩

theorem read_int {t : TypeId} {k : IntKind} (ht : Try.prog.underlying t = some (.int k)) {W : World} {base : Nat} {v : Value} {d : DataW H} {ps : List MemPlace} (hok : Value.okWide Try.prog W .any base t v) (h : DataW.Trod enc Try.prog W 0 (fun _ => true) true t v d ps) :
    ∃ a, v = .int k a ∧ (Lit.int k a).wf = true := by
  obtain ⟨a, rfl, rfl, rfl, wf⟩ := open_int ht hok h
  exact ⟨a, rfl, wf⟩

theorem read_agg2 {t : TypeId} {f0 f1 : Field} {k0 k1 : IntKind} (hs : Try.prog.underlying t = some (.struct #[f0, f1])) (hone : oneCellFields Try.prog #[f0, f1] = true) (hC : Try.prog.cellsOf t = 2) (h0 : Try.prog.underlying f0.type = some (.int k0)) (h1 : Try.prog.underlying f1.type = some (.int k1))
    {W : World} {base : Nat} {v : Value} {d : DataW H} {ps : List MemPlace} (hok : Value.okWide Try.prog W .any base t v) (h : DataW.Trod enc Try.prog W 0 (fun _ => true) true t v d ps) :
    ∃ a b, v = .agg #[.int k0 a, .int k1 b] ∧ (Lit.int k0 a).wf = true ∧ (Lit.int k1 b).wf = true := by
  obtain ⟨v0, v1, y0, y1, n, rfl, rfl, rfl, z0, z1⟩ := open_agg2 hs hone hC hok h
  obtain ⟨a, e0, rfl, wa⟩ := DataW.trod_int h0 z0
  obtain ⟨b, e1, rfl, wb⟩ := DataW.trod_int h1 z1
  simp at e0 e1
  subst e0 e1
  exact ⟨a, b, rfl, wa, wb⟩

theorem read_ints {t e : TypeId} {k : IntKind} (ht : Try.prog.underlying t = some (.slice e)) (he : Try.prog.underlying e = some (.int k)) (hc : Try.prog.cellsOf e = 1) {W : World} {base : Nat} {v : Value} {d : DataW H} {ps : List MemPlace}
    (hok : Value.okWide Try.prog W .any base t v) (h : DataW.Trod enc Try.prog W 0 (fun _ => true) true t v d ps) :
    ∃ (p : Option Addr) (n c : Nat) (zs : List Int), v = .slice p n c ∧ Holds W p n c (valsI k zs) ∧ ∀ z ∈ zs, (Lit.int k z).wf = true := by
  obtain ⟨a, l, c, rfl⟩ := okWide_slice ht hok
  obtain ⟨fuel, hf⟩ := h
  rcases open_ints ht he hc hf with ⟨e1, -⟩ | ⟨b, len, cap, zs, e1, hb, hl, hm, hz, e2, hcell, hw⟩
  · simp [Value.cells] at e1
    obtain ⟨rfl, rfl, rfl⟩ := e1
    exact ⟨none, 0, 0, [], rfl, Holds.nil _ _ _ (Nat.zero_le _) (fun _ => rfl), (fun z hz => by cases hz)⟩
  · simp [Value.cells] at e1
    obtain ⟨rfl, rfl, rfl⟩ := e1
    have hz' : zs.length = c := by simpa using hz
    refine ⟨some b, l, c, zs.take l, rfl, ⟨by rw [valsI_len, List.length_take]; omega, hl, hm, (fun e => by cases e), fun i u hu => ?_⟩, fun z hz => hw z (List.mem_of_mem_take hz)⟩
    have il : i < l := by
      have := (List.getElem?_eq_some_iff.1 hu).1
      rw [valsI_len, List.length_take] at this
      omega
    rw [valsI_get (by rw [List.length_take]; omega)] at hu
    injection hu with hu
    subst hu
    refine ⟨b, rfl, ?_⟩
    rw [hcell i (by omega), List.getD_eq_getElem?_getD, List.getD_eq_getElem?_getD, List.getElem?_take, if_pos il]

/-- Integers that are not below 0, as numbers. -/
theorem holds_nat {W : World} {p : Option Addr} {n c : Nat} {k : IntKind} {zs : List Int} (h : Holds W p n c (valsI k zs)) (h0 : ∀ z ∈ zs, 0 ≤ z) : Holds W p n c (valsN k (zs.map Int.toNat)) := by
  have e : valsN k (zs.map Int.toNat) = valsI k zs := by
    unfold valsN valsI
    rw [List.map_map]
    refine List.map_congr_left fun z hz => ?_
    have := h0 z hz
    show Value.int k ((z.toNat : Nat) : Int) = _
    rw [Int.toNat_of_nonneg this]
  rw [e]
  exact h
theorem nat_lt {zs : List Int} {N : Nat} (h : ∀ z ∈ zs, 0 ≤ z ∧ z < (N : Int)) : ∀ x ∈ zs.map Int.toNat, x < N := by
  intro x hx
  obtain ⟨z, hz, rfl⟩ := List.mem_map.1 hx
  have := h z hz
  omega
theorem u8_of_wf {x : Int} (h : (Lit.int .u8 x).wf = true) : 0 ≤ x ∧ x < 256 := by
  simp [Lit.wf, IntKind.min, IntKind.max, IntKind.signed, IntKind.bits] at h
  exact ⟨by omega, by omega⟩
end
end Go.Proofs.Ytpfbdpoileepoaa

