/- Layer 13 (heap), the program's own: all calls, as the laws ask them. -/
import Derived.Test.YtlfbenlojiiknaaHpK
set_option maxRecDepth 100000
namespace Go.Proofs.Ytlfbenlojiiknaa
open Go.ChangeShapes Go.WideShapes Go.ChangeAt Go.RowKit Go.Maps HeapM

def HqP (w : World) (F : Nat → Prop) (N sz : Nat) (l : List It) : Prop := ∃ b p c, F = HF N b p ∧ PHp w N b p c sz l
theorem PR.hq {w w' : World} {N b sz : Nat} {p : Option Addr} {l : List It} (h : PR w N b p sz l w') : ∃ F', HqP w' F' N sz l ∧ FT (HF N b p) w w' ∧ ∀ M, F' M → HF N b p M ∨ w.heap.size ≤ M := by
  obtain ⟨p', c', H, T, P⟩ := h
  refine ⟨_, ⟨b, p', c', rfl, H⟩, T, ?_⟩
  rintro K (e | e | ⟨a, ea, e⟩)
  · exact .inl (.inl e)
  · exact .inl (.inr (.inl e))
  · rcases P with q | q
    · exact .inl (.inr (.inr ⟨a, by rw [← q]; exact ea, e⟩))
    · exact .inr (by rw [e]; exact q a ea)
def heap_code : HCode := {
  Hq := HqP
  keep := fun h k => by
    obtain ⟨b, p, c, rfl, h⟩ := h
    exact ⟨b, p, c, rfl, h.keep k⟩
  lt := fun h => by
    obtain ⟨b, p, c, rfl, h⟩ := h
    exact h.lt
  fit := fun h => by
    obtain ⟨b, p, c, rfl, h⟩ := h
    exact h.fit
  oks := fun h => by
    obtain ⟨b, p, c, rfl, h⟩ := h
    exact h.oks
  nod := fun h => by
    obtain ⟨b, p, c, rfl, h⟩ := h
    exact h.nod
  new_ok := fun w sz h1 h2 => (pnew13_ok w sz h1 h2).mono fun e w' ⟨N, b, e1, h, n1, n2, l⟩ => ⟨N, _, e1, ⟨b, none, 0, rfl, h⟩, (fun M hM => by
    rcases hM with rfl | rfl | ⟨a, ha, -⟩
    · exact n1
    · exact n2
    · cases ha), l⟩
  new_no := fun w s _ h => pnew13_no w s h
  ahead := pahead13_any
  push := fun x h hx => by
    obtain ⟨b, p, c, rfl, h⟩ := h
    exact (ppush13 _ _ b p c _ _ x h hx).mono fun e w' ⟨a, r⟩ => ⟨a, r.hq⟩
  set := fun x h hx => by
    obtain ⟨b, p, c, rfl, h⟩ := h
    exact (pset13 _ _ b p c _ _ x h hx).mono fun e w' ⟨a, r⟩ => ⟨a, r.hq⟩
  remove := fun d h hd => by
    obtain ⟨b, p, c, rfl, h⟩ := h
    exact (premove13 _ _ b p c _ _ d h hd).mono fun e w' ⟨a, r⟩ => ⟨a, r.hq⟩
  pop := fun h => by
    obtain ⟨b, p, c, rfl, h⟩ := h
    exact (ppop13 _ _ b p c _ _ h).mono fun e w' ⟨a, r⟩ => ⟨a, r.hq⟩
  min := fun h => by
    obtain ⟨b, p, c, rfl, h⟩ := h
    exact pmin13 h
  find := fun d h hd => by
    obtain ⟨b, p, c, rfl, h⟩ := h
    exact pfind13 h d hd
  row := fun h => by
    obtain ⟨b, p, c, rfl, h⟩ := h
    exact prow13 h
  len := fun h => by
    obtain ⟨b, p, c, rfl, h⟩ := h
    exact (plen13 h).mono fun e w' ⟨a, k⟩ => ⟨a, by rw [k]; exact Below.refl _ _⟩
  copy := fun h => by
    obtain ⟨b, p, c, rfl, h⟩ := h
    exact (pcopy13 h).mono fun e w' ⟨N, b', p', c', e1, h', n, k⟩ => ⟨N, _, e1, ⟨b', p', c', rfl, h'⟩, n, k⟩
  push_none := ppush13_none
  set_none := pset13_none
  remove_none := premove13_none
  pop_none := ppop13_none
  min_none := pmin13_none
  find_none := pfind13_none
  row_none := fun w => (prow13_none w).mono fun e w' ⟨a, k⟩ => ⟨none, 0, a, (OwnI.nil w' 34 0).holds, by rw [k]; exact Below.refl _ _⟩
  len_none := fun w => (plen13_none w).mono fun e w' ⟨a, k⟩ => ⟨a, by rw [k]; exact Below.refl _ _⟩
  copy_none := fun w => (pcopy13_none w).mono fun e w' ⟨a, k⟩ => ⟨a, by rw [k]; exact Below.refl _ _⟩ }
end Go.Proofs.Ytlfbenlojiiknaa
