/- Layer 7 (packet): while a packet's cells are written, fields in other memory stay; what a Parse tells. -/
import Derived.Test.YtfnidehbibfclaaPktC
import Derived.Test.YtfnidehbibfclaaGF
import Derived.Test.YtfnidehbibfclaaGG
set_option maxRecDepth 100000
namespace Go.Proofs.Ytfnidehbibfclaa
open Go.ChangeShapes Go.WideShapes Go.ChangeAt Go.RowKit OctM

/-- No cell holds a number of 16 bits: so it is no row of fields. -/
def No16 (cs : Array Value) : Prop := ∀ (i : Nat) (v : Value), cs[i]? = some v → ∀ t : Int, v ≠ Value.int .u16 t
theorem pk_no16 (h : Hd) (x : Xt) : No16 (pkC h x) := fun i v hv t e => by
  subst e
  have hi : i < 17 := (Array.getElem?_eq_some_iff.1 hv).1
  rcases i with _ | _ | _ | _ | _ | _ | _ | _ | _ | _ | _ | _ | _ | _ | _ | _ | _ | i
  all_goals first
    | (exfalso; omega)
    | (injection hv with hv; cases hv)
/-- Other blocks are as they were, but for some below B that are no rows of fields. -/
def Far (W W' : World) (B : Nat) : Prop := ∀ j, W'.heap[j]? = W.heap[j]? ∨ (j < B ∧ ∃ cs T fr, W.heap[j]? = some (.cells cs T fr) ∧ No16 cs)
theorem Far.refl (W : World) (B : Nat) : Far W W B := fun _ => .inl rfl
theorem Far.trans {W W1 W2 : World} {B : Nat} (h : Far W W1 B) (k : Far W1 W2 B) : Far W W2 B := fun j => by
  rcases h j with e | e
  · rcases k j with f | ⟨l, cs, T, fr, f, g⟩
    · exact .inl (f.trans e)
    · exact .inr ⟨l, cs, T, fr, e ▸ f, g⟩
  · exact .inr e
theorem far_setCell {W : World} {M B i : Nat} {cs : Array Value} {T : TypeId} {fr : Nat × Nat} (hg : W.heap[M]? = some (.cells cs T fr)) (no : No16 cs) (hM : M < B) (v : Value) : Far W (W.setCell ⟨M, i, none⟩ v) B := fun j => by
  by_cases e : j = M
  · subst e; exact .inr ⟨hM, cs, T, fr, hg, no⟩
  · exact .inl (Below.heap_setCell _ _ _ _ e)
theorem far_setRow {W : World} {M B : Nat} {cs : Array Value} {T : TypeId} {fr : Nat × Nat} (hg : W.heap[M]? = some (.cells cs T fr)) (no : No16 cs) (hM : M < B) (c : Array Value) : Far W (W.setRow M c) B := fun j => by
  by_cases e : j = M
  · subst e; exact .inr ⟨hM, cs, T, fr, hg, no⟩
  · exact .inl (setRow_other W M j c e)
theorem Far.cell {W W' : World} {B : Nat} (h : Far W W' B) {a : Addr} (ha : ∀ cs T fr, W.heap[a.block]? = some (.cells cs T fr) → a.block < B → ¬ No16 cs) : W'.heap[a.block]? = W.heap[a.block]? := by
  rcases h a.block with e | ⟨l, cs, T, fr, e, g⟩
  · exact e
  · exact absurd g (ha cs T fr e l)
theorem Far.holds {W W' : World} {B : Nat} (h : Far W W' B) {p : Option Addr} {n c : Nat} {vs : List Value} (hh : Holds W p n c vs) (hb : ∀ a, p = some a → B ≤ a.block) : Holds W' p n c vs := by
  refine ⟨hh.len, hh.cap, hh.max, hh.bare, fun i u hu => ?_⟩
  obtain ⟨a, ha, hc⟩ := hh.cell i u hu
  refine ⟨a, ha, (World.cell?_of_block ?_).trans hc⟩
  rw [add_block]
  exact h.cell fun cs T fr _ l => by have := hb a ha; omega
theorem Far.new {W W' : World} {B : Nat} (h : Far W W' B) {p : Option Addr} {n c : Nat} {vs : List Value} (hh : New B W p n c vs) : New B W' p n c vs := by
  refine ⟨h.holds hh.holds hh.base, hh.base, fun a ha i hi => ?_⟩
  rw [World.frozen?_of_block (w := W)]
  · exact hh.free a ha i hi
  · rw [add_block]
    exact h.cell fun cs T fr _ l => by have := hh.base a ha; omega
theorem Far.news {W W' : World} {B : Nat} (h : Far W W' B) {fs : List Fld} (hn : NewsX B W fs) : NewsX B W' fs := fun f hf => h.new (hn f hf)
theorem cell16 {W : World} {a : Addr} {t : Int} (h : W.cell? a = some (.int .u16 t)) {cs : Array Value} {T : TypeId} {fr : Nat × Nat} (hg : W.heap[a.block]? = some (.cells cs T fr)) : ¬ No16 cs := fun no => by
  unfold World.cell? at h
  rw [hg] at h
  simp only at h
  split at h
  · cases h
  · exact no _ _ h t rfl
theorem Far.holdsX {W W' : World} {B : Nat} (h : Far W W' B) {p : Option Addr} {n c : Nat} {fs : List Fld} (hx : HoldsX W p n c fs) (hn : NewsX B W fs) : HoldsX W' p n c fs := by
  refine ⟨hx.len, hx.cap, hx.max, hx.bare, fun i f hf => ?_⟩
  obtain ⟨a, ha, c0, c1, hd⟩ := hx.cell i f hf
  have far : ∀ o, (∀ cs T fr, W.heap[(a.add o).block]? = some (.cells cs T fr) → (a.add o).block < B → ¬ No16 cs) := fun o cs T fr hg _ => by
    rw [add_block] at hg
    exact cell16 c0 (by rw [add_block]; exact hg)
  exact ⟨a, ha, (World.cell?_of_block (h.cell (far _))).trans c0, (World.cell?_of_block (h.cell (far _))).trans c1, h.holds hd (hn f (List.mem_of_getElem? hf)).base⟩
theorem set_exts {w : World} {N : Nat} {h : Hd} (hg : w.heap[N]? = some (.cells (pkC h Xt.zero) 27 (0, 0))) (p : Option Addr) (n c : Nat) :
    (w.setCell ⟨N, 13, none⟩ (.slice p n c)).heap[N]? = some (.cells (pkC h ⟨p, n, c, false, 0, 0⟩) 27 (0, 0)) := by
  have e : pkC h ⟨p, n, c, false, 0, 0⟩ = (pkC h Xt.zero).set! 13 (.slice p n c) := rfl
  rw [e]
  exact blk_set hg

/-- A packet that says k, whose fields' data are in new memory, and an error's number, are told. -/
def PakN (w : World) (k : Pak) (E : Nat) (e : Ending) (w' : World) : Prop :=
  ∃ h x fs, e = .returned (.tuple #[pkV h x, .int .i64 (E : Nat)]) ∧ Pk w' h x fs k ∧ NewsX w.heap.size w' fs ∧ Below w.heap.size w w'
theorem PakN.r {w w' : World} {k : Pak} {E : Nat} {e : Ending} (h : PakN w k E e w') : PakR w k E e w' := by
  obtain ⟨h, x, fs, a, b, -, c⟩ := h
  exact ⟨h, x, fs, a, b, c⟩
theorem pakN_err {w w' : World} {E : Nat} (l : Below w.heap.size w w') : PakN w Pak.zero E (.returned (.tuple #[pkV Hd.zero Xt.zero, .int .i64 (E : Nat)])) w' := ⟨_, _, [], rfl, pk_zero w', newsX_nil _ _, l⟩
end Go.Proofs.Ytfnidehbibfclaa
