/- Fields in new memory; what a Parse tells; loads and stores of one field by value: for layers 5, 7 and on. -/
import Derived.Test.YteclcefeipjoeaaExtM
import Derived.Test.YteclcefeipjoeaaOctV
namespace Go.Proofs.Yteclcefeipjoeaa
open Go.ChangeShapes Go.WideShapes Go.ChangeAt Go.RowKit OctM

/-- Fields' cells, two each. -/
def cellsX (fs : List Fld) : List Value := fs.flatMap fun f => [.int .u16 (f.ty : Nat), .slice f.p f.n f.c]
theorem cellsX_nil : cellsX [] = [] := rfl
theorem cellsX_cons (f : Fld) (fs : List Fld) : cellsX (f :: fs) = .int .u16 (f.ty : Nat) :: .slice f.p f.n f.c :: cellsX fs := by unfold cellsX; rw [List.flatMap_cons]; rfl
theorem cellsX_snoc (fs : List Fld) (f : Fld) : cellsX (fs ++ [f]) = cellsX fs ++ [.int .u16 (f.ty : Nat), .slice f.p f.n f.c] := by unfold cellsX; rw [List.flatMap_append]; simp
theorem cellsX_append (fs gs : List Fld) : cellsX (fs ++ gs) = cellsX fs ++ cellsX gs := by unfold cellsX; rw [List.flatMap_append]
theorem cellsX_len (fs : List Fld) : (cellsX fs).length = fs.length * 2 := by
  induction fs with
  | nil => rfl
  | cons f fs ih => rw [cellsX_cons, List.length_cons, List.length_cons, List.length_cons, ih]; omega
theorem cellsX_one (fs : List Fld) : ∀ u ∈ cellsX fs, u.oneCell' = true := by
  intro u hu
  unfold cellsX at hu
  obtain ⟨f, _, hf⟩ := List.mem_flatMap.1 hu
  simp only [List.mem_cons, List.not_mem_nil, or_false] at hf
  rcases hf with rfl | rfl <;> rfl
theorem cellsX_get : ∀ (fs : List Fld) (i : Nat) (f : Fld), fs[i]? = some f → (cellsX fs)[i * 2]? = some (.int .u16 (f.ty : Nat)) ∧ (cellsX fs)[i * 2 + 1]? = some (.slice f.p f.n f.c)
  | [], i, f, h => by simp at h
  | g :: fs, 0, f, h => by
    have e : g = f := by simpa using h
    subst e
    rw [cellsX_cons]; exact ⟨rfl, rfl⟩
  | g :: fs, i + 1, f, h => by
    rw [cellsX_cons, show (i + 1) * 2 = i * 2 + 1 + 1 by omega]
    exact cellsX_get fs i f (by simpa using h)

/-- Each field's bytes lie there. -/
def DataX (w : World) (fs : List Fld) : Prop := ∀ f ∈ fs, Holds w f.p f.n f.c (valsN .u8 f.ds)
/-- Each field's bytes lie in new memory. -/
def NewsX (B : Nat) (w : World) (fs : List Fld) : Prop := ∀ f ∈ fs, New B w f.p f.n f.c (valsN .u8 f.ds)
theorem New.below {B : Nat} {w w' : World} {p : Option Addr} {n c : Nat} {vs : List Value} (h : New B w p n c vs) (hb : Below w.heap.size w w') : New B w' p n c vs :=
  ⟨h.holds.below hb, h.base, fun a ha i hi => by
    obtain ⟨u, hu⟩ : ∃ u, vs[i]? = some u := ⟨_, List.getElem?_eq_getElem (by rw [h.holds.len]; exact hi)⟩
    obtain ⟨a', e, hc⟩ := h.holds.cell i u hu
    rw [ha] at e
    cases e
    have lt := World.block_lt_of_cell? w _ hc
    have := h.free a ha i hi
    rw [World.frozen?_of_block (hb.block _ lt)]
    exact this⟩
theorem New.low {B B' : Nat} {w : World} {p : Option Addr} {n c : Nat} {vs : List Value} (h : New B w p n c vs) (hb : B' ≤ B) : New B' w p n c vs := ⟨h.holds, fun a ha => Nat.le_trans hb (h.base a ha), h.free⟩
theorem NewsX.below {B : Nat} {w w' : World} {fs : List Fld} (h : NewsX B w fs) (hb : Below w.heap.size w w') : NewsX B w' fs := fun f hf => (h f hf).below hb
theorem NewsX.low {B B' : Nat} {w : World} {fs : List Fld} (h : NewsX B w fs) (hb : B' ≤ B) : NewsX B' w fs := fun f hf => (h f hf).low hb
theorem NewsX.data {B : Nat} {w : World} {fs : List Fld} (h : NewsX B w fs) : DataX w fs := fun f hf => (h f hf).holds
theorem DataX.below {w w' : World} {fs : List Fld} (h : DataX w fs) (hb : Below w.heap.size w w') : DataX w' fs := fun f hf => (h f hf).below hb
theorem newsX_nil (B : Nat) (w : World) : NewsX B w [] := fun f hf => by cases hf
theorem newsX_snoc {B : Nat} {w : World} {fs : List Fld} {f : Fld} (h : NewsX B w fs) (g : New B w f.p f.n f.c (valsN .u8 f.ds)) : NewsX B w (fs ++ [f]) := fun x hx => by
  rcases List.mem_append.1 hx with a | a
  · exact h x a
  · obtain rfl : x = f := by simpa using a
    exact g
theorem HoldsX.data {w : World} {p : Option Addr} {n c : Nat} {fs : List Fld} (h : HoldsX w p n c fs) : DataX w fs := fun f hf => by
  obtain ⟨i, hi, e⟩ := List.getElem_of_mem hf
  obtain ⟨a, _, _, _, hh⟩ := h.cell i f (by rw [List.getElem?_eq_getElem hi, e])
  exact hh
theorem holdsX_nil (w : World) (p : Option Addr) (c : Nat) (h : c ≤ maxLen) (g : p = none → c = 0) : HoldsX w p 0 c [] := ⟨rfl, Nat.zero_le _, h, g, fun i f hf => by simp at hf⟩
/-- The call's own row of fields, as what may be read. -/
theorem ownX {w : World} {B : Nat} {T : TypeId} {v : Value} {n : Nat} {fs : List Fld} (h : w.ownsRow B T 2 v n (cellsX fs)) (hd : DataX w fs) : fs.length = n ∧ ∃ p c, v = .slice p n c ∧ HoldsX w p n c fs ∧ ∀ a, p = some a → B ≤ a.block := by
  have hl := h.1
  rw [cellsX_len] at hl
  have ln : fs.length = n := by omega
  refine ⟨ln, ?_⟩
  have hc := h
  obtain ⟨-, ⟨rfl, rfl⟩ | ⟨g, cap, cur, rfl, hb, hg, h1, h2, h3, h4⟩⟩ := h
  · obtain rfl : fs = [] := List.length_eq_zero_iff.1 ln
    exact ⟨none, 0, rfl, holdsX_nil _ _ _ (Nat.zero_le _) (fun _ => rfl), fun a ha => by cases ha⟩
  · refine ⟨_, cap, rfl, ⟨ln, h1, h2, (fun e => by cases e), fun i f hf => ?_⟩, fun a ha => by cases ha; exact hb⟩
    obtain ⟨c1, c2⟩ := cellsX_get fs i f hf
    exact ⟨_, rfl, World.ownsRow.cells hc (g := g) rfl _ _ c1, World.ownsRow.cells hc (g := g) rfl _ _ c2, hd f (List.mem_of_getElem? hf)⟩

/-- What a Parse tells: fields and bytes in new memory, an error's number. -/
def ParR (w : World) (r : ParO) (e : Ending) (w' : World) : Prop :=
  ∃ p c q d fs, e = .returned (.tuple #[.slice p r.1.length c, .slice q r.2.1.length d, .int .i64 (r.2.2 : Nat)]) ∧ says fs = r.1 ∧ HoldsX w' p r.1.length c fs ∧ NewsX w.heap.size w' fs ∧ New w.heap.size w' q r.2.1.length d (valsN .u8 r.2.1) ∧ Below w.heap.size w w'
theorem parR_err {w w' : World} {x : Nat} (hb : Below w.heap.size w w') : ParR w ([], [], x) (.returned (.tuple #[.slice none 0 0, .slice none 0 0, .int .i64 (x : Nat)])) w' :=
  ⟨none, 0, none, 0, [], rfl, rfl, holdsX_nil _ _ _ (Nat.zero_le _) (fun _ => rfl), newsX_nil _ _, New.nil _ _, hb⟩

theorem says_ok {fs : List Fld} (h : ∀ x ∈ says fs, goodF x) : FldsOk fs := fun f hf => by
  have := h (f.ty, f.ds) (by unfold says; exact List.mem_map.2 ⟨f, hf, rfl⟩)
  exact ⟨this.2.1, this.2.2⟩
theorem ok_says {fs : List Fld} (h : FldsOk fs) : ∀ x ∈ says fs, x.1 < 65536 ∧ Byt x.2 := fun x hx => by
  unfold says at hx
  obtain ⟨f, hf, rfl⟩ := List.mem_map.1 hx
  exact h f hf
theorem says_snoc (fs : List Fld) (f : Fld) : says (fs ++ [f]) = says fs ++ [(f.ty, f.ds)] := by unfold says; rw [List.map_append]; rfl

end Go.Proofs.Yteclcefeipjoeaa
