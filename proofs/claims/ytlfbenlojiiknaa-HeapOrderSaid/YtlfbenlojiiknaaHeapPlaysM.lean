/- HeapPlays: things side by side in one world, each with blocks of its own: the program's heap, the document's, a third one. -/
import Derived.Test.YtlfbenlojiiknaaHeapAheadW
namespace Go.Proofs.Ytlfbenlojiiknaa
open Go.ChangeShapes Go.WideShapes Go.ChangeAt Go.RowKit HeapM

/-- A thing that stands on blocks of its own. -/
structure Th where
  P : World → (Nat → Prop) → Prop
  keep : ∀ {w w' F}, P w F → (∀ K, F K → w'.heap[K]? = w.heap[K]?) → P w' F
  lt : ∀ {w F}, P w F → ∀ K, F K → K < w.heap.size
def noTh : Th := ⟨fun _ F => ∀ K, ¬ F K, fun h _ => h, fun h K k => absurd k (h K)⟩
/-- The program's heap. -/
def hTh (C : HCode) (N sz : Nat) (l : List It) : Th := ⟨fun w F => C.Hq w F N sz l, fun h k => C.keep h k, fun h K k => C.lt h K k⟩

theorem OwnI.same {w w' : World} {T : TypeId} {B n c : Nat} {p : Option Addr} {l : List It} (h : OwnI w T B p n c l) (k : ∀ a, p = some a → w'.heap[a.block]? = w.heap[a.block]?) : OwnI w' T B p n c l := by
  obtain ⟨h0, ⟨e, hl⟩ | ⟨g, cap, cur, e, hb, hg, h1, h2, h3, h4⟩⟩ := h
  · exact ⟨h0, .inl ⟨e, hl⟩⟩
  · refine ⟨h0, .inr ⟨g, cap, cur, e, hb, ?_, h1, h2, h3, h4⟩⟩
    injection e with e1
    exact (k _ e1).trans hg
theorem OwnI.blk_lt {w : World} {T : TypeId} {B n c : Nat} {a : Addr} {l : List It} (h : OwnI w T B (some a) n c l) : a.block < w.heap.size := by
  obtain ⟨-, ⟨e, -⟩ | ⟨g, cap, cur, e, hb, hg, h1, h2, h3, h4⟩⟩ := h
  · cases e
  · injection e with e1
    injection e1 with e1
    rw [e1]
    exact (Array.getElem?_eq_some_iff.1 hg).1
/-- The document's. -/
def rF (M : Nat) (p : Option Addr) (K : Nat) : Prop := K = M ∨ ∃ a, p = some a ∧ K = a.block
def rTh (M : Nat) (sz : Int) (l : List It) : Th where
  P := fun w F => ∃ p c, RHp w M p c sz l ∧ ∀ K, F K ↔ rF M p K
  keep := fun ⟨p, c, h, f⟩ k => ⟨p, c, ⟨(k M ((f M).2 (.inl rfl))).trans h.b, h.o.same fun a ha => k a.block ((f _).2 (.inr ⟨a, ha, rfl⟩)), h.far, h.fit⟩, f⟩
  lt := fun ⟨p, c, h, f⟩ K k => by
    rcases (f K).1 k with rfl | ⟨a, rfl, rfl⟩
    · exact (Array.getElem?_eq_some_iff.1 h.b).1
    · exact h.o.blk_lt
theorem HTurn.ft {M : Nat} {p : Option Addr} {w w' : World} (h : HTurn M p w w') {F : Nat → Prop} (f : ∀ K, F K ↔ rF M p K) : FT F w w' :=
  ⟨fun K n k => h.keep K (fun e => n ((f K).2 (.inl e))) (fun a ha e => n ((f K).2 (.inr ⟨a, ha, e⟩))) k, fun B b s => h.low B (b M ((f M).2 (.inl rfl))) (fun a ha => b _ ((f _).2 (.inr ⟨a, ha, rfl⟩))) s, h.size⟩
/-- A call of the document's heap, as a thing's. -/
theorem rTh_of {w w' : World} {M : Nat} {p : Option Addr} {sz : Int} {l : List It} {F : Nat → Prop} (f : ∀ K, F K ↔ rF M p K) (h : RHpP w M p sz l w') : ∃ F', (rTh M sz l).P w' F' ∧ FT F w w' ∧ ∀ K, F' K → F K ∨ w.heap.size ≤ K := by
  obtain ⟨p', c', r, t, n⟩ := h
  refine ⟨rF M p', ⟨p', c', r, fun _ => Iff.rfl⟩, t.ft f, fun K k => ?_⟩
  rcases k with e | ⟨a, ha, e⟩
  · exact .inl ((f K).2 (.inl e))
  · rcases n with n | n
    · exact .inl ((f K).2 (.inr ⟨a, by rw [← n]; exact ha, e⟩))
    · right; rw [e]; exact n a ha

/-- Three things, told apart; the blocks from B0 up to v's end, nobody's, are as they were in v. -/
structure Side (w : World) (B0 : Nat) (v wr : World) (T1 T2 T3 : Th) : Prop where
  out : ∃ F G H, T1.P wr F ∧ T2.P wr G ∧ T3.P wr H ∧ (∀ K, F K ∨ G K ∨ H K → w.heap.size ≤ K ∧ (K < B0 ∨ v.heap.size ≤ K)) ∧ ∀ K, (F K → ¬ G K) ∧ (F K → ¬ H K) ∧ (G K → ¬ H K)
  keep : ∀ K, B0 ≤ K → K < v.heap.size → wr.heap[K]? = v.heap[K]?
  low : Below w.heap.size w wr
  size : v.heap.size ≤ wr.heap.size
section
variable {w : World} {B0 : Nat} {v wr w' : World} {T1 T2 T3 T' : Th}
theorem Side.turn (h : Side w B0 v wr T1 T2 T3) : Side w B0 v wr T2 T3 T1 := by
  obtain ⟨F, G, H, f, g, k, u, n⟩ := h.out
  refine ⟨⟨G, H, F, g, k, f, fun K z => u K ?_, fun K => ⟨(n K).2.2, fun a b => (n K).1 b a, fun a b => (n K).2.1 b a⟩⟩, h.keep, h.low, h.size⟩
  rcases z with z | z | z
  · exact .inr (.inl z)
  · exact .inr (.inr z)
  · exact .inl z
theorem Side.below (h : Side w B0 v wr T1 T2 T3) (k : Below wr.heap.size wr w') : Side w B0 v w' T1 T2 T3 := by
  obtain ⟨F, G, H, f, g, q, u, n⟩ := h.out
  exact ⟨⟨F, G, H, T1.keep f fun K z => k.block K (T1.lt f K z), T2.keep g fun K z => k.block K (T2.lt g K z), T3.keep q fun K z => k.block K (T3.lt q K z), u, n⟩, fun K a b => (k.block K (Nat.lt_of_lt_of_le b h.size)).trans (h.keep K a b), h.low.trans (k.mono h.low.size), Nat.le_trans h.size k.size⟩
theorem Side.start (h : Side w B0 v wr T1 T2 T3) (k : Below wr.heap.size wr w') : Side w wr.heap.size w' w' T1 T2 T3 := by
  obtain ⟨F, G, H, f, g, q, u, n⟩ := (h.below k).out
  obtain ⟨F0, G0, H0, f0, g0, q0, u0, n0⟩ := h.out
  refine ⟨⟨F0, G0, H0, T1.keep f0 fun K z => k.block K (T1.lt f0 K z), T2.keep g0 fun K z => k.block K (T2.lt g0 K z), T3.keep q0 fun K z => k.block K (T3.lt q0 K z), fun K z => ⟨(u0 K z).1, .inl ?_⟩, n0⟩, fun _ _ _ => rfl, h.low.trans (k.mono h.low.size), Nat.le_refl _⟩
  rcases z with z | z | z
  · exact T1.lt f0 K z
  · exact T2.lt g0 K z
  · exact T3.lt q0 K z
/-- A call on the first one. -/
theorem Side.call {f : FuncId} {args : Array Value} {E : Ending → Prop} (h : Side w B0 v wr T1 T2 T3)
    (c : ∀ F, T1.P wr F → Calls Try.prog f args wr fun e w' => E e ∧ ∃ F', T'.P w' F' ∧ FT F wr w' ∧ ∀ K, F' K → F K ∨ wr.heap.size ≤ K) :
    Calls Try.prog f args wr fun e w' => E e ∧ Side w B0 v w' T' T2 T3 := by
  obtain ⟨F, G, H, hF, hG, hH, u, n⟩ := h.out
  refine (c F hF).mono fun e w' ⟨a, F', k, t, m⟩ => ⟨a, ⟨F', G, H, k, T2.keep hG fun K z => t.keep K (fun y => (n K).1 y z) (T2.lt hG K z), T3.keep hH fun K z => t.keep K (fun y => (n K).2.1 y z) (T3.lt hH K z), fun K z => ?_, fun K => ⟨fun z y => ?_, fun z y => ?_, (n K).2.2⟩⟩, fun K h1 h2 => ?_, h.low.trans (t.low _ (fun K z => (u K (.inl z)).1) h.low.size), Nat.le_trans h.size t.size⟩
  · rcases z with z | z
    · rcases m K z with y | y
      · exact u K (.inl y)
      · exact ⟨Nat.le_trans h.low.size y, .inr (Nat.le_trans h.size y)⟩
    · exact u K (.inr z)
  · rcases m K z with x | x
    · exact (n K).1 x y
    · have := T2.lt hG K y; omega
  · rcases m K z with x | x
    · exact (n K).2.1 x y
    · have := T3.lt hH K y; omega
  · refine (t.keep K (fun z => ?_) (Nat.lt_of_lt_of_le h2 h.size)).trans (h.keep K h1 h2)
    rcases (u K (.inl z)).2 with y | y <;> omega
/-- A third one, all of it new. -/
theorem Side.add {F' : Nat → Prop} (h : Side w B0 v wr T1 T2 noTh) (b : Below wr.heap.size wr w') (p : T'.P w' F') (n : ∀ K, F' K → wr.heap.size ≤ K) : Side w B0 v w' T1 T2 T' := by
  obtain ⟨F, G, H, f, g, -, u, m⟩ := h.out
  refine ⟨⟨F, G, F', T1.keep f fun K z => b.block K (T1.lt f K z), T2.keep g fun K z => b.block K (T2.lt g K z), p, fun K z => ?_, fun K => ⟨(m K).1, fun z y => ?_, fun z y => ?_⟩⟩, fun K h1 h2 => (b.block K (Nat.lt_of_lt_of_le h2 h.size)).trans (h.keep K h1 h2), h.low.trans (b.mono h.low.size), Nat.le_trans h.size b.size⟩
  · rcases z with z | z | z
    · exact u K (.inl z)
    · exact u K (.inr (.inl z))
    · exact ⟨Nat.le_trans h.low.size (n K z), .inr (Nat.le_trans h.size (n K z))⟩
  · have := T1.lt f K z; have := n K y; omega
  · have := T2.lt g K z; have := n K y; omega
/-- One that nobody asks for any more. -/
theorem Side.drop (h : Side w B0 v wr T1 T2 T3) : Side w B0 v wr T1 T2 noTh := by
  obtain ⟨F, G, H, f, g, q, u, n⟩ := h.out
  refine ⟨⟨F, G, fun _ => False, f, g, fun _ z => z, fun K z => u K ?_, fun K => ⟨(n K).1, fun _ z => z, fun _ z => z⟩⟩, h.keep, h.low, h.size⟩
  rcases z with z | z | z
  · exact .inl z
  · exact .inr (.inl z)
  · exact z.elim
theorem Side.cells (h : Side w B0 v wr T1 T2 T3) {K o : Nat} {cs : Array Value} {T : TypeId} (h0 : B0 ≤ K) (hK : v.heap[K]? = some (.cells cs T (0, 0))) : wr.cell? ⟨K, o, none⟩ = cs[o]? :=
  blk_cell ((h.keep K h0 (Array.getElem?_eq_some_iff.1 hK).1).trans hK)
end
end Go.Proofs.Ytlfbenlojiiknaa
