/- TimersOrder: the instants that came, each once: a map of them, and a row. -/
import Derived.Test.YtbfmmeapjfljbaaTmV
import Derived.Test.YtbfmmeapjfljbaaFrameB
set_option maxRecDepth 100000
namespace Go.Proofs.Ytbfmmeapjfljbaa
open Go.ChangeShapes Go.WideShapes Go.ChangeAt Go.RowKit Go.Maps HeapM

def kw (d : Nat) : Lit := .int .u16 (d : Nat)
theorem kw_key (d : Nat) : WideAt.IsKeyLit (kw d) := trivial
theorem kw_ne {a b : Nat} (h : a ≠ b) : kw a ≠ kw b := fun e => by
  unfold kw at e
  injection e with _ e
  omega
theorem kw_of {d : Nat} (h : d < 65536) : keyOf Try.prog 22 (.int .u16 (d : Nat)) = some (kw d) :=
  keyOf_int_mk Try.underlying22 (by simp [Lit.wf, IntKind.min, IntKind.max, IntKind.signed, IntKind.bits]; omega)
theorem law16 : Keyed Try.prog 22 := int_keyed Try.underlying22
def MapU (w : World) (b n : Nat) (D : DataW Unit) : Prop := w.ownsMap Try.prog 22 RP b n D
theorem MapU.tight {w : World} {m n : Nat} {D : DataW Unit} (h : MapU w m n D) : MapU w m (Maps.size D) D := by
  obtain ⟨es, clock, hb, F, hs, rfl⟩ := h
  exact ⟨es, clock, hb, F, by simp [Maps.size, length_sorted], rfl⟩
theorem MapU.blk {w : World} {b n : Nat} {D : DataW Unit} (h : MapU w b n D) : ∃ es k, w.heap[b]? = some (.map es k) := by
  obtain ⟨es, k, hb, -⟩ := h
  exact ⟨es, k, hb⟩
theorem MapU.same {w w' : World} {m n : Nat} {D : DataW Unit} (h : MapU w m n D) (e : w'.heap[m]? = w.heap[m]?) : MapU w' m n D := by
  obtain ⟨es, k, hb, r⟩ := h
  exact ⟨es, k, by rw [e]; exact hb, r⟩
theorem MapU.look1 {w : World} {b n : Nat} {D : DataW Unit} (h : MapU w b n D) {d k : Nat} (hd : d < 65536) (hk : D.atKey (kw d) (dk 0) = dk k) :
    (Instr.lookup 41 (.map (some b)) (.int .u16 (d : Nat)) false).run Try.prog w = .ok (.int .i64 (k : Nat)) w := by
  obtain ⟨v, ps, hr, hv⟩ := World.ownsMap.lookup h law16 Try.underlying41 (zeroP w) (RP_mk 0) (kw_of hd)
  rw [hk] at hv
  rw [hr, RP_inv hv]
/-- What the map says: these have come. -/
structure SeenD (D : DataW Unit) (A : List Nat) : Prop where
  tidy : Tidy D
  has : ∀ d, Maps.has D (kw d) = true ↔ d ∈ A
  at_ : ∀ d ∈ A, ∀ z, D.atKey (kw d) z = dk 1
  size : Maps.size D = A.length
theorem seen_nil : SeenD (.map []) [] := ⟨tidy_empty, fun d => ⟨fun h => by simp [Maps.has_eq] at h, fun h => by simp at h⟩, (fun d hd => by cases hd), rfl⟩
theorem SeenD.none {D : DataW Unit} {A : List Nat} (h : SeenD D A) {d : Nat} (n : d ∉ A) (z : DataW Unit) : Maps.has D (kw d) = false ∧ D.atKey (kw d) z = z := by
  have f : Maps.has D (kw d) = false := by
    cases g : Maps.has D (kw d) with
    | false => rfl
    | true => exact absurd ((h.has d).1 g) n
  exact ⟨f, atKey_of_not_has f z⟩
theorem SeenD.put {D : DataW Unit} {A : List Nat} (h : SeenD D A) {d : Nat} (n : d ∉ A) : SeenD (D.put (kw d) (dk 1)) (A ++ [d]) := by
  refine ⟨h.tidy.put (kw_key _) _, fun f => ?_, fun f hf z => ?_, ?_⟩
  · by_cases e : f = d
    · subst e
      rw [has_put_same h.tidy.isMap (kw_key _)]
      simp
    · rw [has_put_other (kw_ne e), h.has]
      simp [e]
  · by_cases e : f = d
    · subst e
      rw [atKey_put_same h.tidy.isMap (kw_key _)]
    · rw [atKey_put_other (kw_ne e)]
      refine h.at_ f ?_ z
      rcases List.mem_append.1 hf with q | q
      · exact q
      · exact absurd (List.mem_singleton.1 q) e
  · rw [size_put h.tidy, (h.none n (dk 1)).1, h.size]
    simp

theorem infoU : (Try.prog.info? 22).map (fun i => (i.zero, i.size, i.bytes)) = some (some (.int .u16 0), 1, 2) := by kernel_rfl
def OwnU (w : World) (B : Nat) (p : Option Addr) (n c : Nat) (A : List Nat) : Prop := w.ownsRow B 22 1 (.slice p n c) n (valsN .u16 A)
theorem OwnU.keep {w w' : World} {B : Nat} {p : Option Addr} {n c : Nat} {l : List Nat} (h : OwnU w B p n c l) (k : ∀ a, p = some a → w'.heap[a.block]? = w.heap[a.block]?) : OwnU w' B p n c l := by
  refine ⟨h.1, ?_⟩
  rcases h.2 with hn | ⟨g, cap, cur, e, hb, hg, r⟩
  · exact .inl hn
  · injection e with e1 e2 e3
    subst e1 e3
    exact .inr ⟨g, c, cur, rfl, hb, by rw [k _ rfl]; exact hg, r⟩
theorem OwnU.lt {w : World} {B : Nat} {n c : Nat} {a : Addr} {l : List Nat} (h : OwnU w B (some a) n c l) : a.block < w.heap.size ∧ B ≤ a.block ∧ ∃ cs f, w.heap[a.block]? = some (.cells cs 22 f) := by
  rcases h.2 with ⟨e, -⟩ | ⟨g, cap, cur, e, hb, hg, r⟩
  · injection e with e1 _ _; cases e1
  · injection e with e1 _ _
    injection e1 with e1
    subst e1
    exact ⟨(Array.getElem?_eq_some_iff.1 hg).1, hb, _, _, hg⟩
theorem OwnU.len {w : World} {B : Nat} {p : Option Addr} {n c : Nat} {l : List Nat} (h : OwnU w B p n c l) : l.length = n := by
  have := h.1
  rw [valsN_len] at this
  omega
theorem OwnU.at {w : World} {B n c : Nat} {p : Option Addr} {l : List Nat} (h : OwnU w B p n c l) (hn : 0 < n) : ∃ a, p = some a ∧ B ≤ a.block ∧ (n : Int) ≤ 9223372036854775807 ∧ ∀ j, j < n → (a.add j).block = a.block ∧ w.cell? (a.add j) = some (.int .u16 (l.getD j 0 : Nat)) := by
  have hc := h
  unfold OwnU at hc
  have ln := h.len
  rcases h.2 with ⟨e, e2⟩ | ⟨g, cap, cur, e, hb, hg, r1, r2, -⟩
  · injection e with e1 e2 e3; omega
  · injection e with e1 e2 e3
    subst e1 e3
    refine ⟨_, rfl, hb, by unfold maxLen at r2; omega, fun j hj => ⟨?_, World.ownsRow.cells hc (g := g) rfl j _ (valsN_get (by omega))⟩⟩
    unfold Addr.add
    split <;> rfl

/-- While they come: the map, and the row. -/
structure SeeM (v0 wr : World) (b : Nat) (p : Option Addr) (n c : Nat) (A A' : List Nat) : Prop where
  m : ∃ D, MapU wr b (Maps.size D) D ∧ SeenD D A'
  o : OwnU wr v0.heap.size p n c A
  nb : v0.heap.size ≤ b
  far : ∀ a, p = some a → a.block ≠ b
  low : Below v0.heap.size v0 wr
theorem SeeM.below {v0 wr w' : World} {b n c : Nat} {p : Option Addr} {A A' : List Nat} (h : SeeM v0 wr b p n c A A') (k : Below wr.heap.size wr w') : SeeM v0 w' b p n c A A' := by
  obtain ⟨D, m, s⟩ := h.m
  exact ⟨⟨D, m.same (k.block b (World.ownsMap.lt m)), s⟩, h.o.keep fun a ha => by
    have := h.o
    subst ha
    exact k.block _ this.lt.1, h.nb, h.far, h.low.trans (k.mono h.low.size)⟩
/-- The map has turned. -/
theorem SeeM.put {v0 wr w' : World} {b n c k d : Nat} {p : Option Addr} {A : List Nat} {D : DataW Unit} (h : SeeM v0 wr b p n c A A) (s : SeenD D A) (nd : d ∉ A) (m : MapU w' b k (D.put (kw d) (dk 1))) (u : wr.mapTurned w' b) : SeeM v0 w' b p n c A (A ++ [d]) := by
  have g := u.grown
  refine ⟨⟨_, m.tight, s.put nd⟩, h.o.keep fun a ha => ?_, h.nb, h.far, h.low.grown g h.low.size fun j hj => by injection hj with hj; rw [← hj]; exact h.nb⟩
  have := h.o
  subst ha
  exact g.block _ this.lt.1 (fun e => by injection e with e; exact h.far a rfl e)
/-- The row has grown. -/
theorem SeeM.app {v0 wr w7 : World} {b n c d gg cap : Nat} {p : Option Addr} {A A' : List Nat} (h : SeeM v0 wr b p n c A A') (hA : A' = A ++ [d]) (o7 : w7.ownsRow v0.heap.size 22 1 (.slice (some ⟨gg, 0, none⟩) (n + 1) cap) (n + 1) (valsN .u16 A ++ [.int .u16 (d : Nat)])) (g7 : wr.grownBy w7 (Value.slice p n c).ownBlock) (m7 : (Value.slice p n c).ownBlock = some gg ∨ gg = wr.heap.size) : SeeM v0 w7 b (some ⟨gg, 0, none⟩) (n + 1) cap A' A' := by
  obtain ⟨D, m, s⟩ := h.m
  have bl := World.ownsMap.lt m
  have hr : ∀ j, (Value.slice p n c).ownBlock = some j → v0.heap.size ≤ j ∧ j ≠ b := fun j hj => by
    cases hp : p with
    | none => rw [hp] at hj; cases hj
    | some a =>
      rw [hp] at hj
      injection hj with hj
      have o := h.o
      rw [hp] at o
      rw [← hj]
      exact ⟨o.lt.2.1, h.far a hp⟩
  refine ⟨⟨D, m.same (g7.block b bl fun e => (hr b e.symm).2 rfl), s⟩, ?_, h.nb, fun a ha => ?_, h.low.grown g7 h.low.size fun j hj => (hr j hj).1⟩
  · unfold OwnU
    rw [hA, show valsN .u16 (A ++ [d]) = valsN .u16 A ++ [.int .u16 (d : Nat)] by unfold valsN; rw [List.map_append]; rfl]
    exact o7
  · injection ha with ha
    subst ha
    rcases m7 with e | e
    · exact (hr _ e).2
    · show gg ≠ b
      omega
/-! ### Places in the row -/
theorem take_next {A : List Nat} {j : Nat} (h : j < A.length) : A.take (j + 1) = A.take j ++ [A.getD j 0] := by
  rw [List.take_succ_eq_append_getElem h, List.getD_eq_getElem?_getD, List.getElem?_eq_getElem h]
  rfl
theorem take_not {A : List Nat} {j : Nat} (h : j < A.length) (nd : A.Nodup) : A.getD j 0 ∉ A.take j := fun e => by
  have n := nd.sublist (List.take_sublist (j + 1) A)
  rw [take_next h, List.nodup_append] at n
  exact n.2.2 _ e _ (List.mem_singleton.2 rfl) rfl
theorem rev_get {A : List Nat} {j : Nat} (h : j < A.length) : A.reverse.getD j 0 = A.getD (A.length - 1 - j) 0 := by
  rw [List.getD_eq_getElem?_getD, List.getD_eq_getElem?_getD, List.getElem?_reverse h]
theorem getD_in {A : List Nat} {j : Nat} (h : j < A.length) : A.getD j 0 ∈ A := by
  rw [List.getD_eq_getElem?_getD, List.getElem?_eq_getElem h]
  exact List.getElem_mem h
theorem wraps_of {z : Nat} (hz : z < 65536) : IntKind.u16.wrap ((z : Nat) : Int) = (z : Nat) ∧ IntKind.i64.wrap ((z : Nat) : Int) = (z : Nat) ∧ wrap64 ((z : Nat) : Int) = (z : Nat) :=
  ⟨by rw [IntKind.wrap_u16]; omega, by rw [IntKind.wrap_i64]; omega, by unfold wrap64; omega⟩
theorem odd_num {a : Nat} (h : a < 65536) : ∃ (r : Nat), r ≤ 1 ∧ ((a : Nat) : Int).tmod 2 = (r : Nat) ∧ ((a : Nat) : Int) % 2 = (r : Nat) ∧ (((r : Nat) : Int) == 1) = oddN a ∧ (r == 1) = oddN a ∧ decide (((r : Nat) : Int) = 1) = oddN a ∧ decide (r = 1) = oddN a := by
  refine ⟨a % 2, by omega, by rw [Int.tmod_eq_emod_of_nonneg (by omega)]; omega, by omega, ?_⟩
  unfold oddN
  by_cases c : a % 2 = 1
  · rw [c]; decide
  · have e : a % 2 = 0 := by omega
    rw [e]; decide
section
variable {w wr : World} {B0 : Nat} {v : World} {T2 : Thg} {N : Nat} {s : TS} {A : List Nat}
/-- One more, of its instant at once. -/
theorem Pair.addX (h : Pair w B0 v wr (tTh N s) T2) (q : OrdS s A) (hA : A.length < 40) (x : Nat) (hx : x < 65536) (nx : x ∉ A) :
    Calls Try.prog 7 #[.pointer (some ⟨N, 0, none⟩), .agg #[.bool (oddN x), .int .i64 (x : Nat), .int .i64 0]] wr fun r w' => r = .returned (.tuple #[.int .u64 (A.length + 1 : Nat), .int .i64 0]) ∧ ∃ s', Pair w B0 v w' (tTh N s') T2 ∧ OrdS s' (A ++ [x]) :=
  (h.add q hA (oddN x) x (by omega) (by omega)).mono fun r w' ⟨a, s', p, m⟩ => ⟨a, s', p, m.done p.ok (by decide) nx⟩
end
end Go.Proofs.Ytbfmmeapjfljbaa
