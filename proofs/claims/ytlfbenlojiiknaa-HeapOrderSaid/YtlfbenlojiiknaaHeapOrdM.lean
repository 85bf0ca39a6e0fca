/- HeapOrder: a map of items, as what the heap holds; the map as a thing beside the heap, under a range too. -/
import Derived.Test.YtlfbenlojiiknaaHeapPlaysN
import Derived.Maps.OwnSet
import Derived.Maps.RangeWalk
set_option maxRecDepth 100000
namespace Go.Proofs.Ytlfbenlojiiknaa
open Go.ChangeShapes Go.WideShapes Go.ChangeAt Go.RowKit Go.Maps HeapM

/-! ### The map of items -/
def ki (d : Nat) : Lit := .int .u64 (d : Nat)
theorem ki_key (d : Nat) : WideAt.IsKeyLit (ki d) := trivial
theorem ki_ne {a b : Nat} (h : a ≠ b) : ki a ≠ ki b := fun e => by
  unfold ki at e
  injection e with _ e
  omega
theorem ki_of {d : Nat} (h : d < 18446744073709551616) : keyOf Try.prog 32 (.int .u64 (d : Nat)) = some (ki d) :=
  keyOf_int_mk Try.underlying32 (by simp [Lit.wf, IntKind.min, IntKind.max, IntKind.signed, IntKind.bits]; omega)
theorem lawI : Keyed Try.prog 32 := int_keyed Try.underlying32
/-- How an item in a map reads. -/
def RI : Value → Option (DataW Unit × List MemPlace)
  | .agg cs => match cs.toList with
    | [.int .u64 a, .int .u64 b, .int .i64 c] => some (.agg [.lit (.int .u64 a), .lit (.int .u64 b), .lit (.int .i64 c)], [])
    | _ => none
  | _ => none
def datI (x : It) : DataW Unit := .agg [.lit (.int .u64 (x.id : Nat)), .lit (.int .u64 (x.seq : Nat)), .lit (.int .i64 x.t)]
theorem RI_mk (x : It) : RI (itV x) = some (datI x, []) := rfl
theorem RI_inv {v : Value} {x : It} {ps : List MemPlace} (h : RI v = some (datI x, ps)) : v = itV x := by
  unfold RI at h
  split at h
  · split at h
    · rename_i cs _ a b c hc
      injection h with h
      have h1 := congrArg Prod.fst h
      unfold datI at h1
      simp only [DataW.agg.injEq, List.cons.injEq, DataW.lit.injEq, Lit.int.injEq, and_true, true_and] at h1
      obtain ⟨rfl, rfl, rfl⟩ := h1
      unfold itV
      rw [← Array.toArray_toList (xs := cs), hc]
    · cases h
  · cases h
theorem zeroIt (w : World) : (zeroValue 34).run Try.prog w = .ok (itV zeroI) w := by kernel_rfl
def MapI (w : World) (m n : Nat) (D : DataW Unit) : Prop := w.ownsMap Try.prog 32 RI m n D
theorem MapI.tight {w : World} {m n : Nat} {D : DataW Unit} (h : MapI w m n D) : MapI w m (Maps.size D) D := by
  obtain ⟨es, clock, hb, F, hs, rfl⟩ := h
  exact ⟨es, clock, hb, F, by simp [Maps.size, length_sorted], rfl⟩
theorem MapI.same {w w' : World} {m n : Nat} {D : DataW Unit} (h : MapI w m n D) (e : w'.heap[m]? = w.heap[m]?) : MapI w' m n D := by
  obtain ⟨es, k, hb, r⟩ := h
  exact ⟨es, k, by rw [e]; exact hb, r⟩
theorem MapI.look {w : World} {m n : Nat} {D : DataW Unit} (h : MapI w m n D) {d : Nat} {x : It} {B : Bool} (hd : d < 18446744073709551616) (hk : D.atKey (ki d) (datI zeroI) = datI x) (hB : Maps.has D (ki d) = B) :
    (Instr.lookup 59 (.map (some m)) (.int .u64 (d : Nat)) true).run Try.prog w = .ok (.tuple #[itV x, .bool B]) w := by
  obtain ⟨v, ps, hr, hv⟩ := World.ownsMap.look_ok h lawI Try.underlying59 (zeroIt w) (RI_mk zeroI) (ki_of hd)
  rw [hk] at hv
  rw [hr, RI_inv hv, hB]
theorem MapI.look1 {w : World} {m n : Nat} {D : DataW Unit} (h : MapI w m n D) {d : Nat} {x : It} (hd : d < 18446744073709551616) (hk : D.atKey (ki d) (datI zeroI) = datI x) :
    (Instr.lookup 59 (.map (some m)) (.int .u64 (d : Nat)) false).run Try.prog w = .ok (itV x) w := by
  obtain ⟨v, ps, hr, hv⟩ := World.ownsMap.lookup h lawI Try.underlying59 (zeroIt w) (RI_mk zeroI) (ki_of hd)
  rw [hk] at hv
  rw [hr, RI_inv hv]

/-- What the map says: these items. -/
structure MoD (D : DataW Unit) (l : List It) : Prop where
  tidy : Tidy D
  has : ∀ d, Maps.has D (ki d) = true ↔ d ∈ l.map It.id
  at_ : ∀ x, x ∈ l → ∀ z, D.atKey (ki x.id) z = datI x
  size : Maps.size D = l.length
theorem mo_nil : MoD (.map []) [] := ⟨tidy_empty, fun d => ⟨fun h => by simp [Maps.has_eq] at h, fun h => by simp at h⟩, (fun x hx => by cases hx), rfl⟩
theorem MoD.perm {D : DataW Unit} {l m : List It} (h : MoD D l) (p : l.Perm m) : MoD D m := ⟨h.tidy, fun d => (h.has d).trans (p.map It.id).mem_iff, fun x hx => h.at_ x (p.mem_iff.2 hx), by rw [h.size, p.length_eq]⟩
theorem hasI_put {D : DataW Unit} (T : Tidy D) (a d : Nat) (v : DataW Unit) : Maps.has (D.put (ki a) v) (ki d) = true ↔ d = a ∨ Maps.has D (ki d) = true := by
  by_cases e : d = a
  · subst e
    rw [has_put_same T.isMap (ki_key _)]
    simp
  · rw [has_put_other (ki_ne e)]
    simp [e]
theorem MoD.none {D : DataW Unit} {l : List It} (h : MoD D l) {d : Nat} (n : d ∉ l.map It.id) (z : DataW Unit) : Maps.has D (ki d) = false ∧ D.atKey (ki d) z = z := by
  have f : Maps.has D (ki d) = false := by
    cases g : Maps.has D (ki d) with
    | false => rfl
    | true => exact absurd ((h.has d).1 g) n
  exact ⟨f, atKey_of_not_has f z⟩
theorem MoD.push {D : DataW Unit} {l : List It} (h : MoD D l) (x : It) (hx : x.id ∉ l.map It.id) : MoD (D.put (ki x.id) (datI x)) (x :: l) := by
  refine ⟨h.tidy.put (ki_key _) _, fun d => ?_, fun y hy z => ?_, ?_⟩
  · rw [hasI_put h.tidy, h.has]
    simp
  · rcases List.mem_cons.1 hy with rfl | hy
    · rw [atKey_put_same h.tidy.isMap (ki_key _)]
    · rw [atKey_put_other (ki_ne fun e => hx (by rw [← e]; exact List.mem_map.2 ⟨y, hy, rfl⟩))]
      exact h.at_ y hy z
  · rw [size_put h.tidy, (h.none hx (datI x)).1, h.size]
    rfl
theorem MoD.set {D : DataW Unit} {l : List It} (h : MoD D l) (nd : Nod l) {k : Nat} (hk : k < l.length) (x : It) (e : (gt l k).id = x.id) : MoD (D.put (ki x.id) (datI x)) (l.set k x) := by
  have hm : Maps.has D (ki x.id) = true := (h.has _).2 (by rw [← e]; exact List.mem_map.2 ⟨_, gt_mem hk, rfl⟩)
  have ids : (l.set k x).map It.id = l.map It.id := by
    rw [List.map_set, ← e, gt_of hk]
    refine List.ext_getElem (by simp) fun j h1 h2 => ?_
    rw [List.getElem_set]
    split
    · rename_i e2; subst e2; simp
    · rfl
  refine ⟨h.tidy.put (ki_key _) _, fun d => ?_, fun y hy z => ?_, ?_⟩
  · rw [hasI_put h.tidy, ids, h.has]
    constructor
    · rintro (q | q)
      · rw [q]; exact (h.has _).1 hm
      · exact q
    · exact .inr
  · obtain ⟨j, hj, rfl⟩ := mem_gt hy
    rw [List.length_set] at hj
    rw [gt_set hk]
    by_cases e2 : k = j
    · rw [if_pos e2, atKey_put_same h.tidy.isMap (ki_key _)]
    · rw [if_neg e2, atKey_put_other (ki_ne fun e3 => e2 (nd.one hk hj (by rw [e, e3])))]
      exact h.at_ _ (gt_mem hj) z
  · rw [size_put h.tidy, if_pos hm, h.size, List.length_set]
theorem MoD.rem {D : DataW Unit} {l r : List It} {x : It} (h : MoD D l) (nd : Nod l) (p : (x :: r).Perm l) : MoD (D.del (ki x.id)) r := by
  have h' := h.perm p.symm
  have nd' : Nod (x :: r) := Nod.perm p.symm nd
  have nx : x.id ∉ r.map It.id := by
    unfold Nod at nd'
    rw [List.map_cons, List.nodup_cons] at nd'
    exact nd'.1
  refine ⟨h.tidy.del _, fun d => ?_, fun y hy z => ?_, ?_⟩
  · by_cases e : d = x.id
    · subst e
      rw [has_del_same]
      exact ⟨(fun h => by cases h), fun h => absurd h nx⟩
    · rw [has_del_other (ki_ne e), h'.has]
      simp [e]
  · rw [atKey_del_other (ki_ne fun e => nx (by rw [← e]; exact List.mem_map.2 ⟨y, hy, rfl⟩))]
    exact h'.at_ y (List.mem_cons_of_mem _ hy) z
  · have s := size_del (k := ki x.id) h.tidy
    rw [if_pos ((h'.has _).2 (by simp)), h'.size] at s
    simp at s
    omega
theorem MoD.del_none {D : DataW Unit} {l : List It} (h : MoD D l) {d : Nat} (n : d ∉ l.map It.id) : D.del (ki d) = D := del_of_not_has (h.none n (datI zeroI)).1
/-- Of a key that is there: which item. -/
theorem MoD.key {D : DataW Unit} {l : List It} (h : MoD D l) {d : Nat} (g : Maps.has D (ki d) = true) : ∃ x, x ∈ l ∧ x.id = d := by
  obtain ⟨x, hx, e⟩ := List.mem_map.1 ((h.has d).1 g)
  exact ⟨x, hx, e⟩

/-! ### As things beside the heap -/
def mTh (m : Nat) (D : DataW Unit) : Th := ⟨fun w F => (∃ n, MapI w m n D) ∧ ∀ J, F J ↔ J = m, fun h k => ⟨h.1.imp fun _ q => q.same (k m ((h.2 m).2 rfl)), h.2⟩, fun h J j => by
  rw [(h.2 J).1 j]
  obtain ⟨n, q⟩ := h.1
  exact World.ownsMap.lt q⟩
/-- The map while it is ranged over. -/
def RangeI (w : World) (m r n : Nat) (D : DataW Unit) (left : Lit → Bool) (cnt : Nat) : Prop := w.ranges Try.prog 32 RI m r n D left cnt
theorem RangeI.same {w w' : World} {m r n : Nat} {D : DataW Unit} {left : Lit → Bool} {cnt : Nat} (h : RangeI w m r n D left cnt) (e1 : w'.heap[m]? = w.heap[m]?) (e2 : w'.heap[r]? = w.heap[r]?) : RangeI w' m r n D left cnt := by
  obtain ⟨es, clock, since, seen, c0, hb, F, hs, hD, hr, rest⟩ := h
  exact ⟨es, clock, since, seen, c0, e1.trans hb, F, hs, hD, e2.trans hr, rest⟩
def gTh (m r : Nat) (D : DataW Unit) (left : Lit → Bool) (cnt : Nat) : Th := ⟨fun w F => (∃ n, RangeI w m r n D left cnt) ∧ ∀ J, F J ↔ J = m ∨ J = r, fun h k => ⟨h.1.imp fun _ q => q.same (k m ((h.2 m).2 (.inl rfl))) (k r ((h.2 r).2 (.inr rfl))), h.2⟩, fun h J j => by
  obtain ⟨n, q⟩ := h.1
  rcases (h.2 J).1 j with e | e
  · rw [e]; exact World.ownsMap.lt (World.ranges.owns q)
  · rw [e]; exact World.ranges.lt q⟩

section
variable {w : World} {B0 : Nat} {v wr w' : World} {T1 T2 T3 T' : Th}
/-- A step that turns the first one alone. -/
theorem Side.step (h : Side w B0 v wr T1 T2 T3) (c : ∀ F, T1.P wr F → ∃ F', T'.P w' F' ∧ FT F wr w' ∧ ∀ K, F' K → F K ∨ wr.heap.size ≤ K) : Side w B0 v w' T' T2 T3 := by
  obtain ⟨F, G, H, hF, hG, hH, u, n⟩ := h.out
  obtain ⟨F', k, t, m⟩ := c F hF
  refine ⟨⟨F', G, H, k, T2.keep hG fun K z => t.keep K (fun y => (n K).1 y z) (T2.lt hG K z), T3.keep hH fun K z => t.keep K (fun y => (n K).2.1 y z) (T3.lt hH K z), fun K z => ?_, fun K => ⟨fun z y => ?_, fun z y => ?_, (n K).2.2⟩⟩, fun K h1 h2 => ?_, h.low.trans (t.low _ (fun K z => (u K (.inl z)).1) h.low.size), Nat.le_trans h.size t.size⟩
  · rcases z with z | z
    · rcases m K z with y | y
      · exact u K (.inl y)
      · exact ⟨Nat.le_trans h.low.size y, .inr (Nat.le_trans h.size y)⟩
    · exact u K (.inr z)
  · rcases m K z with x | x
    · exact (n K).1 x y
    · have := T2.lt hG K y; omega
  · rcases m K z with x | x
    · exact (n K).2.1 x y
    · have := T3.lt hH K y; omega
  · refine (t.keep K (fun z => ?_) (Nat.lt_of_lt_of_le h2 h.size)).trans (h.keep K h1 h2)
    rcases (u K (.inl z)).2 with y | y <;> omega
theorem FT.of_grown {F : Nat → Prop} {row : Option Nat} (g : wr.grownBy w' row) (hr : ∀ k, row = some k → F k) : FT F wr w' :=
  ⟨fun K h1 h2 => g.block K h2 (fun e => h1 (hr K e.symm)), fun B h1 h2 => (Below.refl B wr).grown g h2 (fun k hk => h1 k (hr k hk)), g.size⟩
/-- The map is written. -/
theorem Side.mput {m : Nat} {D D' : DataW Unit} {n : Nat} (h : Side w B0 v wr T1 (mTh m D) T3) (k : MapI w' m n D') (g : wr.grownBy w' (some m)) : Side w B0 v w' T1 (mTh m D') T3 := by
  have q := Side.step (T' := mTh m D') (w' := w') h.turn fun F hF => ⟨F, ⟨⟨n, k⟩, hF.2⟩, FT.of_grown g (fun k hk => by injection hk with hk; exact (hF.2 k).2 hk.symm), fun K hK => .inl hK⟩
  exact q.turn.turn
theorem Side.mmap {m : Nat} {D : DataW Unit} (h : Side w B0 v wr T1 (mTh m D) T3) : ∃ n, MapI wr m n D := by
  obtain ⟨F, G, H, -, g, -⟩ := h.out
  exact g.1
/-- A range begins. -/
theorem Side.mrange {m r n : Nat} {D : DataW Unit} {left : Lit → Bool} {cnt : Nat} (h : Side w B0 v wr T1 (mTh m D) T3) (k : RangeI w' m r n D left cnt) (g : wr.grownBy w' none) (hr : wr.heap.size ≤ r) : Side w B0 v w' T1 (gTh m r D left cnt) T3 := by
  have q := Side.step (T' := gTh m r D left cnt) (w' := w') h.turn fun F hF => ⟨fun J => J = m ∨ J = r, ⟨⟨n, k⟩, fun _ => Iff.rfl⟩, FT.of_grown g (fun k hk => by cases hk), fun K hK => by
    rcases hK with e | e
    · exact .inl ((hF.2 K).2 e)
    · exact .inr (by rw [e]; exact hr)⟩
  exact q.turn.turn
theorem Side.gmap {m r : Nat} {D : DataW Unit} {left : Lit → Bool} {cnt : Nat} (h : Side w B0 v wr T1 (gTh m r D left cnt) T3) : ∃ n, RangeI wr m r n D left cnt := by
  obtain ⟨F, G, H, -, g, -⟩ := h.out
  exact g.1
theorem Side.gnext {m r n : Nat} {D : DataW Unit} {left left' : Lit → Bool} {cnt cnt' : Nat} (h : Side w B0 v wr T1 (gTh m r D left cnt) T3) (k : RangeI w' m r n D left' cnt') (g : wr.grownBy w' (some r)) : Side w B0 v w' T1 (gTh m r D left' cnt') T3 := by
  have q := Side.step (T' := gTh m r D left' cnt') (w' := w') h.turn fun F hF => ⟨F, ⟨⟨n, k⟩, hF.2⟩, FT.of_grown g (fun k hk => by injection hk with hk; exact (hF.2 k).2 (.inr hk.symm)), fun K hK => .inl hK⟩
  exact q.turn.turn
/-- The range is over. -/
theorem Side.gend {m r : Nat} {D : DataW Unit} {left : Lit → Bool} {cnt : Nat} (h : Side w B0 v wr T1 (gTh m r D left cnt) T3) : Side w B0 v wr T1 (mTh m D) T3 := by
  have q := Side.step (T' := mTh m D) (w' := wr) h.turn fun F hF => ⟨fun J => J = m, ⟨hF.1.imp fun _ q => World.ranges.owns q, fun _ => Iff.rfl⟩, FT.of_below (Below.refl _ _), fun K hK => .inl ((hF.2 K).2 (.inl hK))⟩
  exact q.turn.turn
end
end Go.Proofs.Ytlfbenlojiiknaa
