/- Layer 6 (mac): a map of keys, as what was put into it. -/
import Derived.Test.YtkojgegfmhoomaaMacG
import Derived.Maps.OwnSet
namespace Go.Proofs.Ytkojgegfmhoomaa
open Go.ChangeShapes Go.WideShapes Go.ChangeAt Go.RowKit Go.Maps OctM

/-- How a key in a map reads. -/
def keyR : Value → Option (DataW Unit × List MemPlace)
  | .agg cs => match cs.toList with
    | [.int .u32 a, .int .u64 b, .int .u64 c] => some (.agg [.lit (.int .u32 a), .lit (.int .u64 b), .lit (.int .u64 c)], [])
    | _ => none
  | _ => none
def datK (k : Ky) : DataW Unit := .agg [.lit (.int .u32 (k.id : Nat)), .lit (.int .u64 (k.a : Nat)), .lit (.int .u64 (k.b : Nat))]
theorem keyR_mk (k : Ky) : keyR (keyV k) = some (datK k, []) := rfl
theorem keyR_inv {v : Value} {k : Ky} {ps : List MemPlace} (h : keyR v = some (datK k, ps)) : v = keyV k := by
  unfold keyR at h
  split at h
  · split at h
    · rename_i cs _ a b c hc
      injection h with h
      have h1 := congrArg Prod.fst h
      unfold datK at h1
      simp only [DataW.agg.injEq, List.cons.injEq, DataW.lit.injEq, Lit.int.injEq, and_true, true_and] at h1
      obtain ⟨rfl, rfl, rfl⟩ := h1
      unfold keyV
      rw [← Array.toArray_toList (xs := cs), hc]
    · cases h
  · cases h
def kl (id : Nat) : Lit := .int .u32 (id : Nat)
theorem kl_key (id : Nat) : WideAt.IsKeyLit (kl id) := trivial
theorem kl_ne {a b : Nat} (h : a ≠ b) : kl a ≠ kl b := fun e => by
  unfold kl at e
  injection e with _ e
  omega
theorem kl_of {id : Nat} (h : id < 4294967296) : keyOf Try.prog 22 (.int .u32 (id : Nat)) = some (kl id) :=
  keyOf_int_mk Try.underlying22 (by simp [Lit.wf, IntKind.min, IntKind.max, IntKind.signed, IntKind.bits]; omega)
theorem law32 : Keyed Try.prog 22 := int_keyed Try.underlying22
theorem zeroKey (w : World) : (zeroValue 25).run Try.prog w = .ok (keyV ⟨0, 0, 0⟩) w := by kernel_rfl

/-- What a map of these keys reads as. -/
structure TabD (D : DataW Unit) (ks : List Ky) : Prop where
  tidy : Tidy D
  has : ∀ id, Maps.has D (kl id) = ks.any (·.id == id)
  at_ : ¬ twiceK ks → ∀ k ∈ ks, ∀ z, D.atKey (kl k.id) z = datK k
  le : Maps.size D ≤ ks.length
  all : ¬ twiceK ks → Maps.size D = ks.length
  less : twiceK ks → Maps.size D < ks.length
theorem twiceK_nil : ¬ twiceK [] := fun ⟨i, j, k, l, _, h, _⟩ => by simp at h
theorem twiceK_left {ks : List Ky} (k : Ky) (h : twiceK ks) : twiceK (ks ++ [k]) := by
  obtain ⟨i, j, x, y, hj, hx, hy, e⟩ := h
  exact ⟨i, j, x, y, hj, by rw [List.getElem?_append_left (List.getElem?_eq_some_iff.1 hx).1]; exact hx, by rw [List.getElem?_append_left (List.getElem?_eq_some_iff.1 hy).1]; exact hy, e⟩
theorem twiceK_here {ks : List Ky} {k l : Ky} (hl : l ∈ ks) (e : l.id = k.id) : twiceK (ks ++ [k]) := by
  obtain ⟨j, hj, rfl⟩ := List.getElem_of_mem hl
  exact ⟨ks.length, j, k, ks[j], hj, by simp, by rw [List.getElem?_append_left hj]; exact List.getElem?_eq_getElem hj, e⟩
theorem twiceK_snoc {ks : List Ky} {k : Ky} (h : twiceK (ks ++ [k])) : twiceK ks ∨ ∃ l ∈ ks, l.id = k.id := by
  obtain ⟨i, j, x, y, hj, hx, hy, e⟩ := h
  by_cases g : i < ks.length
  · rw [List.getElem?_append_left g] at hx
    rw [List.getElem?_append_left (by omega)] at hy
    exact .inl ⟨i, j, x, y, hj, hx, hy, e⟩
  · have hi := (List.getElem?_eq_some_iff.1 hx).1
    rw [List.length_append] at hi
    simp only [List.length_cons, List.length_nil] at hi
    obtain rfl : i = ks.length := by omega
    rw [List.getElem?_append_left (by omega)] at hy
    rw [List.getElem?_append_right (Nat.le_refl _), Nat.sub_self] at hx
    obtain rfl : k = x := by simpa using hx
    exact .inr ⟨y, List.mem_of_getElem? hy, e⟩
theorem tab_nil : TabD (.map []) [] :=
  ⟨tidy_empty, fun _ => rfl, (fun _ k hk => by cases hk), Nat.le_refl _, fun _ => rfl, fun h => absurd h twiceK_nil⟩
theorem tab_put {D : DataW Unit} {ks : List Ky} (h : TabD D ks) (k : Ky) : TabD (D.put (kl k.id) (datK k)) (ks ++ [k]) := by
  have sz := size_put (k := kl k.id) h.tidy (datK k)
  have hh := h.has k.id
  refine ⟨h.tidy.put (kl_key _) _, fun id => ?_, fun nt l hl z => ?_, ?_, fun nt => ?_, fun tw => ?_⟩
  · rw [List.any_append]
    by_cases e : id = k.id
    · subst e
      rw [has_put_same h.tidy.isMap (kl_key _)]
      simp
    · rw [has_put_other (kl_ne e), h.has]
      have e2 : (k.id == id) = false := by simp; omega
      simp [e2]
  · rcases List.mem_append.1 hl with hl | hl
    · have ne : l.id ≠ k.id := fun e => nt (twiceK_here hl e)
      rw [atKey_put_other (kl_ne ne)]
      exact h.at_ (fun t => nt (twiceK_left k t)) l hl z
    · obtain rfl := List.mem_singleton.1 hl
      exact atKey_put_same h.tidy.isMap (kl_key _) _ _
  · rw [sz, List.length_append]
    have := h.le
    split <;> simp <;> omega
  · have n0 : ¬ twiceK ks := fun t => nt (twiceK_left k t)
    have hf : Maps.has D (kl k.id) = false := by
      rw [hh, List.any_eq_false]
      intro l hl e
      exact nt (twiceK_here hl (by simpa using e))
    rw [sz, hf, List.length_append, h.all n0]
    rfl
  · rw [sz, List.length_append]
    rcases twiceK_snoc tw with t | ⟨l, hl, e⟩
    · have := h.less t
      split <;> simp <;> omega
    · have ht : Maps.has D (kl k.id) = true := by
        rw [hh, List.any_eq_true]
        exact ⟨l, hl, by simpa using e⟩
      rw [if_pos ht]
      have := h.le
      simp
      omega
/-- .. in a later world. -/
theorem ownsMap_below {w w' : World} {b n : Nat} {D : DataW Unit} {t : TypeId} (h : w.ownsMap Try.prog t keyR b n D) (hb : Below w.heap.size w w') : w'.ownsMap Try.prog t keyR b n D := by
  have l := h.lt
  obtain ⟨es, clock, hes, r⟩ := h
  exact ⟨es, clock, by rw [hb.block _ l]; exact hes, r⟩
/-- A look-up, with ok: the key is told. -/
theorem wpList_lookup_key (w : World) {ops : Array Oper} {rest : List Oper} {o : Oper} {a : Act} {Q : Exit → Act → World → Prop}
    (hg : o.guard = none) (m x : Operand) (t : TypeId) (hop : o.op = Op.lookup t m x true) (ht : Try.prog.underlying t = some (.map 22 25)) (b n : Nat) (D : DataW Unit)
    (hm : a.eval m = .map (some b)) (hown : w.ownsMap Try.prog 22 keyR b n D) (id : Nat) (hid : id < 4294967296) (hx : a.eval x = .int .u32 (id : Nat)) (k : Ky) (B : Bool) (hk : D.atKey (kl id) (datK ⟨0, 0, 0⟩) = datK k) (hB : Maps.has D (kl id) = B)
    (hK : wpList Try.prog ops Q rest (a.put o.dst (.tuple #[keyV k, .bool B])) w) : wpList Try.prog ops Q (o :: rest) a w :=
  wpList_lookup_own_ok w hg m x t hop 22 25 law32 ht keyR (zeroKey w) (datK ⟨0, 0, 0⟩) [] (keyR_mk _) b n D hm hown _ (kl id) hx (kl_of hid) (fun v ps hv => by
    rw [hk] at hv
    obtain rfl := keyR_inv hv
    rw [hB]
    exact hK)
/-- What a table without doubles tells of a number. -/
theorem tab_find {D : DataW Unit} {ks : List Ky} (h : TabD D ks) (nt : ¬ twiceK ks) (id : Nat) : D.atKey (kl id) (datK ⟨0, 0, 0⟩) = datK ((findK ks id).getD ⟨0, 0, 0⟩) ∧ Maps.has D (kl id) = (findK ks id).isSome := by
  have hh := h.has id
  unfold findK
  cases hf : ks.find? (fun k => k.id == id) with
  | none =>
    have h0 : Maps.has D (kl id) = false := by
      rw [hh, List.any_eq_false]
      intro l hl e
      exact absurd e (List.find?_eq_none.1 hf l hl)
    exact ⟨atKey_of_not_has h0 _, h0⟩
  | some k =>
    have hm := List.mem_of_find?_eq_some hf
    have he : k.id = id := by simpa using List.find?_some hf
    subst he
    refine ⟨h.at_ nt k hm _, ?_⟩
    rw [hh]
    exact List.any_eq_true.2 ⟨k, hm, by simp⟩
end Go.Proofs.Ytkojgegfmhoomaa
