/- Layer 13 (heap), the program's own: a heap in its three blocks: itself, its row, the map of places. -/
import Derived.Test.YtbfmmeapjfljbaaHeapS
import Derived.Maps.OwnSet
set_option maxRecDepth 100000
namespace Go.Proofs.Ytbfmmeapjfljbaa
open Go.ChangeShapes Go.WideShapes Go.ChangeAt Go.RowKit Go.Maps HeapM

/-! ### The map of places -/
def kq (d : Nat) : Lit := .int .u64 (d : Nat)
theorem kq_key (d : Nat) : WideAt.IsKeyLit (kq d) := trivial
theorem kq_ne {a b : Nat} (h : a ≠ b) : kq a ≠ kq b := fun e => by
  unfold kq at e
  injection e with _ e
  omega
theorem kq_of {d : Nat} (h : d < 18446744073709551616) : keyOf Try.prog 28 (.int .u64 (d : Nat)) = some (kq d) :=
  keyOf_int_mk Try.underlying28 (by simp [Lit.wf, IntKind.min, IntKind.max, IntKind.signed, IntKind.bits]; omega)
theorem law64 : Keyed Try.prog 28 := int_keyed Try.underlying28
def RP : Value → Option (DataW Unit × List MemPlace)
  | .int .i64 a => some (.lit (.int .i64 a), [])
  | _ => none
def dk (k : Nat) : DataW Unit := .lit (.int .i64 (k : Nat))
theorem RP_mk (k : Nat) : RP (.int .i64 (k : Nat)) = some (dk k, []) := rfl
theorem RP_inv {v : Value} {k : Nat} {ps : List MemPlace} (h : RP v = some (dk k, ps)) : v = .int .i64 (k : Nat) := by
  unfold RP at h
  split at h
  · injection h with h
    have h1 := congrArg Prod.fst h
    unfold dk at h1
    simp only [DataW.lit.injEq, Lit.int.injEq, true_and] at h1
    rw [h1]
  · cases h
theorem zeroP (w : World) : (zeroValue 3).run Try.prog w = .ok (.int .i64 0) w := by kernel_rfl
/-- Block b is a map of ids, at most n. -/
def MapP (w : World) (b n : Nat) (D : DataW Unit) : Prop := w.ownsMap Try.prog 28 RP b n D
theorem MapP.tight {w : World} {b n : Nat} {D : DataW Unit} (h : MapP w b n D) : MapP w b (Maps.size D) D := by
  obtain ⟨es, clock, hb, F, hs, rfl⟩ := h
  exact ⟨es, clock, hb, F, by simp [Maps.size, length_sorted], rfl⟩
theorem MapP.blk {w : World} {b n : Nat} {D : DataW Unit} (h : MapP w b n D) : ∃ es k, w.heap[b]? = some (.map es k) := by
  obtain ⟨es, k, hb, -⟩ := h
  exact ⟨es, k, hb⟩
theorem MapP.same {w w' : World} {b n : Nat} {D : DataW Unit} (h : MapP w b n D) (e : w'.heap[b]? = w.heap[b]?) : MapP w' b n D := by
  obtain ⟨es, k, hb, r⟩ := h
  exact ⟨es, k, by rw [e]; exact hb, r⟩

/-- What the map says of a row. -/
structure PlD (D : DataW Unit) (l : List It) : Prop where
  tidy : Tidy D
  has : ∀ d, Maps.has D (kq d) = true ↔ d ∈ l.map It.id
  at_ : ∀ k, k < l.length → ∀ z, D.atKey (kq (gt l k).id) z = dk k
  size : Maps.size D = l.length
theorem mem_id {l : List It} {k : Nat} (h : k < l.length) : (gt l k).id ∈ l.map It.id := List.mem_map.2 ⟨_, gt_mem h, rfl⟩
theorem id_mem {l : List It} {d : Nat} (h : d ∈ l.map It.id) : ∃ k, k < l.length ∧ (gt l k).id = d := by
  obtain ⟨x, hx, rfl⟩ := List.mem_map.1 h
  obtain ⟨k, hk, rfl⟩ := mem_gt hx
  exact ⟨k, hk, rfl⟩
theorem pl_nil : PlD (.map []) [] := ⟨tidy_empty, fun d => ⟨fun h => by simp [Maps.has_eq] at h, fun h => by simp at h⟩, fun k h => by simp at h, rfl⟩
theorem has_put {D : DataW Unit} (T : Tidy D) (a d : Nat) (v : DataW Unit) : Maps.has (D.put (kq a) v) (kq d) = true ↔ d = a ∨ Maps.has D (kq d) = true := by
  by_cases e : d = a
  · subst e
    rw [has_put_same T.isMap (kq_key _)]
    simp
  · rw [has_put_other (kq_ne e)]
    simp [e]
theorem PlD.push {D : DataW Unit} {l : List It} (h : PlD D l) (x : It) (hx : x.id ∉ l.map It.id) : PlD (D.put (kq x.id) (dk l.length)) (l ++ [x]) := by
  refine ⟨h.tidy.put (kq_key _) _, fun d => ?_, fun k hk z => ?_, ?_⟩
  · rw [has_put h.tidy, h.has]
    simp [or_comm]
  · rw [gt_append]
    by_cases e : k = l.length
    · rw [if_pos e, atKey_put_same h.tidy.isMap (kq_key _), e]
    · rw [if_neg e]
      have hk' : k < l.length := by simp at hk; omega
      rw [atKey_put_other (kq_ne fun e2 => hx (by rw [← e2]; exact mem_id hk')), h.at_ k hk']
  · have hf : Maps.has D (kq x.id) = false := by
      cases e : Maps.has D (kq x.id) with
      | false => rfl
      | true => exact absurd ((h.has _).1 e) hx
    rw [size_put h.tidy, hf, h.size]
    simp
theorem PlD.swap {D : DataW Unit} {l : List It} (h : PlD D l) (nd : Nod l) {i k : Nat} (hi : i < l.length) (hk : k < l.length) :
    PlD ((D.put (kq (gt (sw l i k) i).id) (dk i)).put (kq (gt (sw l i k) k).id) (dk k)) (sw l i k) := by
  have pm := sw_perm hi hk
  have nm : Nod (sw l i k) := Nod.perm pm.symm nd
  have ln := sw_len l i k
  have G := gt_sw hi hk
  have mi : ∀ d, d ∈ (sw l i k).map It.id ↔ d ∈ l.map It.id := fun d => (pm.map It.id).mem_iff
  have hi' : i < (sw l i k).length := by rw [ln]; exact hi
  have hk' : k < (sw l i k).length := by rw [ln]; exact hk
  have T1 := h.tidy.put (kq_key (gt (sw l i k) i).id) (dk i)
  have H1 := (h.has _).2 ((mi _).1 (mem_id hi'))
  have H2 := (h.has _).2 ((mi _).1 (mem_id hk'))
  refine ⟨T1.put (kq_key _) _, fun d => ?_, fun j hj z => ?_, ?_⟩
  · rw [has_put T1, has_put h.tidy, h.has, mi]
    constructor
    · rintro (e | e | e)
      · rw [e]; exact (mi _).1 (mem_id hk')
      · rw [e]; exact (mi _).1 (mem_id hi')
      · exact e
    · exact fun e => .inr (.inr e)
  · by_cases e : j = k
    · subst e
      rw [atKey_put_same T1.isMap (kq_key _)]
    · rw [atKey_put_other (kq_ne fun e2 => e (nm.one hj hk' e2))]
      by_cases e1 : j = i
      · subst e1
        rw [atKey_put_same h.tidy.isMap (kq_key _)]
      · rw [atKey_put_other (kq_ne fun e2 => e1 (nm.one hj hi' e2)), G, if_neg (Ne.symm e), if_neg (Ne.symm e1)]
        exact h.at_ j (by rw [← ln]; exact hj) z
  · rw [size_put T1, size_put h.tidy, if_pos H1, if_pos ((has_put h.tidy _ _ _).2 (.inr H2)), ln, h.size]
theorem PlD.set {D : DataW Unit} {l : List It} (h : PlD D l) {k : Nat} (hk : k < l.length) {x : It} (e : x.id = (gt l k).id) : PlD D (l.set k x) := by
  have g : ∀ j, (gt (l.set k x) j).id = (gt l j).id := fun j => by
    rw [gt_set hk]
    by_cases e2 : k = j
    · rw [if_pos e2, e, e2]
    · rw [if_neg e2]
  refine ⟨h.tidy, fun d => ?_, fun j hj z => ?_, by rw [List.length_set]; exact h.size⟩
  · rw [h.has]
    constructor
    · intro m
      obtain ⟨j, hj, rfl⟩ := id_mem m
      rw [← g j]
      exact mem_id (by rw [List.length_set]; exact hj)
    · intro m
      obtain ⟨j, hj, rfl⟩ := id_mem m
      rw [g j]
      exact mem_id (by rw [List.length_set] at hj; exact hj)
  · rw [g j]
    exact h.at_ j (by rw [List.length_set] at hj; exact hj) z
theorem nod_set {l : List It} (nd : Nod l) {k : Nat} (hk : k < l.length) {x : It} (e : x.id = (gt l k).id) : Nod (l.set k x) := by
  have : (l.set k x).map It.id = l.map It.id := by
    rw [List.map_set, e, gt_of hk]
    refine List.ext_getElem (by simp) fun j h1 h2 => ?_
    rw [List.getElem_set]
    split
    · rename_i e2; subst e2; simp
    · rfl
  unfold Nod
  rw [this]
  exact nd
theorem PlD.drop {D : DataW Unit} {l : List It} (h : PlD D l) (nd : Nod l) {n : Nat} (hn : l.length = n + 1) : PlD (D.del (kq (gt l n).id)) (l.take n) := by
  have tl := take_last (l := l) (by omega)
  rw [show l.length - 1 = n by omega] at tl
  have lt : (l.take n).length = n := by rw [List.length_take]; omega
  have mi : ∀ d, d ∈ l.map It.id ↔ d ∈ (l.take n).map It.id ∨ d = (gt l n).id := fun d => by
    rw [← congrArg (List.map It.id) tl]; simp
  have ni : (gt l n).id ∉ (l.take n).map It.id := fun m => by
    obtain ⟨j, hj, e⟩ := id_mem m
    rw [lt] at hj
    rw [gt_take hj] at e
    have := nd.one (by omega) (by omega) e
    omega
  refine ⟨h.tidy.del _, fun d => ?_, fun j hj z => ?_, ?_⟩
  · by_cases e : d = (gt l n).id
    · subst e
      rw [has_del_same]
      exact ⟨(fun h => by cases h), fun h => absurd h ni⟩
    · rw [has_del_other (kq_ne e), h.has, mi]
      simp [e]
  · rw [lt] at hj
    rw [gt_take hj, atKey_del_other (kq_ne fun e => by have := nd.one (l := l) (by omega) (by omega) e; omega)]
    exact h.at_ j (by omega) z
  · have s := size_del (k := kq (gt l n).id) h.tidy
    rw [if_pos ((h.has _).2 (mem_id (by omega))), h.size] at s
    rw [lt]
    omega
theorem PlD.find {D : DataW Unit} {l : List It} (h : PlD D l) {d k : Nat} (e : place l d = some k) (z : DataW Unit) : Maps.has D (kq d) = true ∧ D.atKey (kq d) z = dk k := by
  obtain ⟨hk, rfl⟩ := place_some e
  exact ⟨(h.has _).2 (mem_id hk), h.at_ k hk z⟩
theorem PlD.none {D : DataW Unit} {l : List It} (h : PlD D l) {d : Nat} (e : place l d = .none) (z : DataW Unit) : Maps.has D (kq d) = false ∧ D.atKey (kq d) z = z := by
  have f : Maps.has D (kq d) = false := by
    cases g : Maps.has D (kq d) with
    | false => rfl
    | true =>
      obtain ⟨k, hk, e2⟩ := id_mem ((h.has _).1 g)
      exact absurd e2 (place_none e hk)
  exact ⟨f, atKey_of_not_has f z⟩

/-! ### The heap -/
/-- The blocks that are its own. -/
def HF (N b : Nat) (p : Option Addr) (M : Nat) : Prop := M = N ∨ M = b ∨ ∃ a, p = some a ∧ M = a.block
def hpC (sz n c b : Nat) (p : Option Addr) : Array Value := #[.int .i64 (sz : Nat), .slice p n c, .map (some b)]
structure PHp (w : World) (N b : Nat) (p : Option Addr) (c sz : Nat) (l : List It) : Prop where
  bk : w.heap[N]? = some (.cells (hpC sz l.length c b p) 67 (0, 0))
  o : OwnI w 55 0 p l.length c l
  m : ∃ D, MapP w b l.length D ∧ PlD D l
  far : ∀ a, p = some a → a.block ≠ N
  pos : 1 ≤ sz
  fit : l.length ≤ sz ∧ sz ≤ 1048576
  oks : ∀ x ∈ l, ItOk x
  nod : Nod l
section
variable {w w' : World} {N b c sz : Nat} {p : Option Addr} {l : List It}
theorem PHp.nb (h : PHp w N b p c sz l) : N ≠ b := by
  obtain ⟨D, m, -⟩ := h.m
  obtain ⟨es, k, e⟩ := m.blk
  intro e2
  have := h.bk
  rw [e2, e] at this
  cases this
theorem PHp.ab (h : PHp w N b p c sz l) {a : Addr} (ha : p = some a) : a.block ≠ b := by
  obtain ⟨D, m, -⟩ := h.m
  obtain ⟨es, k, e⟩ := m.blk
  subst ha
  obtain ⟨-, cur, g⟩ := own_base0 h.o
  intro e2
  rw [e2, e] at g
  cases g
theorem PHp.keep (h : PHp w N b p c sz l) (k : ∀ M, HF N b p M → w'.heap[M]? = w.heap[M]?) : PHp w' N b p c sz l := by
  refine ⟨(k N (.inl rfl)).trans h.bk, h.o.keep fun a ha => k _ (.inr (.inr ⟨a, ha, rfl⟩)), ?_, h.far, h.pos, h.fit, h.oks, h.nod⟩
  obtain ⟨D, m, d⟩ := h.m
  exact ⟨D, m.same (k b (.inr (.inl rfl))), d⟩
theorem PHp.lt (h : PHp w N b p c sz l) : ∀ M, HF N b p M → M < w.heap.size := by
  rintro M (rfl | rfl | ⟨a, rfl, rfl⟩)
  · exact (Array.getElem?_eq_some_iff.1 h.bk).1
  · obtain ⟨D, m, -⟩ := h.m
    exact World.ownsMap.lt m
  · exact h.o.lt
theorem PHp.below (h : PHp w N b p c sz l) (k : Below w.heap.size w w') : PHp w' N b p c sz l := h.keep fun M hM => k.block M (h.lt M hM)
end

/-- What a call makes of a heap whose blocks stay the same ones. -/
def PQ (w : World) (N b : Nat) (p : Option Addr) (c sz : Nat) (l : List It) (w' : World) : Prop := PHp w' N b p c sz l ∧ FT (HF N b p) w w'
theorem FT.drew {F : Nat → Prop} {w w' : World} (h : FT F w w') : FT F w w'.drew := ⟨h.keep, fun B h1 h2 => (h.low B h1 h2).drew, h.size⟩
theorem FT.set {F : Nat → Prop} {w w' : World} (h : FT F w w') {a : Addr} (ha : F a.block) (v : Value) : FT F w (w'.setCell a v) :=
  ⟨fun K h1 h2 => (Below.heap_setCell w' a v K (fun e => h1 (e ▸ ha))).trans (h.keep K h1 h2), fun B h1 h2 => (h.low B h1 h2).setCell (h1 _ ha) v, by have := h.size; simpa using this⟩
theorem FT.grown {F : Nat → Prop} {w w' w'' : World} (h : FT F w w') {row : Option Nat} (g : w'.grownBy w'' row) (hr : ∀ k, row = some k → F k) : FT F w w'' :=
  ⟨fun K h1 h2 => (g.block K (Nat.lt_of_lt_of_le h2 h.size) (fun e => h1 (hr K e.symm))).trans (h.keep K h1 h2), fun B h1 h2 => (h.low B h1 h2).grown g (Nat.le_trans h2 h.size) (fun k hk => h1 k (hr k hk)), Nat.le_trans h.size g.size⟩
theorem FT.same {F : Nat → Prop} {w w1 w2 : World} (h : FT F w w1) (k : FT F w1 w2) : FT F w w2 := h.trans k fun _ hM => .inl hM
end Go.Proofs.Ytbfmmeapjfljbaa

