/- Layer 14 (timers), the program's own: timers in their blocks: themselves, two heaps, a map of timers. -/
import Derived.Test.YtbfmmeapjfljbaaTmM
import Derived.Test.YtbfmmeapjfljbaaHpJ
set_option maxRecDepth 100000
namespace Go.Proofs.Ytbfmmeapjfljbaa
open Go.ChangeShapes Go.WideShapes Go.ChangeAt Go.RowKit Go.Maps HeapM

/-! ### The heap, as the laws ask it -/
def HqP (w : World) (F : Nat → Prop) (N sz : Nat) (l : List It) : Prop := ∃ b p c, F = HF N b p ∧ PHp w N b p c sz l
theorem PR.hq {w w' : World} {N b sz : Nat} {p : Option Addr} {l : List It} (h : PR w N b p sz l w') : ∃ F', HqP w' F' N sz l ∧ FT (HF N b p) w w' ∧ ∀ M, F' M → HF N b p M ∨ w.heap.size ≤ M := by
  obtain ⟨p', c', H, T, P⟩ := h
  refine ⟨_, ⟨b, p', c', rfl, H⟩, T, ?_⟩
  rintro K (e | e | ⟨a, ea, e⟩)
  · exact .inl (.inl e)
  · exact .inl (.inr (.inl e))
  · rcases P with q | q
    · exact .inl (.inr (.inr ⟨a, by rw [← q]; exact ea, e⟩))
    · exact .inr (by rw [e]; exact q a ea)
theorem HqP.keep {w w' : World} {F : Nat → Prop} {N sz : Nat} {l : List It} (h : HqP w F N sz l) (k : ∀ M, F M → w'.heap[M]? = w.heap[M]?) : HqP w' F N sz l := by
  obtain ⟨b, p, c, rfl, h⟩ := h
  exact ⟨b, p, c, rfl, h.keep k⟩
theorem HqP.lt {w : World} {F : Nat → Prop} {N sz : Nat} {l : List It} (h : HqP w F N sz l) : ∀ M, F M → M < w.heap.size := by
  obtain ⟨b, p, c, rfl, h⟩ := h
  exact h.lt
theorem HqP.fit {w : World} {F : Nat → Prop} {N sz : Nat} {l : List It} (h : HqP w F N sz l) : l.length ≤ sz := by
  obtain ⟨b, p, c, rfl, h⟩ := h
  exact h.fit.1
theorem HqP.below {w w' : World} {F : Nat → Prop} {N sz : Nat} {l : List It} (h : HqP w F N sz l) (b : Below w.heap.size w w') : HqP w' F N sz l := h.keep fun M hM => b.block M (h.lt M hM)

/-! ### The map of timers -/
def RT : Value → Option (DataW Unit × List MemPlace)
  | .agg cs => match cs.toList with
    | [.bool a, .int .i64 b, .int .i64 c] => some (.agg [.lit (.bool a), .lit (.int .i64 b), .lit (.int .i64 c)], [])
    | _ => none
  | _ => none
def datT (t : Tr) : DataW Unit := .agg [.lit (.bool t.ab), .lit (.int .i64 t.at_), .lit (.int .i64 t.ev)]
def trV (t : Tr) : Value := .agg #[.bool t.ab, .int .i64 t.at_, .int .i64 t.ev]
def trC (t : Tr) : Array Value := #[.bool t.ab, .int .i64 t.at_, .int .i64 t.ev]
def zeroTr : Tr := ⟨false, 0, 0⟩
theorem RT_mk (t : Tr) : RT (trV t) = some (datT t, []) := rfl
theorem RT_inv {v : Value} {t : Tr} {ps : List MemPlace} (h : RT v = some (datT t, ps)) : v = trV t := by
  unfold RT at h
  split at h
  · split at h
    · rename_i cs _ a b c hc
      injection h with h
      have h1 := congrArg Prod.fst h
      unfold datT at h1
      simp only [DataW.agg.injEq, List.cons.injEq, DataW.lit.injEq, Lit.int.injEq, Lit.bool.injEq, and_true, true_and] at h1
      obtain ⟨rfl, rfl, rfl⟩ := h1
      unfold trV
      rw [← Array.toArray_toList (xs := cs), hc]
    · cases h
  · cases h
theorem zeroT (w : World) : (zeroValue 25).run Try.prog w = .ok (trV zeroTr) w := by kernel_rfl
def MapT (w : World) (m n : Nat) (D : DataW Unit) : Prop := w.ownsMap Try.prog 28 RT m n D
theorem MapT.tight {w : World} {m n : Nat} {D : DataW Unit} (h : MapT w m n D) : MapT w m (Maps.size D) D := by
  obtain ⟨es, clock, hb, F, hs, rfl⟩ := h
  exact ⟨es, clock, hb, F, by simp [Maps.size, length_sorted], rfl⟩
theorem MapT.blk {w : World} {b n : Nat} {D : DataW Unit} (h : MapT w b n D) : ∃ es k, w.heap[b]? = some (.map es k) := by
  obtain ⟨es, k, hb, -⟩ := h
  exact ⟨es, k, hb⟩
theorem MapT.same {w w' : World} {m n : Nat} {D : DataW Unit} (h : MapT w m n D) (e : w'.heap[m]? = w.heap[m]?) : MapT w' m n D := by
  obtain ⟨es, k, hb, r⟩ := h
  exact ⟨es, k, by rw [e]; exact hb, r⟩
theorem MapT.look {w : World} {m n : Nat} {D : DataW Unit} (h : MapT w m n D) {d : Nat} {t : Tr} {B : Bool} (hd : d < 18446744073709551616) (hk : D.atKey (kq d) (datT zeroTr) = datT t) (hB : Maps.has D (kq d) = B) :
    (Instr.lookup 44 (.map (some m)) (.int .u64 (d : Nat)) true).run Try.prog w = .ok (.tuple #[trV t, .bool B]) w := by
  obtain ⟨v, ps, hr, hv⟩ := World.ownsMap.look_ok h law64 Try.underlying44 (zeroT w) (RT_mk zeroTr) (kq_of hd)
  rw [hk] at hv
  rw [hr, RT_inv hv, hB]
theorem MapT.look1 {w : World} {m n : Nat} {D : DataW Unit} (h : MapT w m n D) {d : Nat} {t : Tr} (hd : d < 18446744073709551616) (hk : D.atKey (kq d) (datT zeroTr) = datT t) :
    (Instr.lookup 44 (.map (some m)) (.int .u64 (d : Nat)) false).run Try.prog w = .ok (trV t) w := by
  obtain ⟨v, ps, hr, hv⟩ := World.ownsMap.lookup h law64 Try.underlying44 (zeroT w) (RT_mk zeroTr) (kq_of hd)
  rw [hk] at hv
  rw [hr, RT_inv hv]

/-- What the map says: these timers. -/
structure TlD (D : DataW Unit) (s : TS) : Prop where
  tidy : Tidy D
  has : ∀ d, Maps.has D (kq d) = true ↔ ∃ k, d ∈ (s.l k).map It.id
  at_ : ∀ k x, x ∈ s.l k → ∀ z, D.atKey (kq x.id) z = datT ⟨k, x.t, s.ev x.id⟩
  size : Maps.size D = (s.l false).length + (s.l true).length
theorem tl_nil : TlD (.map []) noT := ⟨tidy_empty, fun d => ⟨fun h => by simp [Maps.has_eq] at h, fun ⟨k, h⟩ => by simp [noT] at h⟩, (fun k x hx => by cases hx), rfl⟩
theorem kinds {j k : Bool} : j = k ∨ j = !k := by cases j <;> cases k <;> simp
theorem TlD.lens {D : DataW Unit} {s : TS} (h : TlD D s) (k : Bool) : Maps.size D = (s.l k).length + (s.l (!k)).length := by
  rw [h.size]
  cases k
  · rfl
  · exact Nat.add_comm _ _
theorem TlD.none {D : DataW Unit} {s : TS} (h : TlD D s) {d : Nat} (n : ∀ k, d ∉ (s.l k).map It.id) (z : DataW Unit) : Maps.has D (kq d) = false ∧ D.atKey (kq d) z = z := by
  have f : Maps.has D (kq d) = false := by
    cases g : Maps.has D (kq d) with
    | false => rfl
    | true => obtain ⟨k, hk⟩ := (h.has d).1 g; exact absurd hk (n k)
  exact ⟨f, atKey_of_not_has f z⟩
theorem TlD.put {D : DataW Unit} {s : TS} (h : TlD D s) {k : Bool} {m : List It} {z : It} {e : Int} {ad ca : Nat} (hm : ∀ y, y ∈ m ↔ y = z ∨ (y ∈ s.l k ∧ y.id ≠ z.id)) (ho : ∀ y ∈ s.l (!k), y.id ≠ z.id)
    (hl : m.length = if Maps.has D (kq z.id) = true then (s.l k).length else (s.l k).length + 1) : TlD (D.put (kq z.id) (datT ⟨k, z.t, e⟩)) ⟨updB s.l k m, updN s.ev z.id e, ad, ca⟩ := by
  have same := updB_same s.l k m
  have other := updB_other s.l k m
  refine ⟨h.tidy.put (kq_key _) _, fun d => ?_, fun j x hx q => ?_, ?_⟩
  · rw [has_put h.tidy, h.has]
    constructor
    · rintro (e | ⟨j, e⟩)
      · exact ⟨k, by show d ∈ (updB s.l k m k).map It.id; rw [same, e]; exact List.mem_map.2 ⟨z, (hm z).2 (.inl rfl), rfl⟩⟩
      · rcases (kinds (j := j) (k := k)) with rfl | rfl
        · obtain ⟨y, hy, rfl⟩ := List.mem_map.1 e
          refine ⟨j, ?_⟩
          show y.id ∈ (updB s.l j m j).map It.id
          rw [same]
          by_cases c : y.id = z.id
          · rw [c]; exact List.mem_map.2 ⟨z, (hm z).2 (.inl rfl), rfl⟩
          · exact List.mem_map.2 ⟨y, (hm y).2 (.inr ⟨hy, c⟩), rfl⟩
        · exact ⟨!k, by show d ∈ (updB s.l k m (!k)).map It.id; rw [other]; exact e⟩
    · rintro ⟨j, e⟩
      rcases (kinds (j := j) (k := k)) with rfl | rfl
      · have e' : d ∈ m.map It.id := by rw [← same]; exact e
        obtain ⟨y, hy, rfl⟩ := List.mem_map.1 e'
        rcases (hm y).1 hy with c | ⟨c, -⟩
        · exact .inl (by rw [c])
        · exact .inr ⟨j, List.mem_map.2 ⟨y, c, rfl⟩⟩
      · exact .inr ⟨!k, by rw [← other]; exact e⟩
  · show _ = datT ⟨j, x.t, updN s.ev z.id e x.id⟩
    rcases (kinds (j := j) (k := k)) with rfl | rfl
    · have hx' : x ∈ m := by rw [← same]; exact hx
      rcases (hm x).1 hx' with c | ⟨c, n⟩
      · subst c
        rw [atKey_put_same h.tidy.isMap (kq_key _), updN_same]
      · rw [atKey_put_other (kq_ne n), updN_other e n]
        exact h.at_ j x c q
    · have hx' : x ∈ s.l (!k) := by rw [← other]; exact hx
      rw [atKey_put_other (kq_ne (ho x hx')), updN_other e (ho x hx')]
      exact h.at_ (!k) x hx' q
  · rw [size_put h.tidy, h.lens k]
    have l2 : (updB s.l k m false).length + (updB s.l k m true).length = m.length + (s.l (!k)).length := by
      cases k
      · rw [same]; show _ + (updB s.l false m (!false)).length = _; rw [other]
      · rw [same]; show (updB s.l true m (!true)).length + _ = _; rw [other]; exact Nat.add_comm _ _
    show _ = (updB s.l k m false).length + (updB s.l k m true).length
    rw [l2, hl]
    split
    · rfl
    · omega
theorem TlD.del {D : DataW Unit} {s : TS} (h : TlD D s) {k : Bool} {m : List It} {d : Nat} {ad ca : Nat} (hm : ∀ y, y ∈ m ↔ (y ∈ s.l k ∧ y.id ≠ d)) (ho : ∀ y ∈ s.l (!k), y.id ≠ d)
    (hd : d ∈ (s.l k).map It.id) (hl : m.length + 1 = (s.l k).length) : TlD (D.del (kq d)) ⟨updB s.l k m, s.ev, ad, ca⟩ := by
  have same := updB_same s.l k m
  have other := updB_other s.l k m
  refine ⟨h.tidy.del _, fun f => ?_, fun j x hx q => ?_, ?_⟩
  · by_cases e : f = d
    · subst e
      rw [has_del_same]
      refine ⟨(fun h => by cases h), fun ⟨j, e⟩ => ?_⟩
      rcases (kinds (j := j) (k := k)) with rfl | rfl
      · have e' : f ∈ m.map It.id := by rw [← same]; exact e
        obtain ⟨y, hy, g⟩ := List.mem_map.1 e'
        exact absurd g ((hm y).1 hy).2
      · have e' : f ∈ (s.l (!k)).map It.id := by rw [← other]; exact e
        obtain ⟨y, hy, g⟩ := List.mem_map.1 e'
        exact absurd g (ho y hy)
    · rw [has_del_other (kq_ne e), h.has]
      constructor
      · rintro ⟨j, g⟩
        refine ⟨j, ?_⟩
        rcases (kinds (j := j) (k := k)) with rfl | rfl
        · show f ∈ (updB s.l j m j).map It.id
          rw [same]
          obtain ⟨y, hy, rfl⟩ := List.mem_map.1 g
          exact List.mem_map.2 ⟨y, (hm y).2 ⟨hy, e⟩, rfl⟩
        · show f ∈ (updB s.l k m (!k)).map It.id
          rw [other]; exact g
      · rintro ⟨j, g⟩
        refine ⟨j, ?_⟩
        rcases (kinds (j := j) (k := k)) with rfl | rfl
        · have g' : f ∈ m.map It.id := by rw [← same]; exact g
          obtain ⟨y, hy, rfl⟩ := List.mem_map.1 g'
          exact List.mem_map.2 ⟨y, ((hm y).1 hy).1, rfl⟩
        · rw [← other]; exact g
  · show _ = datT ⟨j, x.t, s.ev x.id⟩
    rcases (kinds (j := j) (k := k)) with rfl | rfl
    · have hx' : x ∈ m := by rw [← same]; exact hx
      have c := (hm x).1 hx'
      rw [atKey_del_other (kq_ne c.2)]
      exact h.at_ j x c.1 q
    · have hx' : x ∈ s.l (!k) := by rw [← other]; exact hx
      rw [atKey_del_other (kq_ne (ho x hx'))]
      exact h.at_ (!k) x hx' q
  · have sz := size_del (k := kq d) h.tidy
    rw [if_pos ((h.has d).2 ⟨k, hd⟩), h.lens k] at sz
    have l2 : (updB s.l k m false).length + (updB s.l k m true).length = m.length + (s.l (!k)).length := by
      cases k
      · rw [same]; show _ + (updB s.l false m (!false)).length = _; rw [other]
      · rw [same]; show (updB s.l true m (!true)).length + _ = _; rw [other]; exact Nat.add_comm _ _
    show _ = (updB s.l k m false).length + (updB s.l k m true).length
    rw [l2]
    omega

/-! ### Timers -/
def tmC (R : Bool → Nat) (b ad ca : Nat) : Array Value := #[.pointer (some ⟨R false, 0, none⟩), .pointer (some ⟨R true, 0, none⟩), .map (some b), .int .u64 (ad : Nat), .int .u64 (ca : Nat)]
def FF (N b : Nat) (G : Bool → Nat → Prop) (M : Nat) : Prop := M = N ∨ M = b ∨ ∃ k, G k M
structure TmB (w : World) (N b : Nat) (R : Bool → Nat) (G : Bool → Nat → Prop) (L : Bool → List It) (D : DataW Unit) (ad ca : Nat) : Prop where
  bk : w.heap[N]? = some (.cells (tmC R b ad ca) 48 (0, 0))
  hq : ∀ k, HqP w (G k) (R k) 256 (L k)
  mp : MapT w b (Maps.size D) D
  d0 : ∀ k M, G k M → ¬ G (!k) M
  d1 : ∀ k M, G k M → M ≠ N ∧ M ≠ b
section
variable {w w' : World} {N b : Nat} {R : Bool → Nat} {G : Bool → Nat → Prop} {L : Bool → List It} {D : DataW Unit} {ad ca : Nat}
theorem TmB.nb (h : TmB w N b R G L D ad ca) : N ≠ b := by
  obtain ⟨es, k, e⟩ := h.mp.blk
  intro e2
  have := h.bk
  rw [e2, e] at this
  cases this
theorem TmB.lt (h : TmB w N b R G L D ad ca) : ∀ M, FF N b G M → M < w.heap.size := by
  rintro M (rfl | rfl | ⟨k, g⟩)
  · exact (Array.getElem?_eq_some_iff.1 h.bk).1
  · exact World.ownsMap.lt h.mp
  · exact (h.hq k).lt M g
theorem TmB.keep (h : TmB w N b R G L D ad ca) (k : ∀ M, FF N b G M → w'.heap[M]? = w.heap[M]?) : TmB w' N b R G L D ad ca :=
  ⟨(k N (.inl rfl)).trans h.bk, fun j => (h.hq j).keep fun M hM => k M (.inr (.inr ⟨j, hM⟩)), h.mp.same (k b (.inr (.inl rfl))), h.d0, h.d1⟩
theorem TmB.below (h : TmB w N b R G L D ad ca) (k : Below w.heap.size w w') : TmB w' N b R G L D ad ca := h.keep fun M hM => k.block M (h.lt M hM)
theorem TmB.c0 (h : TmB w N b R G L D ad ca) : w.cell? ⟨N, 0, none⟩ = some (.pointer (some ⟨R false, 0, none⟩)) := blk_cell h.bk
theorem TmB.c1 (h : TmB w N b R G L D ad ca) : w.cell? ⟨N, 1, none⟩ = some (.pointer (some ⟨R true, 0, none⟩)) := blk_cell h.bk
theorem TmB.c2 (h : TmB w N b R G L D ad ca) : w.cell? ⟨N, 2, none⟩ = some (.map (some b)) := blk_cell h.bk
theorem TmB.c3 (h : TmB w N b R G L D ad ca) : w.cell? ⟨N, 3, none⟩ = some (.int .u64 (ad : Nat)) := blk_cell h.bk
theorem TmB.c4 (h : TmB w N b R G L D ad ca) : w.cell? ⟨N, 4, none⟩ = some (.int .u64 (ca : Nat)) := blk_cell h.bk
/-- A call on one of the heaps. -/
theorem TmB.heap (h : TmB w N b R G L D ad ca) {k : Bool} {F' : Nat → Prop} {m : List It} (q : HqP w' F' (R k) 256 m) (t : FT (G k) w w') (n : ∀ M, F' M → G k M ∨ w.heap.size ≤ M) :
    TmB w' N b R (updB G k F') (updB L k m) D ad ca ∧ FT (FF N b G) w w' ∧ ∀ M, FF N b (updB G k F') M → FF N b G M ∨ w.heap.size ≤ M := by
  have same := updB_same G k F'
  have other := updB_other G k F'
  have N1 := (Array.getElem?_eq_some_iff.1 h.bk).1
  have B1 := World.ownsMap.lt h.mp
  refine ⟨⟨?_, fun j => ?_, ?_, fun j M g => ?_, fun j M g => ?_⟩, ⟨fun K a c => t.keep K (fun g => a (.inr (.inr ⟨k, g⟩))) c, fun B a c => t.low B (fun M g => a M (.inr (.inr ⟨k, g⟩))) c, t.size⟩, ?_⟩
  · exact (t.keep N (fun g => (h.d1 k N g).1 rfl) N1).trans h.bk
  · rcases (kinds (j := j) (k := k)) with rfl | rfl
    · rw [same, updB_same]; exact q
    · rw [other, updB_other]
      exact (h.hq _).keep fun M g => t.keep M (fun f => h.d0 k M f g) ((h.hq _).lt M g)
  · exact h.mp.same (t.keep b (fun g => (h.d1 k b g).2 rfl) B1)
  · rcases (kinds (j := j) (k := k)) with rfl | rfl
    · rw [same] at g
      rw [other]
      intro f
      rcases n M g with c | c
      · exact h.d0 j M c f
      · have := (h.hq _).lt M f; omega
    · rw [other] at g
      rw [Bool.not_not, same]
      intro f
      rcases n M f with c | c
      · exact h.d0 k M c g
      · have := (h.hq _).lt M g; omega
  · rcases (kinds (j := j) (k := k)) with rfl | rfl
    · rw [same] at g
      rcases n M g with c | c
      · exact h.d1 j M c
      · omega
    · rw [other] at g
      exact h.d1 _ M g
  · rintro M (e | e | ⟨j, g⟩)
    · exact .inl (.inl e)
    · exact .inl (.inr (.inl e))
    · rcases (kinds (j := j) (k := k)) with rfl | rfl
      · rw [same] at g
        rcases n M g with c | c
        · exact .inl (.inr (.inr ⟨j, c⟩))
        · exact .inr c
      · rw [other] at g
        exact .inl (.inr (.inr ⟨_, g⟩))
/-- The map has turned. -/
theorem TmB.map {n : Nat} {D' : DataW Unit} (h : TmB w N b R G L D ad ca) (m : MapT w' b n D') (u : w.mapTurned w' b) : TmB w' N b R G L D' ad ca ∧ FT (FF N b G) w w' := by
  have g := u.grown
  have e : ∀ K, K ≠ b → K < w.heap.size → w'.heap[K]? = w.heap[K]? := fun K hK hl => g.block K hl (fun e => by injection e with e; exact hK e)
  refine ⟨⟨?_, fun k => (h.hq k).keep fun M hM => e M (h.d1 k M hM).2 ((h.hq k).lt M hM), m.tight, h.d0, h.d1⟩, (FT.of_below (Below.refl _ _)).grown g fun k hk => by injection hk with hk; exact .inr (.inl hk.symm)⟩
  exact (e N h.nb (Array.getElem?_eq_some_iff.1 h.bk).1).trans h.bk
theorem TmB.set3 (h : TmB w N b R G L D ad ca) (x : Nat) : TmB (w.setCell ⟨N, 3, none⟩ (.int .u64 (x : Nat))) N b R G L D x ca ∧ FT (FF N b G) w (w.setCell ⟨N, 3, none⟩ (.int .u64 (x : Nat))) := by
  refine ⟨⟨blk_set (o := 3) (u := .int .u64 (x : Nat)) h.bk, fun k => (h.hq k).keep fun M hM => Go.Deep.blk_setCell_other _ _ _ _ (h.d1 k M hM).1, h.mp.same (Go.Deep.blk_setCell_other _ _ _ _ (Ne.symm h.nb)), h.d0, h.d1⟩, (FT.of_below (Below.refl _ _)).set (a := ⟨N, 3, none⟩) (.inl rfl) _⟩
theorem TmB.set4 (h : TmB w N b R G L D ad ca) (x : Nat) : TmB (w.setCell ⟨N, 4, none⟩ (.int .u64 (x : Nat))) N b R G L D ad x ∧ FT (FF N b G) w (w.setCell ⟨N, 4, none⟩ (.int .u64 (x : Nat))) := by
  refine ⟨⟨blk_set (o := 4) (u := .int .u64 (x : Nat)) h.bk, fun k => (h.hq k).keep fun M hM => Go.Deep.blk_setCell_other _ _ _ _ (h.d1 k M hM).1, h.mp.same (Go.Deep.blk_setCell_other _ _ _ _ (Ne.symm h.nb)), h.d0, h.d1⟩, (FT.of_below (Below.refl _ _)).set (a := ⟨N, 4, none⟩) (.inl rfl) _⟩
end

/-- Timers that hold a state; F: the blocks that are their own. -/
def TmP (w : World) (F : Nat → Prop) (N : Nat) (s : TS) : Prop := ∃ b R G D, F = FF N b G ∧ TmB w N b R G s.l D s.ad s.ca ∧ TlD D s ∧ s.Ok
theorem TmP.keep {w w' : World} {F : Nat → Prop} {N : Nat} {s : TS} (h : TmP w F N s) (k : ∀ M, F M → w'.heap[M]? = w.heap[M]?) : TmP w' F N s := by
  obtain ⟨b, R, G, D, rfl, t, d, o⟩ := h
  exact ⟨b, R, G, D, rfl, t.keep k, d, o⟩
theorem TmP.lt {w : World} {F : Nat → Prop} {N : Nat} {s : TS} (h : TmP w F N s) : ∀ M, F M → M < w.heap.size := by
  obtain ⟨b, R, G, D, rfl, t, d, o⟩ := h
  exact t.lt
theorem TmP.below {w w' : World} {F : Nat → Prop} {N : Nat} {s : TS} (h : TmP w F N s) (b : Below w.heap.size w w') : TmP w' F N s := h.keep fun M hM => b.block M (h.lt M hM)
theorem TmP.ok {w : World} {F : Nat → Prop} {N : Nat} {s : TS} (h : TmP w F N s) : s.Ok := by
  obtain ⟨b, R, G, D, rfl, t, d, o⟩ := h
  exact o
/-- What a call makes of timers. -/
def TmR (w : World) (F : Nat → Prop) (N : Nat) (s : TS) (w' : World) : Prop := ∃ F', TmP w' F' N s ∧ FT F w w' ∧ ∀ M, F' M → F M ∨ w.heap.size ≤ M
theorem TmR.same {w w' : World} {F : Nat → Prop} {N : Nat} {s : TS} (h : TmP w F N s) (b : Below w.heap.size w w') : TmR w F N s w' := ⟨F, h.below b, FT.of_below b, fun _ h => .inl h⟩
theorem FT.next {F G : Nat → Prop} {w w1 w2 : World} (h : FT F w w1) (n : ∀ M, G M → F M ∨ w.heap.size ≤ M) (k : FT G w1 w2) : FT F w w2 := h.trans k n
theorem TmR.next {w w1 w2 : World} {F : Nat → Prop} {N : Nat} {s2 : TS} {F1 : Nat → Prop} (t : FT F w w1) (n : ∀ M, F1 M → F M ∨ w.heap.size ≤ M) (k : TmR w1 F1 N s2 w2) : TmR w F N s2 w2 := by
  obtain ⟨F2, h2, t2, n2⟩ := k
  refine ⟨F2, h2, t.trans t2 n, fun M hM => ?_⟩
  rcases n2 M hM with e | e
  · exact n M e
  · exact .inr (Nat.le_trans t.size e)
theorem TmR.below {w w1 w2 : World} {F : Nat → Prop} {N : Nat} {s : TS} (k : TmR w F N s w1) (b : Below w1.heap.size w1 w2) : TmR w F N s w2 := by
  obtain ⟨F1, h1, t1, n1⟩ := k
  exact ⟨F1, h1.below b, t1.trans (FT.of_below (F := F1) b) n1, n1⟩
end Go.Proofs.Ytbfmmeapjfljbaa
