/- HeapOrder: what is wanted: while the map is ranged over; sorted; popped. -/
import Derived.Test.YtlfbenlojiiknaaHeapOrdN
import Derived.Test.YtlfbenlojiiknaaHeapPlaysX
set_option maxRecDepth 100000
namespace Go.Proofs.Ytlfbenlojiiknaa
open Go.ChangeShapes Go.WideShapes Go.ChangeAt Go.RowKit Go.Maps HeapM

/-- What has come of a range so far. -/
structure WantS (L : List It) (left : Lit → Bool) (ws : List It) : Prop where
  sub : ∀ x, x ∈ ws → x ∈ L
  gone : ∀ x, x ∈ ws → left (ki x.id) = false
  nod : Nod ws
  all : ∀ x, x ∈ L → left (ki x.id) = false → x ∈ ws
theorem want_start {D : DataW Unit} {L : List It} (mo : MoD D L) : WantS L (Maps.has D) [] :=
  ⟨(fun x h => by cases h), (fun x h => by cases h), by unfold Nod; simp, fun x hx h => by
    have := (mo.has x.id).2 (List.mem_map.2 ⟨x, hx, rfl⟩)
    rw [this] at h
    cases h⟩
theorem WantS.step {L ws : List It} {left : Lit → Bool} (h : WantS L left ws) (nd : Nod L) {x : It} (hx : x ∈ L) (lk : left (ki x.id) = true) : WantS L (fun z => left z && !z.sameKey (ki x.id)) (ws ++ [x]) := by
  refine ⟨fun y hy => ?_, fun y hy => ?_, ?_, fun y hy hl => ?_⟩
  · rcases List.mem_append.1 hy with q | q
    · exact h.sub y q
    · rw [List.mem_singleton.1 q]; exact hx
  · rcases List.mem_append.1 hy with q | q
    · show (left (ki y.id) && !(ki y.id).sameKey (ki x.id)) = false
      rw [h.gone y q]; rfl
    · rw [List.mem_singleton.1 q]
      show (left (ki x.id) && !(ki x.id).sameKey (ki x.id)) = false
      rw [WideAt.sameKey_self (ki_key _)]
      simp
  · unfold Nod
    rw [List.map_append, List.nodup_append]
    refine ⟨h.nod, by simp, fun a ha c hc => ?_⟩
    rw [List.map_cons, List.map_nil, List.mem_singleton] at hc
    obtain ⟨y, hy, e⟩ := List.mem_map.1 ha
    intro e2
    have g := h.gone y hy
    rw [show y.id = x.id by rw [e, e2, hc], lk] at g
    cases g
  · have hl : (left (ki y.id) && !(ki y.id).sameKey (ki x.id)) = false := hl
    cases e : left (ki y.id) with
    | false => exact List.mem_append_left _ (h.all y hy e)
    | true =>
      rw [e, Bool.true_and] at hl
      have s : (ki y.id).sameKey (ki x.id) = true := by simpa using hl
      have e2 : y.id = x.id := by
        refine Classical.byContradiction fun ne => ?_
        exact ki_ne ne (WideAt.sameKey_eq s)
      obtain ⟨i, hi, rfl⟩ := mem_gt hy
      obtain ⟨k, hk, rfl⟩ := mem_gt hx
      rw [nd.one hi hk e2]
      exact List.mem_append_right _ (by simp)
theorem nod_nodup {l : List It} (h : Nod l) : l.Nodup := by
  unfold Nod at h
  unfold List.Nodup at *
  rw [List.pairwise_map] at h
  exact h.imp fun h e => h (congrArg It.id e)
theorem perm_of_mem : ∀ (ws L : List It), ws.Nodup → L.Nodup → (∀ x, x ∈ ws ↔ x ∈ L) → ws.Perm L
  | [], L, _, _, h => by
    cases L with
    | nil => exact List.Perm.refl _
    | cons a l => exact absurd ((h a).2 (by simp)) (by simp)
  | x :: ws, L, n1, n2, h => by
    have hx : x ∈ L := (h x).1 (by simp)
    have p := List.perm_cons_erase hx
    rw [List.nodup_cons] at n1
    refine (List.Perm.cons x (perm_of_mem ws (L.erase x) n1.2 (n2.erase x) fun y => ?_)).trans p.symm
    rw [List.Nodup.mem_erase_iff n2]
    constructor
    · intro hy
      exact ⟨fun e => n1.1 (by rw [← e]; exact hy), (h y).1 (by simp [hy])⟩
    · rintro ⟨ne, hy⟩
      rcases List.mem_cons.1 ((h y).2 hy) with e | e
      · exact absurd e ne
      · exact e
theorem len_of_sub : ∀ (ws L : List It), ws.Nodup → (∀ x, x ∈ ws → x ∈ L) → ws.length ≤ L.length
  | [], L, _, _ => Nat.zero_le _
  | x :: ws, L, n, h => by
    rw [List.nodup_cons] at n
    have p := List.perm_cons_erase (h x (by simp))
    have q := len_of_sub ws (L.erase x) n.2 fun y hy => (List.mem_erase_of_ne (fun e => n.1 (by rw [← e]; exact hy))).2 (h y (by simp [hy]))
    have := p.length_eq
    simp only [List.length_cons] at this ⊢
    omega
theorem WantS.done {L ws : List It} {left : Lit → Bool} (h : WantS L left ws) (nd : Nod L) (e : ∀ kl, left kl = false) : ws.Perm L :=
  perm_of_mem ws L (nod_nodup h.nod) (nod_nodup nd) fun x => ⟨h.sub x, fun hx => h.all x hx (e _)⟩

/-- A row of one's own as a thing. -/
def wTh (p : Option Addr) (n c : Nat) (ws : List It) : Th := ⟨fun w F => OwnI w 34 0 p n c ws ∧ ∀ J, F J ↔ ∃ a, p = some a ∧ J = a.block, fun h k => ⟨h.1.keep fun a ha => k _ ((h.2 _).2 ⟨a, ha, rfl⟩), h.2⟩, fun h J j => by
  obtain ⟨a, rfl, rfl⟩ := (h.2 J).1 j
  exact h.1.lt⟩
/-- .. that is read alone. -/
def RdP (p : Option Addr) (n c : Nat) (ws : List It) (w : World) (F : Nat → Prop) : Prop := HoldsI w p n c ws ∧ (∀ a, p = some a → a.block < w.heap.size) ∧ ∀ J, F J ↔ ∃ a, p = some a ∧ J = a.block
theorem RdP.keep {p : Option Addr} {n c : Nat} {ws : List It} {w w' : World} {F : Nat → Prop} (h : RdP p n c ws w F) (k : ∀ K, F K → w'.heap[K]? = w.heap[K]?) : RdP p n c ws w' F := by
  have e : ∀ a, p = some a → w'.heap[a.block]? = w.heap[a.block]? := fun a ha => k _ ((h.2.2 _).2 ⟨a, ha, rfl⟩)
  refine ⟨⟨h.1.len, h.1.cap, h.1.max, h.1.bare, fun i hi => ?_⟩, fun a ha => ?_, h.2.2⟩
  · obtain ⟨a, ha, c1, c2, c3⟩ := h.1.cell i hi
    have q : ∀ o, w'.cell? (a.add o) = w.cell? (a.add o) := fun o => by
      unfold World.cell?
      rw [add_block, e a ha]
    exact ⟨a, ha, by rw [q]; exact c1, by rw [q]; exact c2, by rw [q]; exact c3⟩
  · have q := h.2.1 a ha
    refine Classical.byContradiction fun ne => ?_
    have e2 := e a ha
    rw [Array.getElem?_eq_none (by omega), Array.getElem?_eq_getElem q] at e2
    cases e2
theorem RdP.lt {p : Option Addr} {n c : Nat} {ws : List It} {w : World} {F : Nat → Prop} (h : RdP p n c ws w F) : ∀ K, F K → K < w.heap.size := fun J j => by
  obtain ⟨a, ha, rfl⟩ := (h.2.2 J).1 j
  exact h.2.1 a ha
def rdTh (p : Option Addr) (n c : Nat) (ws : List It) : Th := ⟨RdP p n c ws, fun h k => h.keep k, fun h => h.lt⟩
section
variable {w : World} {B0 : Nat} {v wr w' : World} {T1 T2 T3 T' : Th}
theorem Side.want0 (h : Side w B0 v wr T1 T2 noTh) : Side w B0 v wr T1 T2 (wTh none 0 0 []) :=
  h.add (T' := wTh none 0 0 []) (Below.refl _ _) (F' := fun _ => False) ⟨OwnI.nil _ _ _, fun J => ⟨fun h => h.elim, fun ⟨a, e, _⟩ => by cases e⟩⟩ (fun K h => h.elim)
theorem Side.third (h : Side w B0 v wr T1 T2 T3) (c : ∀ F, T3.P wr F → ∃ F', T'.P w' F' ∧ FT F wr w' ∧ ∀ K, F' K → F K ∨ wr.heap.size ≤ K) : Side w B0 v w' T1 T2 T' := (Side.step (T' := T') h.turn.turn c).turn
theorem Side.wown {p : Option Addr} {n c : Nat} {ws : List It} (h : Side w B0 v wr T1 T2 (wTh p n c ws)) : OwnI wr 34 0 p n c ws := by
  obtain ⟨F, G, H, -, -, q, -⟩ := h.out
  exact q.1
theorem Side.wadd {p : Option Addr} {n c g cap : Nat} {ws : List It} {x : It} (h : Side w B0 v wr T1 T2 (wTh p n c ws)) (o : w'.ownsRow 0 34 3 (.slice (some ⟨g, 0, none⟩) (n + 1) cap) (n + 1) (cellsI ws ++ [.int .u64 (x.id : Nat), .int .u64 (x.seq : Nat), .int .i64 x.t]))
    (gr : wr.grownBy w' (Value.slice p n c).ownBlock) (m : (Value.slice p n c).ownBlock = some g ∨ g = wr.heap.size) : Side w B0 v w' T1 T2 (wTh (some ⟨g, 0, none⟩) (n + 1) cap (ws ++ [x])) := by
  refine h.third fun F hF => ⟨fun J => J = g, ⟨?_, fun J => ⟨fun e => ⟨_, rfl, e⟩, fun ⟨a, e, q⟩ => by injection e with e; rw [← e] at q; exact q⟩⟩, FT.of_grown gr fun k hk => ?_, fun K hK => ?_⟩
  · unfold OwnI
    rw [cellsI_app]
    exact o
  · cases p with
    | none => cases hk
    | some a => injection hk with hk; exact (hF.2 k).2 ⟨a, rfl, hk.symm⟩
  · rcases m with e | e
    · left
      cases p with
      | none => cases e
      | some a => injection e with e; exact (hF.2 K).2 ⟨a, rfl, by rw [hK, ← e]⟩
    · right; rw [hK, e]; exact Nat.le_refl _
theorem Side.wsort {p : Option Addr} {n c : Nat} {ws ts : List It} (h : Side w B0 v wr T1 T2 (wTh p n c ws)) (o : HoldsI w' p n c ts) (gr : wr.grownBy w' (Value.slice p n c).ownBlock) : Side w B0 v w' T1 T2 (rdTh p n c ts) := by
  refine h.third fun F hF => ⟨F, ⟨o, fun a ha => ?_, hF.2⟩, FT.of_grown gr fun k hk => ?_, fun K hK => .inl hK⟩
  · subst ha
    exact Nat.lt_of_lt_of_le hF.1.lt gr.size
  · cases p with
    | none => cases hk
    | some a => injection hk with hk; exact (hF.2 k).2 ⟨a, rfl, hk.symm⟩
theorem Side.wread {p : Option Addr} {n c : Nat} {ws : List It} (h : Side w B0 v wr T1 T2 (rdTh p n c ws)) : HoldsI wr p n c ws := by
  obtain ⟨F, G, H, -, -, q, -⟩ := h.out
  exact q.1
end
/-- A row in order, popped: the next one. -/
theorem pop_next {l ts : List It} {n j : Nat} (hp : Heap l) (p : l.Perm (ts.drop j)) (hn : ts.length = n) (hj : j < n) (s : ∀ i k, i < k → k < n → ahd (gt ts k) (gt ts i) = false) : popE l = 0 ∧ popX l = gt ts j ∧ popR l = remL l 0 ∧ (remL l 0).Perm (ts.drop (j + 1)) ∧ Heap (remL l 0) := by
  have hj' : j < ts.length := by omega
  have e : ts.drop j = gt ts j :: ts.drop (j + 1) := by rw [gt_of hj']; exact List.drop_eq_getElem_cons hj'
  rw [e] at p
  obtain ⟨a, b, c⟩ := order_first hp p.symm (fun y hy => by
    obtain ⟨k, hk, e2⟩ := mem_gt hy
    rw [List.length_drop] at hk
    have : gt (ts.drop (j + 1)) k = gt ts (j + 1 + k) := by
      unfold gt
      rw [List.getD_eq_getElem?_getD, List.getD_eq_getElem?_getD, List.getElem?_drop]
    rw [← e2, this]
    exact s j (j + 1 + k) (by omega) (by omega))
  exact ⟨(pop_some c).1, by rw [(pop_some c).2.1, a], (pop_some c).2.2, b, rem_heap 0 hp⟩
end Go.Proofs.Ytlfbenlojiiknaa
