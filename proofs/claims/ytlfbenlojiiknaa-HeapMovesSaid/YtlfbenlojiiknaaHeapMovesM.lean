/- HeapMoves: two heaps side by side. -/
import Derived.Test.YtlfbenlojiiknaaHeapAheadW
namespace Go.Proofs.Ytlfbenlojiiknaa
open Go.ChangeShapes Go.WideShapes Go.ChangeAt Go.RowKit HeapM

/-- Two heaps, told apart; the blocks from B0 up to v's end, neither heap's, are as they were in v. -/
structure Two (C : HCode) (w : World) (B0 : Nat) (v wr : World) (N M sz : Nat) (A B : List It) : Prop where
  out : ∃ F G, C.Hq wr F N sz A ∧ C.Hq wr G M sz B ∧ (∀ K, F K → w.heap.size ≤ K ∧ (K < B0 ∨ v.heap.size ≤ K)) ∧ (∀ K, G K → w.heap.size ≤ K ∧ (K < B0 ∨ v.heap.size ≤ K)) ∧ ∀ K, F K → ¬ G K
  keep : ∀ K, B0 ≤ K → K < v.heap.size → wr.heap[K]? = v.heap[K]?
  low : Below w.heap.size w wr
  size : v.heap.size ≤ wr.heap.size
section
variable {C : HCode} {w : World} {B0 : Nat} {v wr : World} {N M sz : Nat} {A B : List It}
theorem Two.swap (h : Two C w B0 v wr N M sz A B) : Two C w B0 v wr M N sz B A := by
  obtain ⟨F, G, f, g, hf, hg, ne⟩ := h.out
  exact ⟨⟨G, F, g, f, hg, hf, fun K a b => ne K b a⟩, h.keep, h.low, h.size⟩
theorem Two.below {w' : World} (h : Two C w B0 v wr N M sz A B) (k : Below wr.heap.size wr w') : Two C w B0 v w' N M sz A B := by
  obtain ⟨F, G, f, g, hf, hg, ne⟩ := h.out
  exact ⟨⟨F, G, C.below f k, C.below g k, hf, hg, ne⟩, fun K a b => (k.block K (Nat.lt_of_lt_of_le b h.size)).trans (h.keep K a b), h.low.trans (k.mono h.low.size), Nat.le_trans h.size k.size⟩
/-- New boxes: from here on they are what is kept. -/
theorem Two.start {v' : World} (h : Two C w B0 v wr N M sz A B) (k : Below wr.heap.size wr v') : Two C w wr.heap.size v' v' N M sz A B := by
  obtain ⟨F, G, f, g, hf, hg, ne⟩ := h.out
  exact ⟨⟨F, G, C.below f k, C.below g k, fun K a => ⟨(hf K a).1, .inl (C.lt f K a)⟩, fun K a => ⟨(hg K a).1, .inl (C.lt g K a)⟩, ne⟩, fun _ _ _ => rfl, h.low.trans (k.mono h.low.size), Nat.le_refl _⟩
/-- A call on the first one. -/
theorem Two.call {f : FuncId} {args : Array Value} {E : Ending → Prop} {A' : List It} (h : Two C w B0 v wr N M sz A B)
    (c : ∀ F, C.Hq wr F N sz A → Calls Try.prog f args wr fun e w' => E e ∧ ∃ F', C.Hq w' F' N sz A' ∧ FT F wr w' ∧ ∀ K, F' K → F K ∨ wr.heap.size ≤ K) :
    Calls Try.prog f args wr fun e w' => E e ∧ Two C w B0 v w' N M sz A' B := by
  obtain ⟨F, G, hF, hG, uf, ug, ne⟩ := h.out
  refine (c F hF).mono fun e w' ⟨a, F', k, t, n⟩ => ⟨a, ⟨F', G, k, C.keep hG fun K hK => t.keep K (fun z => ne K z hK) (C.lt hG K hK), fun K hK => ?_, ug, fun K hK hg => ?_⟩, fun K h1 h2 => ?_, h.low.trans (t.low _ (fun K hK => (uf K hK).1) h.low.size), Nat.le_trans h.size t.size⟩
  · rcases n K hK with z | z
    · exact uf K z
    · exact ⟨Nat.le_trans h.low.size z, .inr (Nat.le_trans h.size z)⟩
  · rcases n K hK with z | z
    · exact ne K z hg
    · have := C.lt hG K hg; omega
  · refine (t.keep K (fun z => ?_) (Nat.lt_of_lt_of_le h2 h.size)).trans (h.keep K h1 h2)
    rcases (uf K z).2 with y | y <;> omega
theorem Two.push (h : Two C w B0 v wr N M sz A B) (x : It) (hx : ItOk x) : Calls Try.prog 12 #[.pointer (some ⟨N, 0, none⟩), itV x] wr fun e w' => e = .returned (.int .i64 (pushE (sz : Nat) A x)) ∧ Two C w B0 v w' N M sz (pushR (sz : Nat) A x) B := h.call fun _ q => C.push x q hx
theorem Two.set (h : Two C w B0 v wr N M sz A B) (x : It) (hx : ItOk x) : Calls Try.prog 15 #[.pointer (some ⟨N, 0, none⟩), itV x] wr fun e w' => e = .returned (.int .i64 (setE A x)) ∧ Two C w B0 v w' N M sz (setR A x) B := h.call fun _ q => C.set x q hx
theorem Two.remove (h : Two C w B0 v wr N M sz A B) (d : Nat) (hd : d < 18446744073709551616) : Calls Try.prog 17 #[.pointer (some ⟨N, 0, none⟩), .int .u64 (d : Nat)] wr fun e w' => e = .returned (.tuple #[itV (remX A d), .int .i64 (remE A d)]) ∧ Two C w B0 v w' N M sz (remR A d) B := h.call fun _ q => C.remove d q hd
theorem Two.pop (h : Two C w B0 v wr N M sz A B) : Calls Try.prog 19 #[.pointer (some ⟨N, 0, none⟩)] wr fun e w' => e = .returned (.tuple #[itV (popX A), .int .i64 (popE A)]) ∧ Two C w B0 v w' N M sz (popR A) B := h.call fun _ q => C.pop q
theorem Two.row (h : Two C w B0 v wr N M sz A B) : Calls Try.prog 26 #[.pointer (some ⟨N, 0, none⟩)] wr fun e w' => ∃ p c, e = .returned (.slice p A.length c) ∧ HoldsI w' p A.length c A ∧ Two C w B0 v w' N M sz A B := by
  obtain ⟨F, G, hF, -⟩ := h.out
  exact (C.row hF).mono fun e w' ⟨p, c, a, r, n, b⟩ => ⟨p, c, a, r, h.below b⟩
theorem Two.len (h : Two C w B0 v wr N M sz A B) : Calls Try.prog 13 #[.pointer (some ⟨N, 0, none⟩)] wr fun e w' => e = .returned (.int .i64 (A.length : Nat)) ∧ Two C w B0 v w' N M sz A B := by
  obtain ⟨F, G, hF, -⟩ := h.out
  exact (C.len hF).mono fun e w' ⟨a, b⟩ => ⟨a, h.below b⟩
theorem Two.fit (h : Two C w B0 v wr N M sz A B) : A.length ≤ sz ∧ Nod A := by
  obtain ⟨F, G, hF, -⟩ := h.out
  exact ⟨(C.fit hF).1, C.nod hF⟩
/-- Rows that were there before the calls. -/
theorem Two.items (h : Two C w B0 v wr N M sz A B) {p : Option Addr} {n c : Nat} {l : List It} (r : HoldsI v p n c l) (hn : ∀ a, p = some a → B0 ≤ a.block) : HoldsI wr p n c l := by
  refine ⟨r.len, r.cap, r.max, r.bare, fun i hi => ?_⟩
  obtain ⟨a, rfl, c1, c2, c3⟩ := r.cell i hi
  have K : ∀ o, (a.add o).block = a.block := fun o => by unfold Addr.add; split <;> rfl
  have go : ∀ {o : Nat} {u : Value}, v.cell? (a.add o) = some u → wr.cell? (a.add o) = some u := fun {o u} c => (World.cell?_of_block (h.keep _ (by rw [K]; exact hn a rfl) (World.block_lt_of_cell? v _ c))).trans c
  exact ⟨a, rfl, go c1, go c2, go c3⟩
/-- A second heap beside the first. -/
theorem HAt.second {A : List It} (h : HAt C w wr N sz A) (h1 : 1 ≤ sz) (h2 : sz ≤ 1048576) : Calls Try.prog 9 #[.int .i64 (sz : Nat)] wr fun e w' => ∃ M, e = .returned (.tuple #[.pointer (some ⟨M, 0, none⟩), .int .i64 0]) ∧ Two C w w'.heap.size w' w' N M sz A [] := by
  obtain ⟨F, q1, q2⟩ := h.out
  refine (C.new_ok wr sz h1 h2).mono fun e w' ⟨M, G, a, b, n, l⟩ => ⟨M, a, ⟨F, G, C.below q1 l, b, fun K z => ⟨q2 K z, .inl ?_⟩, fun K z => ⟨Nat.le_trans h.low.size (n K z), .inl (C.lt b K z)⟩, fun K z y => ?_⟩, fun K _ _ => rfl, h.low.trans (l.mono h.low.size), Nat.le_refl _⟩
  · exact Nat.lt_of_lt_of_le (C.lt q1 K z) l.size
  · have := C.lt q1 K z; have := n K y; omega
end

/-! ### One heap is the other, moved -/
theorem pushE_shift (d : Int) (sz : Int) (l : List It) (x : It) : pushE sz (l.map (shift d)) (shift d x) = pushE sz l x := by
  unfold pushE
  rw [shift_id, place_map (shift_id d), List.length_map]
theorem pushR_shift (d : Int) (sz : Int) (l : List It) (x : It) : pushR sz (l.map (shift d)) (shift d x) = (pushR sz l x).map (shift d) := by
  unfold pushR
  rw [shift_id, place_map (shift_id d), List.length_map, push_map (shift_ahd d)]
  split
  · rfl
  · split <;> rfl
theorem setE_shift (d : Int) (l : List It) (x : It) : setE (l.map (shift d)) (shift d x) = setE l x := by
  unfold setE
  rw [shift_id, place_map (shift_id d)]
theorem setR_shift (d : Int) (l : List It) (x : It) : setR (l.map (shift d)) (shift d x) = (setR l x).map (shift d) := by
  unfold setR
  rw [shift_id, place_map (shift_id d)]
  cases e : place l x.id with
  | none => rfl
  | some k => exact setL_map (shift_ahd d) x (place_some e).1
theorem remE_shift (d : Int) (l : List It) (i : Nat) : remE (l.map (shift d)) i = remE l i := by
  unfold remE
  rw [place_map (shift_id d)]
theorem remR_shift (d : Int) (l : List It) (i : Nat) : remR (l.map (shift d)) i = (remR l i).map (shift d) := by
  unfold remR
  rw [place_map (shift_id d)]
  cases e : place l i with
  | none => rfl
  | some k => exact rem_map (shift_ahd d) (place_some e).1
theorem popE_shift (d : Int) (l : List It) : popE (l.map (shift d)) = popE l := by
  unfold popE
  rw [List.length_map]
theorem popR_shift (d : Int) (l : List It) : popR (l.map (shift d)) = (popR l).map (shift d) := by
  unfold popR
  rw [List.length_map]
  split
  · rfl
  · exact rem_map (shift_ahd d) (by omega)
theorem popX_id (d : Int) (l : List It) : (popX (l.map (shift d))).id = (popX l).id := by
  unfold popX
  rw [List.length_map]
  split
  · rfl
  · rw [gt_map (by omega)]; rfl
theorem ids_shift (d : Int) (l : List It) : idsOf (l.map (shift d)) = idsOf l := ids_map (shift_id d) l
theorem remR_mem {l : List It} (n : Nod l) {i : Nat} {x : It} (h : x ∈ remR l i) : x ∈ l := by
  unfold remR at h
  cases e : place l i with
  | none => rw [e] at h; exact h
  | some k => rw [e] at h; exact ((mem_rem n (place_some e).1).1 h).1
theorem popR_mem {l : List It} (n : Nod l) {x : It} (h : x ∈ popR l) : x ∈ l := by
  unfold popR at h
  split at h
  · exact h
  · exact ((mem_rem n (by omega)).1 h).1
theorem pushR_in {sz : Int} {l : List It} {x y : It} (h : y ∈ pushR sz l x) : y = x ∨ y ∈ l := by
  unfold pushR at h
  split at h
  · exact .inr h
  · split at h
    · exact .inr h
    · exact mem_push.1 h
theorem setR_mem {l : List It} (n : Nod l) {x y : It} (h : y ∈ setR l x) : y = x ∨ y ∈ l := by
  unfold setR at h
  cases e : place l x.id with
  | none => rw [e] at h; exact .inr h
  | some k =>
    rw [e] at h
    rcases (mem_setL n (place_some e).1 (place_some e).2).1 h with z | z
    · exact .inl z
    · exact .inr z.1

/-! ### A row pushed from its end on; two heaps of the same items, popped -/
theorem back_step {L : List It} {m q : Nat} (hm : L.length = m) (hq : q < m) : L.drop (m - (q + 1)) = gt L (m - 1 - q) :: L.drop (m - q) := by
  have h : m - (q + 1) < L.length := by omega
  rw [List.drop_eq_getElem_cons h, show m - (q + 1) + 1 = m - q by omega, gt_of (show m - 1 - q < L.length by omega)]
  have e : m - (q + 1) = m - 1 - q := by omega
  simp only [e]
theorem back_push {L K : List It} {m q : Nat} (hn : Nod L) (hm : L.length = m) (hs : m ≤ 60) (hq : q < m) (p : K.Perm (L.drop (m - q))) : pushE 60 K (gt L (m - 1 - q)) = 0 ∧ (pushR 60 K (gt L (m - 1 - q))).Perm (L.drop (m - (q + 1))) := by
  have e := back_step hm hq
  generalize gt L (m - 1 - q) = x at *
  have nd : Nod (x :: L.drop (m - q)) := by
    rw [← e]
    exact List.Nodup.sublist ((List.drop_sublist _ _).map _) hn
  have pl : place K x.id = none := place_not fun k hk he => by
    have h1 := p.mem_iff.1 (gt_mem hk)
    have h2 := (List.nodup_cons.1 nd).1
    exact h2 (by rw [← he]; exact List.mem_map_of_mem h1)
  have kl : K.length = q := by rw [p.length_eq, List.length_drop]; omega
  have ns : ¬ (60 : Int) ≤ (K.length : Nat) := by omega
  unfold pushE pushR
  rw [pl, if_neg (by simp), if_neg ns, if_neg (by simp), if_neg ns, e]
  exact ⟨rfl, (push_perm K x).trans (p.cons x)⟩
theorem both_pop {A B : List It} (ha : Heap A) (hb : Heap B) (p : A.Perm B) (h0 : 0 < A.length) : popX A = popX B ∧ popE A = 0 ∧ popE B = 0 ∧ Heap (popR A) ∧ Heap (popR B) ∧ (popR A).Perm (popR B) ∧ (popR A).length = A.length - 1 := by
  have hl := p.length_eq
  unfold popX popE popR
  rw [if_neg (by omega), if_neg (by omega), if_neg (by omega), if_neg (by omega), if_neg (by omega), if_neg (by omega)]
  exact ⟨same_first ha hb p h0, rfl, rfl, rem_heap 0 ha, rem_heap 0 hb, same_rest ha hb p h0, rem_len h0⟩
end Go.Proofs.Ytlfbenlojiiknaa
