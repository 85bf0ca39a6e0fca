/- Layer 13 (heap): WHAT IS ASKED OF THE PROGRAM'S HEAP, call by call: 'Hq w F N sz l': in the block N lies a heap of that size, with this row; F: the blocks that are its own. The laws' walks stand on this alone. -/
import Derived.Test.YtlfbenlojiiknaaHeapG
set_option maxRecDepth 100000
namespace Go.Proofs.Ytlfbenlojiiknaa
open Go.ChangeShapes Go.WideShapes Go.ChangeAt Go.RowKit HeapM

/-- Of all that was there, these blocks alone have turned. -/
structure FT (F : Nat → Prop) (w w' : World) : Prop where
  keep : ∀ K, ¬ F K → K < w.heap.size → w'.heap[K]? = w.heap[K]?
  low : ∀ B, (∀ M, F M → B ≤ M) → B ≤ w.heap.size → Below B w w'
  size : w.heap.size ≤ w'.heap.size
theorem FT.of_below {F : Nat → Prop} {w w' : World} (h : Below w.heap.size w w') : FT F w w' := ⟨fun _ _ hK => h.block _ hK, fun _ _ hB => h.mono hB, h.size⟩
theorem FT.trans {F G : Nat → Prop} {w w1 w2 : World} (h : FT F w w1) (k : FT G w1 w2) (hg : ∀ M, G M → F M ∨ w.heap.size ≤ M) : FT F w w2 := by
  refine ⟨fun K h1 h2 => ?_, fun B h1 h2 => ?_, Nat.le_trans h.size k.size⟩
  · refine (k.keep K (fun g => ?_) (Nat.lt_of_lt_of_le h2 h.size)).trans (h.keep K h1 h2)
    rcases hg K g with e | e
    · exact h1 e
    · omega
  · refine (h.low B h1 h2).trans (k.low B (fun M g => ?_) (Nat.le_trans h2 h.size))
    rcases hg M g with e | e
    · exact h1 M e
    · omega
/-- A place as Find tells it. -/
def findK (l : List It) (d : Nat) : Int := match place l d with | some k => (k : Int) | none => 0

structure HCode where
  Hq : World → (Nat → Prop) → Nat → Nat → List It → Prop
  keep : ∀ {w w' F N sz l}, Hq w F N sz l → (∀ M, F M → w'.heap[M]? = w.heap[M]?) → Hq w' F N sz l
  lt : ∀ {w F N sz l}, Hq w F N sz l → ∀ M, F M → M < w.heap.size
  fit : ∀ {w F N sz l}, Hq w F N sz l → l.length ≤ sz ∧ sz ≤ 1048576
  oks : ∀ {w F N sz l}, Hq w F N sz l → ∀ x ∈ l, ItOk x
  nod : ∀ {w F N sz l}, Hq w F N sz l → Nod l
  new_ok : ∀ w (sz : Nat), 1 ≤ sz → sz ≤ 1048576 → Calls Try.prog 9 #[.int .i64 (sz : Nat)] w fun e w' => ∃ N F, e = .returned (.tuple #[.pointer (some ⟨N, 0, none⟩), .int .i64 0]) ∧ Hq w' F N sz [] ∧ (∀ M, F M → w.heap.size ≤ M) ∧ Below w.heap.size w w'
  new_no : ∀ w (s : Int), I64 s → ¬ (1 ≤ s ∧ s ≤ 1048576) → Calls Try.prog 9 #[.int .i64 s] w fun e w' => e = .returned (.tuple #[.pointer none, .int .i64 1]) ∧ Below w.heap.size w w'
  ahead : ∀ w a b, Calls Try.prog 27 #[itV a, itV b] w fun e w' => e = .returned (.bool (ahd a b)) ∧ Below w.heap.size w w'
  push : ∀ {w F N sz l} x, Hq w F N sz l → ItOk x → Calls Try.prog 12 #[.pointer (some ⟨N, 0, none⟩), itV x] w fun e w' => e = .returned (.int .i64 (pushE (sz : Nat) l x)) ∧ ∃ F', Hq w' F' N sz (pushR (sz : Nat) l x) ∧ FT F w w' ∧ ∀ M, F' M → F M ∨ w.heap.size ≤ M
  set : ∀ {w F N sz l} x, Hq w F N sz l → ItOk x → Calls Try.prog 15 #[.pointer (some ⟨N, 0, none⟩), itV x] w fun e w' => e = .returned (.int .i64 (setE l x)) ∧ ∃ F', Hq w' F' N sz (setR l x) ∧ FT F w w' ∧ ∀ M, F' M → F M ∨ w.heap.size ≤ M
  remove : ∀ {w F N sz l} (d : Nat), Hq w F N sz l → d < 18446744073709551616 → Calls Try.prog 17 #[.pointer (some ⟨N, 0, none⟩), .int .u64 (d : Nat)] w fun e w' => e = .returned (.tuple #[itV (remX l d), .int .i64 (remE l d)]) ∧ ∃ F', Hq w' F' N sz (remR l d) ∧ FT F w w' ∧ ∀ M, F' M → F M ∨ w.heap.size ≤ M
  pop : ∀ {w F N sz l}, Hq w F N sz l → Calls Try.prog 19 #[.pointer (some ⟨N, 0, none⟩)] w fun e w' => e = .returned (.tuple #[itV (popX l), .int .i64 (popE l)]) ∧ ∃ F', Hq w' F' N sz (popR l) ∧ FT F w w' ∧ ∀ M, F' M → F M ∨ w.heap.size ≤ M
  min : ∀ {w F N sz l}, Hq w F N sz l → Calls Try.prog 24 #[.pointer (some ⟨N, 0, none⟩)] w fun e w' => e = .returned (.tuple #[itV (popX l), .bool (decide (0 < l.length))]) ∧ Below w.heap.size w w'
  find : ∀ {w F N sz l} (d : Nat), Hq w F N sz l → d < 18446744073709551616 → Calls Try.prog 22 #[.pointer (some ⟨N, 0, none⟩), .int .u64 (d : Nat)] w fun e w' => e = .returned (.tuple #[itV (remX l d), .int .i64 (findK l d), .bool (place l d).isSome]) ∧ Below w.heap.size w w'
  row : ∀ {w F N sz l}, Hq w F N sz l → Calls Try.prog 26 #[.pointer (some ⟨N, 0, none⟩)] w fun e w' => ∃ p c, e = .returned (.slice p l.length c) ∧ HoldsI w' p l.length c l ∧ (∀ a, p = some a → w.heap.size ≤ a.block) ∧ Below w.heap.size w w'
  len : ∀ {w F N sz l}, Hq w F N sz l → Calls Try.prog 13 #[.pointer (some ⟨N, 0, none⟩)] w fun e w' => e = .returned (.int .i64 (l.length : Nat)) ∧ Below w.heap.size w w'
  copy : ∀ {w F N sz l}, Hq w F N sz l → Calls Try.prog 21 #[.pointer (some ⟨N, 0, none⟩)] w fun e w' => ∃ N' F', e = .returned (.pointer (some ⟨N', 0, none⟩)) ∧ Hq w' F' N' sz l ∧ (∀ M, F' M → w.heap.size ≤ M) ∧ Below w.heap.size w w'
  push_none : ∀ w x, Calls Try.prog 12 #[.pointer none, itV x] w fun e w' => e = .returned (.int .i64 2) ∧ Below w.heap.size w w'
  set_none : ∀ w x, Calls Try.prog 15 #[.pointer none, itV x] w fun e w' => e = .returned (.int .i64 2) ∧ Below w.heap.size w w'
  remove_none : ∀ w (d : Nat), Calls Try.prog 17 #[.pointer none, .int .u64 (d : Nat)] w fun e w' => e = .returned (.tuple #[itV zeroI, .int .i64 2]) ∧ Below w.heap.size w w'
  pop_none : ∀ w, Calls Try.prog 19 #[.pointer none] w fun e w' => e = .returned (.tuple #[itV zeroI, .int .i64 2]) ∧ Below w.heap.size w w'
  min_none : ∀ w, Calls Try.prog 24 #[.pointer none] w fun e w' => e = .returned (.tuple #[itV zeroI, .bool false]) ∧ Below w.heap.size w w'
  find_none : ∀ w (d : Nat), Calls Try.prog 22 #[.pointer none, .int .u64 (d : Nat)] w fun e w' => e = .returned (.tuple #[itV zeroI, .int .i64 0, .bool false]) ∧ Below w.heap.size w w'
  row_none : ∀ w, Calls Try.prog 26 #[.pointer none] w fun e w' => ∃ p c, e = .returned (.slice p 0 c) ∧ HoldsI w' p 0 c [] ∧ Below w.heap.size w w'
  len_none : ∀ w, Calls Try.prog 13 #[.pointer none] w fun e w' => e = .returned (.int .i64 0) ∧ Below w.heap.size w w'
  copy_none : ∀ w, Calls Try.prog 21 #[.pointer none] w fun e w' => e = .returned (.pointer none) ∧ Below w.heap.size w w'

theorem HCode.below (C : HCode) {w w' : World} {F : Nat → Prop} {N sz : Nat} {l : List It} (h : C.Hq w F N sz l) (b : Below w.heap.size w w') : C.Hq w' F N sz l := C.keep h fun M hM => b.block M (C.lt h M hM)

/-- A heap of one's own in a world, all of it new. -/
structure HAt (C : HCode) (w wr : World) (N sz : Nat) (l : List It) : Prop where
  out : ∃ F, C.Hq wr F N sz l ∧ ∀ M, F M → w.heap.size ≤ M
  low : Below w.heap.size w wr
theorem HAt.below {C : HCode} {w wr w' : World} {N sz : Nat} {l : List It} (h : HAt C w wr N sz l) (b : Below wr.heap.size wr w') : HAt C w w' N sz l := by
  obtain ⟨F, h1, h2⟩ := h.out
  exact ⟨⟨F, C.below h1 b, h2⟩, h.low.trans (b.mono h.low.size)⟩
theorem HAt.next {C : HCode} {w wr w' : World} {N sz : Nat} {m : List It} {F F' : Nat → Prop} (lw : Below w.heap.size w wr) (h2 : ∀ M, F M → w.heap.size ≤ M) (h : C.Hq w' F' N sz m) (t : FT F wr w') (hn : ∀ M, F' M → F M ∨ wr.heap.size ≤ M) : HAt C w w' N sz m :=
  ⟨⟨F', h, fun M hM => by
    rcases hn M hM with e | e
    · exact h2 M e
    · exact Nat.le_trans lw.size e⟩, lw.trans (t.low _ h2 lw.size)⟩
section
variable {C : HCode} {w wr : World} {N sz : Nat} {l : List It}
theorem HAt.push (h : HAt C w wr N sz l) (x : It) (hx : ItOk x) : Calls Try.prog 12 #[.pointer (some ⟨N, 0, none⟩), itV x] wr fun e w' => e = .returned (.int .i64 (pushE (sz : Nat) l x)) ∧ HAt C w w' N sz (pushR (sz : Nat) l x) := by
  obtain ⟨F, h1, h2⟩ := h.out
  exact (C.push x h1 hx).mono fun e w' ⟨a, F', b, t, n⟩ => ⟨a, HAt.next h.low h2 b t n⟩
theorem HAt.set (h : HAt C w wr N sz l) (x : It) (hx : ItOk x) : Calls Try.prog 15 #[.pointer (some ⟨N, 0, none⟩), itV x] wr fun e w' => e = .returned (.int .i64 (setE l x)) ∧ HAt C w w' N sz (setR l x) := by
  obtain ⟨F, h1, h2⟩ := h.out
  exact (C.set x h1 hx).mono fun e w' ⟨a, F', b, t, n⟩ => ⟨a, HAt.next h.low h2 b t n⟩
theorem HAt.remove (h : HAt C w wr N sz l) (d : Nat) (hd : d < 18446744073709551616) : Calls Try.prog 17 #[.pointer (some ⟨N, 0, none⟩), .int .u64 (d : Nat)] wr fun e w' => e = .returned (.tuple #[itV (remX l d), .int .i64 (remE l d)]) ∧ HAt C w w' N sz (remR l d) := by
  obtain ⟨F, h1, h2⟩ := h.out
  exact (C.remove d h1 hd).mono fun e w' ⟨a, F', b, t, n⟩ => ⟨a, HAt.next h.low h2 b t n⟩
theorem HAt.pop (h : HAt C w wr N sz l) : Calls Try.prog 19 #[.pointer (some ⟨N, 0, none⟩)] wr fun e w' => e = .returned (.tuple #[itV (popX l), .int .i64 (popE l)]) ∧ HAt C w w' N sz (popR l) := by
  obtain ⟨F, h1, h2⟩ := h.out
  exact (C.pop h1).mono fun e w' ⟨a, F', b, t, n⟩ => ⟨a, HAt.next h.low h2 b t n⟩
theorem HAt.min (h : HAt C w wr N sz l) : Calls Try.prog 24 #[.pointer (some ⟨N, 0, none⟩)] wr fun e w' => e = .returned (.tuple #[itV (popX l), .bool (decide (0 < l.length))]) ∧ HAt C w w' N sz l := by
  obtain ⟨F, h1, h2⟩ := h.out
  exact (C.min h1).mono fun e w' ⟨a, b⟩ => ⟨a, h.below b⟩
theorem HAt.find (h : HAt C w wr N sz l) (d : Nat) (hd : d < 18446744073709551616) : Calls Try.prog 22 #[.pointer (some ⟨N, 0, none⟩), .int .u64 (d : Nat)] wr fun e w' => e = .returned (.tuple #[itV (remX l d), .int .i64 (findK l d), .bool (place l d).isSome]) ∧ HAt C w w' N sz l := by
  obtain ⟨F, h1, h2⟩ := h.out
  exact (C.find d h1 hd).mono fun e w' ⟨a, b⟩ => ⟨a, h.below b⟩
theorem HAt.row (h : HAt C w wr N sz l) : Calls Try.prog 26 #[.pointer (some ⟨N, 0, none⟩)] wr fun e w' => ∃ p c, e = .returned (.slice p l.length c) ∧ HoldsI w' p l.length c l ∧ HAt C w w' N sz l := by
  obtain ⟨F, h1, h2⟩ := h.out
  exact (C.row h1).mono fun e w' ⟨p, c, a, r, n, b⟩ => ⟨p, c, a, r, h.below b⟩
theorem HAt.len (h : HAt C w wr N sz l) : Calls Try.prog 13 #[.pointer (some ⟨N, 0, none⟩)] wr fun e w' => e = .returned (.int .i64 (l.length : Nat)) ∧ HAt C w w' N sz l := by
  obtain ⟨F, h1, h2⟩ := h.out
  exact (C.len h1).mono fun e w' ⟨a, b⟩ => ⟨a, h.below b⟩
end
/-- A block that is newer than the heap's last call stays as it is. -/
theorem HAt.remove_keep {C : HCode} {w w0 wr : World} {N sz : Nat} {l : List It} (h : HAt C w w0 N sz l) (b : Below w0.heap.size w0 wr) (d : Nat) (hd : d < 18446744073709551616) : Calls Try.prog 17 #[.pointer (some ⟨N, 0, none⟩), .int .u64 (d : Nat)] wr fun e w' => e = .returned (.tuple #[itV (remX l d), .int .i64 (remE l d)]) ∧ HAt C w w' N sz (remR l d) ∧ ∀ K o, w0.heap.size ≤ K → wr.heap[K]? = some o → w'.heap[K]? = some o := by
  obtain ⟨F, h1, h2⟩ := h.out
  exact (C.remove d (C.below h1 b) hd).mono fun e w' ⟨a, F', k, t, n⟩ => ⟨a, HAt.next (h.low.trans (b.mono h.low.size)) h2 k t n, fun K o hK ho => (t.keep K (fun f => by have := C.lt h1 K f; omega) (Array.getElem?_eq_some_iff.1 ho).1).trans ho⟩
theorem HAt.fit {C : HCode} {w wr : World} {N sz : Nat} {l : List It} (h : HAt C w wr N sz l) : l.length ≤ sz ∧ sz ≤ 1048576 := by
  obtain ⟨F, h1, -⟩ := h.out
  exact C.fit h1
theorem HAt.nod {C : HCode} {w wr : World} {N sz : Nat} {l : List It} (h : HAt C w wr N sz l) : Nod l := by
  obtain ⟨F, h1, -⟩ := h.out
  exact C.nod h1
theorem HAt.oks {C : HCode} {w wr : World} {N sz : Nat} {l : List It} (h : HAt C w wr N sz l) : ∀ x ∈ l, ItOk x := by
  obtain ⟨F, h1, -⟩ := h.out
  exact C.oks h1
theorem HCode.new (C : HCode) (w wr : World) (lw : Below w.heap.size w wr) (sz : Nat) (h1 : 1 ≤ sz) (h2 : sz ≤ 1048576) : Calls Try.prog 9 #[.int .i64 (sz : Nat)] wr fun e w' => ∃ N, e = .returned (.tuple #[.pointer (some ⟨N, 0, none⟩), .int .i64 0]) ∧ HAt C w w' N sz [] :=
  (C.new_ok wr sz h1 h2).mono fun _ _ ⟨N, F, a, b, n, l⟩ => ⟨N, a, ⟨⟨F, b, fun M hM => Nat.le_trans lw.size (n M hM)⟩, lw.trans (l.mono lw.size)⟩⟩

/-! ### Each call keeps what a heap is -/
theorem pushR_heap {sz : Int} {l : List It} (x : It) (h : Heap l) : Heap (pushR sz l x) := by
  unfold pushR
  split
  · exact h
  · split
    · exact h
    · exact push_heap x h
theorem setR_heap {l : List It} (x : It) (h : Heap l) : Heap (setR l x) := by
  unfold setR
  cases e : place l x.id with
  | none => exact h
  | some k => exact set_heap x (place_some e).1 h
theorem remR_heap {l : List It} (d : Nat) (h : Heap l) : Heap (remR l d) := by
  unfold remR
  cases e : place l d with
  | none => exact h
  | some k => exact rem_heap k h
theorem popR_heap {l : List It} (h : Heap l) : Heap (popR l) := by
  unfold popR
  split
  · exact h
  · exact rem_heap 0 h
end Go.Proofs.Ytlfbenlojiiknaa
