/- HeapPlays: the program's heap and the document's, asked for the same. -/
import Derived.Test.YtlfbenlojiiknaaHeapPlaysM
import Derived.Test.YtlfbenlojiiknaaHeapG
namespace Go.Proofs.Ytlfbenlojiiknaa
open Go.ChangeShapes Go.WideShapes Go.ChangeAt Go.RowKit HeapM

/-- Both heaps hold l1 and l2; T: a third thing beside them. -/
abbrev Pl (C : HCode) (w : World) (B0 : Nat) (v wr : World) (N M sz : Nat) (l1 l2 : List It) (T : Th) : Prop := Side w B0 v wr (hTh C N sz l1) (rTh M (sz : Nat) l2) T
section
variable {C : HCode} {w : World} {B0 : Nat} {v wr : World} {N M sz : Nat} {l l1 l2 : List It} {T : Th}
theorem Pl.fit (h : Pl C w B0 v wr N M sz l1 l2 T) : l1.length ≤ sz ∧ sz ≤ 1048576 := by
  obtain ⟨F, G, H, f, -⟩ := h.out
  exact C.fit f
theorem Pl.oks (h : Pl C w B0 v wr N M sz l1 l2 T) : ∀ x ∈ l1, ItOk x := by
  obtain ⟨F, G, H, f, -⟩ := h.out
  exact C.oks f
theorem Pl.ref (h : Pl C w B0 v wr N M sz l1 l2 T) : ∃ p c, RHp wr M p c (sz : Nat) l2 := by
  obtain ⟨F, G, H, -, ⟨p, c, r, -⟩, -⟩ := h.out
  exact ⟨p, c, r⟩
theorem Pl.push (h : Pl C w B0 v wr N M sz l1 l2 T) (x : It) (hx : ItOk x) : Calls Try.prog 12 #[.pointer (some ⟨N, 0, none⟩), itV x] wr fun e w' => e = .returned (.int .i64 (pushE (sz : Nat) l1 x)) ∧ Pl C w B0 v w' N M sz (pushR (sz : Nat) l1 x) l2 T := Side.call (T' := hTh C N sz _) h fun _ q => C.push x q hx
theorem Pl.set (h : Pl C w B0 v wr N M sz l1 l2 T) (x : It) (hx : ItOk x) : Calls Try.prog 15 #[.pointer (some ⟨N, 0, none⟩), itV x] wr fun e w' => e = .returned (.int .i64 (setE l1 x)) ∧ Pl C w B0 v w' N M sz (setR l1 x) l2 T := Side.call (T' := hTh C N sz _) h fun _ q => C.set x q hx
theorem Pl.remove (h : Pl C w B0 v wr N M sz l1 l2 T) (d : Nat) (hd : d < 18446744073709551616) : Calls Try.prog 17 #[.pointer (some ⟨N, 0, none⟩), .int .u64 (d : Nat)] wr fun e w' => e = .returned (.tuple #[itV (remX l1 d), .int .i64 (remE l1 d)]) ∧ Pl C w B0 v w' N M sz (remR l1 d) l2 T := Side.call (T' := hTh C N sz _) h fun _ q => C.remove d q hd
theorem Pl.pop (h : Pl C w B0 v wr N M sz l1 l2 T) : Calls Try.prog 19 #[.pointer (some ⟨N, 0, none⟩)] wr fun e w' => e = .returned (.tuple #[itV (popX l1), .int .i64 (popE l1)]) ∧ Pl C w B0 v w' N M sz (popR l1) l2 T := Side.call (T' := hTh C N sz _) h fun _ q => C.pop q
theorem Pl.rpush (h : Pl C w B0 v wr N M sz l1 l2 T) (x : It) : Calls Try.prog 14 #[.pointer (some ⟨M, 0, none⟩), itV x] wr fun e w' => e = .returned (.int .i64 (pushE (sz : Nat) l2 x)) ∧ Pl C w B0 v w' N M sz l1 (pushR (sz : Nat) l2 x) T :=
  (Side.call (T' := rTh M (sz : Nat) _) h.turn fun _ ⟨p, c, r, f⟩ => (rpush13_any wr M p c _ l2 x r (by have := h.fit.2; omega)).mono fun _ _ ⟨a, k⟩ => ⟨a, rTh_of f k⟩).mono fun _ _ ⟨a, k⟩ => ⟨a, k.turn.turn⟩
theorem Pl.rset (h : Pl C w B0 v wr N M sz l1 l2 T) (x : It) : Calls Try.prog 16 #[.pointer (some ⟨M, 0, none⟩), itV x] wr fun e w' => e = .returned (.int .i64 (setE l2 x)) ∧ Pl C w B0 v w' N M sz l1 (setR l2 x) T :=
  (Side.call (T' := rTh M (sz : Nat) _) h.turn fun _ ⟨p, c, r, f⟩ => (rset13_any wr M p c _ l2 x r).mono fun _ _ ⟨a, k⟩ => ⟨a, rTh_of f k⟩).mono fun _ _ ⟨a, k⟩ => ⟨a, k.turn.turn⟩
theorem Pl.rremove (h : Pl C w B0 v wr N M sz l1 l2 T) (d : Nat) : Calls Try.prog 18 #[.pointer (some ⟨M, 0, none⟩), .int .u64 (d : Nat)] wr fun e w' => e = .returned (.tuple #[itV (remX l2 d), .int .i64 (remE l2 d)]) ∧ Pl C w B0 v w' N M sz l1 (remR l2 d) T :=
  (Side.call (T' := rTh M (sz : Nat) _) h.turn fun _ ⟨p, c, r, f⟩ => (rremove13_any wr M p c _ l2 d r).mono fun _ _ ⟨a, k⟩ => ⟨a, rTh_of f k⟩).mono fun _ _ ⟨a, k⟩ => ⟨a, k.turn.turn⟩
theorem Pl.rpop (h : Pl C w B0 v wr N M sz l1 l2 T) : Calls Try.prog 20 #[.pointer (some ⟨M, 0, none⟩)] wr fun e w' => e = .returned (.tuple #[itV (popX l2), .int .i64 (popE l2)]) ∧ Pl C w B0 v w' N M sz l1 (popR l2) T :=
  (Side.call (T' := rTh M (sz : Nat) _) h.turn fun _ ⟨p, c, r, f⟩ => (rpop13_any wr M p c _ l2 r).mono fun _ _ ⟨a, k⟩ => ⟨a, rTh_of f k⟩).mono fun _ _ ⟨a, k⟩ => ⟨a, k.turn.turn⟩
theorem Pl.find (h : Pl C w B0 v wr N M sz l1 l2 T) (d : Nat) (hd : d < 18446744073709551616) : Calls Try.prog 22 #[.pointer (some ⟨N, 0, none⟩), .int .u64 (d : Nat)] wr fun e w' => e = .returned (.tuple #[itV (remX l1 d), .int .i64 (findK l1 d), .bool (place l1 d).isSome]) ∧ Pl C w B0 v w' N M sz l1 l2 T := by
  obtain ⟨F, G, H, f, -⟩ := h.out
  exact (C.find d f hd).mono fun _ _ ⟨a, b⟩ => ⟨a, h.below b⟩
theorem Pl.min (h : Pl C w B0 v wr N M sz l1 l2 T) : Calls Try.prog 24 #[.pointer (some ⟨N, 0, none⟩)] wr fun e w' => e = .returned (.tuple #[itV (popX l1), .bool (decide (0 < l1.length))]) ∧ Pl C w B0 v w' N M sz l1 l2 T := by
  obtain ⟨F, G, H, f, -⟩ := h.out
  exact (C.min f).mono fun _ _ ⟨a, b⟩ => ⟨a, h.below b⟩
theorem Pl.len (h : Pl C w B0 v wr N M sz l1 l2 T) : Calls Try.prog 13 #[.pointer (some ⟨N, 0, none⟩)] wr fun e w' => e = .returned (.int .i64 (l1.length : Nat)) ∧ Pl C w B0 v w' N M sz l1 l2 T := by
  obtain ⟨F, G, H, f, -⟩ := h.out
  exact (C.len f).mono fun _ _ ⟨a, b⟩ => ⟨a, h.below b⟩
theorem Pl.row (h : Pl C w B0 v wr N M sz l1 l2 T) : Calls Try.prog 26 #[.pointer (some ⟨N, 0, none⟩)] wr fun e w' => ∃ p c, e = .returned (.slice p l1.length c) ∧ HoldsI w' p l1.length c l1 ∧ Pl C w B0 v w' N M sz l1 l2 T := by
  obtain ⟨F, G, H, f, -⟩ := h.out
  exact (C.row f).mono fun _ _ ⟨p, c, a, r, _, b⟩ => ⟨p, c, a, r, h.below b⟩
theorem Pl.place (h : Pl C w B0 v wr N M sz l1 l2 T) (d : Nat) : Calls Try.prog 23 #[.pointer (some ⟨M, 0, none⟩), .int .u64 (d : Nat)] wr fun e w' => e = .returned (.int .i64 (placeI l2 d)) ∧ Pl C w B0 v w' N M sz l1 l2 T := by
  obtain ⟨p, c, r⟩ := h.ref
  exact (rplace13_any wr M p c _ l2 d r).mono fun _ _ ⟨a, b⟩ => ⟨a, by rw [← b]; exact h⟩
/-- A copy: from now on it is the heap, and the one that it was taken of stands beside it. -/
theorem Pl.copy (h : Pl C w B0 v wr N M sz l1 l2 noTh) : Calls Try.prog 21 #[.pointer (some ⟨N, 0, none⟩)] wr fun e w' => ∃ N', e = .returned (.pointer (some ⟨N', 0, none⟩)) ∧ Side w B0 v w' (hTh C N sz l1) (rTh M (sz : Nat) l2) (hTh C N' sz l1) := by
  obtain ⟨F, G, H, f, -⟩ := h.out
  exact (C.copy f).mono fun _ _ ⟨N', F', a, q, n, b⟩ => ⟨N', a, h.add (T' := hTh C N' sz l1) b q n⟩
/-- What was done to the other one is forgotten. -/
theorem Pl.other {N' : Nat} {l3 : List It} (h : Side w B0 v wr (hTh C N sz l3) (rTh M (sz : Nat) l2) (hTh C N' sz l1)) : Pl C w B0 v wr N' M sz l1 l2 noTh := by
  obtain ⟨F, G, H, f, g, q, u, n⟩ := h.out
  refine ⟨⟨H, G, fun _ => False, q, g, fun _ z => z, fun K z => u K ?_, fun K => ⟨fun a b => (n K).2.2 b a, fun _ z => z, fun _ z => z⟩⟩, h.keep, h.low, h.size⟩
  rcases z with z | z | z
  · exact .inr (.inr z)
  · exact .inr (.inl z)
  · exact z.elim
/-- Both of them new. -/
theorem pl_new {w6 w7 : World} (h : HAt C w w6 N sz []) (b : Below w6.heap.size w6 w7) (r : RHp w7 M none 0 (sz : Nat) []) (n : w6.heap.size ≤ M) : Pl C w w7.heap.size w7 w7 N M sz [] [] noTh := by
  obtain ⟨F, f, u⟩ := h.out
  have f7 := C.below f b
  refine ⟨⟨F, rF M none, fun _ => False, f7, ⟨none, 0, r, fun _ => Iff.rfl⟩, fun _ z => z, fun K z => ?_, fun K => ⟨fun a z => ?_, fun _ z => z, fun _ z => z⟩⟩, fun _ _ _ => rfl, h.low.trans (b.mono h.low.size), Nat.le_refl _⟩
  · rcases z with z | z | z
    · exact ⟨u K z, .inl (C.lt f7 K z)⟩
    · rcases z with rfl | ⟨a, e, -⟩
      · exact ⟨Nat.le_trans h.low.size n, .inl (Array.getElem?_eq_some_iff.1 r.b).1⟩
      · cases e
    · exact z.elim
  · rcases z with rfl | ⟨x, e, -⟩
    · have := C.lt f K a; omega
    · cases e
end
end Go.Proofs.Ytlfbenlojiiknaa
