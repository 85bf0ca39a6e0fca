/- Layer 16 (leap), work ahead: LeapTells' state: the program's table and the document's, apart; the list that is told, while it is written. -/
import Derived.Test.YtpfbdpoileepoaaLpI
import Derived.Test.YtpfbdpoileepoaaLpH
set_option maxRecDepth 100000
namespace Go.Proofs.Ytpfbdpoileepoaa
open Go.ChangeShapes Go.WideShapes Go.ChangeAt Go.RowKit SmM

theorem HoldsL.same {w w' : World} {p : Option Addr} {n c : Nat} {l : List Lp} (h : HoldsL w p n c l) (k : ∀ a, p = some a → 0 < n → a.block < w.heap.size → w'.heap[a.block]? = w.heap[a.block]?) : HoldsL w' p n c l :=
  ⟨h.len, h.cap, h.max, fun i hi => by
    obtain ⟨a, ha, c1, c2⟩ := h.cell i hi
    have ab : (a.add (i * 2)).block = a.block := add_block a _
    have l1 := World.block_lt_of_cell? w _ c1
    have k := k a ha (by omega) (by rw [ab] at l1; exact l1)
    refine ⟨a, ha, ?_, ?_⟩
    · rw [← c1]
      unfold World.cell?
      rw [ab, k]
    · rw [← c2]
      unfold World.cell?
      dsimp only
      rw [ab, k]⟩
theorem RfQ.same {w w' : World} {N : Nat} {p : Option Addr} {n c : Nat} {l : List Lp} {e b : Int} (h : RfQ w N p n c l e b) (kN : N < w.heap.size → w'.heap[N]? = w.heap[N]?) (k : ∀ a, p = some a → 0 < n → a.block < w.heap.size → w'.heap[a.block]? = w.heap[a.block]?) : RfQ w' N p n c l e b :=
  ⟨⟨(kN (Array.getElem?_eq_some_iff.1 h.rf.bk).1).trans h.rf.bk, h.rf.row.same k, h.rf.ok, h.rf.few, h.rf.bb⟩, h.bare, h.away⟩
/-- Both tables, apart from one another and from what is below B. -/
def TlS (C : LCode) (B : Nat) (w : World) (N M : Nat) (l : List Lp) (e b : Int) : Prop := ∃ F p c, C.Tb w F N l e b ∧ RfQ w M p l.length c l e b ∧ (∀ K, F K → B ≤ K) ∧ B ≤ M ∧ (∀ a, p = some a → B ≤ a.block) ∧ ¬ F M ∧ ∀ a, p = some a → 0 < l.length → ¬ F a.block
theorem TlS.far {C : LCode} {B : Nat} {w w' : World} {N M : Nat} {l : List Lp} {e b : Int} (h : TlS C B w N M l e b) (k : ∀ K, B ≤ K → K < w.heap.size → w'.heap[K]? = w.heap[K]?) : TlS C B w' N M l e b := by
  obtain ⟨F, p, c, t, q, f1, m1, a1, f2, a2⟩ := h
  exact ⟨F, p, c, C.keep t fun K hK => k K (f1 K hK) (C.lt t K hK), q.same (k M m1) (fun a ha _ => k _ (a1 a ha)), f1, m1, a1, f2, a2⟩
theorem TlS.below {C : LCode} {B : Nat} {w w' : World} {N M : Nat} {l : List Lp} {e b : Int} (h : TlS C B w N M l e b) (k : Below w.heap.size w w') : TlS C B w' N M l e b := h.far fun K _ hK => k.block K hK
theorem TlS.base {C : LCode} {B B' : Nat} {w : World} {N M : Nat} {l : List Lp} {e b : Int} (h : TlS C B w N M l e b) (k : B' ≤ B) : TlS C B' w N M l e b := by
  obtain ⟨F, p, c, t, q, f1, m1, a1, f2, a2⟩ := h
  exact ⟨F, p, c, t, q, fun K hK => Nat.le_trans k (f1 K hK), Nat.le_trans k m1, fun a ha => Nat.le_trans k (a1 a ha), f2, a2⟩
theorem TlS.new {C : LCode} {B : Nat} {w w' : World} {F : Nat → Prop} {N M : Nat} {p : Option Addr} {c : Nat} {l : List Lp} {e b : Int} (hB : B ≤ w.heap.size) (t : C.Tb w F N l e b) (f : ∀ K, F K → B ≤ K) (k : Below w.heap.size w w')
    (q : RfP w' M p l.length c l e b) (hM : w.heap.size ≤ M) (bare : p = none → c = 0) (aw : ∀ a, p = some a → w.heap.size ≤ a.block ∧ a.block ≠ M) : TlS C B w' N M l e b := by
  have lt := C.lt t
  exact ⟨F, p, c, C.below t k, ⟨q, bare, fun a ha => (aw a ha).2⟩, f, Nat.le_trans hB hM, fun a ha => Nat.le_trans hB (aw a ha).1, fun h => by have := lt M h; omega, fun a ha _ h => by have := lt _ h; have := (aw a ha).1; omega⟩
theorem TlS.few {C : LCode} {B : Nat} {w : World} {N M : Nat} {l : List Lp} {e b : Int} (h : TlS C B w N M l e b) : l.length ≤ 32 := by
  obtain ⟨F, p, c, t, q, -⟩ := h
  exact q.rf.few
theorem TlS.sames {C : LCode} {B : Nat} {w : World} {N M : Nat} {l : List Lp} {e b : Int} (h : TlS C B w N M l e b) (x y : Int) :
    Calls Try.prog 13 #[.pointer (some ⟨N, 0, none⟩), .pointer (some ⟨M, 0, none⟩), .int .i64 x, .int .i64 y] w fun r w' => r = .returned (.bool true) ∧ Below w.heap.size w w' := by
  obtain ⟨F, p, c, t, q, -⟩ := h
  exact same16 C t q.rf x y
theorem TlS.list {C : LCode} {B : Nat} {w : World} {N M : Nat} {l : List Lp} {e b : Int} (h : TlS C B w N M l e b) : Calls Try.prog 14 #[.pointer (some ⟨N, 0, none⟩)] w fun r w' => ∃ q d, r = .returned (.slice q l.length d) ∧ OwnL w' w.heap.size q l.length d l ∧ Below w.heap.size w w' := by
  obtain ⟨F, p, c, t, q, -⟩ := h
  exact C.list t
/-- The document's table is read. -/
theorem TlS.row {C : LCode} {B : Nat} {w : World} {N M : Nat} {l : List Lp} {e b : Int} (h : TlS C B w N M l e b) : ∃ p c, w.cell? ⟨M, 0, none⟩ = some (.slice p l.length c) ∧ HoldsL w p l.length c l := by
  obtain ⟨F, p, c, t, q, -⟩ := h
  have x0 := blk_cell (o := 0) q.rf.bk
  simp only [List.getElem?_toArray, List.getElem?_cons_zero] at x0
  exact ⟨p, c, x0, q.rf.row⟩
/-- A copy, to which a leap is added: nothing that was there turns. -/
theorem TlS.copy {C : LCode} {B : Nat} {w : World} {N M : Nat} {l : List Lp} {e b : Int} (h : TlS C B w N M l e b) (y : Lp) (iy : I64 y.t ∧ I64 y.k) (e' : Int) (ie : I64 e') :
    Calls Try.prog 15 #[.pointer (some ⟨N, 0, none⟩)] w fun r w1 => ∃ N', r = .returned (.pointer (some ⟨N', 0, none⟩)) ∧ Below w.heap.size w w1 ∧ ∀ w2, Below w1.heap.size w1 w2 →
      Calls Try.prog 16 #[.pointer (some ⟨N', 0, none⟩), .agg #[.int .i64 y.t, .int .i64 y.k], .int .i64 e'] w2 fun r' w3 => (∃ x, r' = .returned (.int .i64 x)) ∧ Below w.heap.size w w3 := by
  obtain ⟨F, p, c, t, q, -⟩ := h
  refine (C.copy t).mono fun r w1 ⟨N', F', e1, t1, f1, b1⟩ => ⟨N', e1, b1, fun w2 k2 => ?_⟩
  refine (C.add y e' (C.below t1 k2) iy.1 iy.2 ie).mono fun r' w3 ⟨x, F3, e3, _, _, _, _, low⟩ => ⟨⟨x, e3⟩, ?_⟩
  have b2 := b1.trans (k2.mono b1.size)
  exact b2.trans (low _ f1 b2.size)
/-- A leap is added to both. -/
theorem TlS.add {C : LCode} {B : Nat} {w : World} {N M : Nat} {l : List Lp} {e b : Int} (h : TlS C B w N M l e b) (hB : B ≤ w.heap.size) (y : Lp) (iy : I64 y.t ∧ I64 y.k) (e' : Int) (ie : I64 e') :
    Calls Try.prog 16 #[.pointer (some ⟨N, 0, none⟩), .agg #[.int .i64 y.t, .int .i64 y.k], .int .i64 e'] w fun r w1 => ∃ x, r = .returned (.int .i64 x) ∧ Below B w w1 ∧ ∀ w2, Below w1.heap.size w1 w2 →
      Calls Try.prog 17 #[.pointer (some ⟨M, 0, none⟩), .agg #[.int .i64 y.t, .int .i64 y.k], .int .i64 e'] w2 fun r' w3 => r' = .returned (.int .i64 x) ∧ Below B w2 w3 ∧ ∃ l' e2, TlS C B w3 N M l' e2 b := by
  obtain ⟨F, p, c, t, q, f1, m1, a1, f2, a2⟩ := h
  have mlt : M < w.heap.size := (Array.getElem?_eq_some_iff.1 q.rf.bk).1
  refine (C.add y e' t iy.1 iy.2 ie).mono fun r w1 ⟨x, F3, e3, ad, t3, f3, fr, low⟩ => ⟨x, e3, low B (f1 N (C.self t)) hB, fun w2 k2 => ?_⟩
  have b1 := low B (f1 N (C.self t)) hB
  have sz : w.heap.size ≤ w1.heap.size := (low 0 (Nat.zero_le _) (Nat.zero_le _)).size
  have q1 : RfQ w1 M p l.length c l e b := q.same (fun hl => fr M f2 hl) (fun a ha hn hl => fr _ (a2 a ha hn) hl)
  have q2 := q1.below k2
  have t2 := C.below t3 k2
  have mlt2 : M < w2.heap.size := Nat.lt_of_lt_of_le mlt (Nat.le_trans sz k2.size)
  have hB2 : B ≤ w2.heap.size := Nat.le_trans hB (Nat.le_trans sz k2.size)
  have F3M : ¬ F3 M := fun hM => by
    rcases f3 M hM with g | g
    · exact f2 g
    · omega
  refine (radd16 q2 y iy e').mono fun r' w3 ⟨tn, x', p', c', e4, ad', al, q3⟩ => ?_
  obtain rfl := addT_one ad ad'
  refine ⟨e4, tn.low B m1 hB2, _, _, F3, p', c', C.keep t2 fun K hK => tn.keep K (fun e => F3M (e ▸ hK)) (C.lt t2 K hK), q3, fun K hK => ?_, m1, fun a ha => ?_, F3M, fun a ha hn hF => ?_⟩
  · rcases f3 K hK with g | g
    · exact f1 K g
    · omega
  · rcases al a ha with ⟨-, g⟩ | g
    · exact a1 a g
    · omega
  · rcases al a ha with ⟨x0, g⟩ | g
    · rw [if_neg x0] at hn
      obtain ⟨a', ha', c1, -⟩ := q.rf.row.cell 0 hn
      have l1 := World.block_lt_of_cell? w _ c1
      rw [add_block] at l1
      rw [g] at ha'
      injection ha' with ha'
      subst ha'
      rcases f3 _ hF with z | z
      · exact a2 a g hn z
      · omega
    · have := C.lt t2 _ hF
      omega
end Go.Proofs.Ytpfbdpoileepoaa
