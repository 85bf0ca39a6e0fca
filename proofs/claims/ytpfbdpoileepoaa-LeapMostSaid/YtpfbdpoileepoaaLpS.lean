/- Layer 16 (leap), work ahead: WHAT IS ASKED OF THE PROGRAM, call by call: 'Tb w F N l e b': at the block N lies a table of these leaps; F: the blocks that it stands on (copies may share a row: N alone is its own); 'Nt w P': a pointer that is as none. The laws' walks stand on this alone. Votes; leaps told by days. -/
import Derived.Test.YtpfbdpoileepoaaLpC
import Derived.Test.YtpfbdpoileepoaaSmR
set_option maxRecDepth 100000
namespace Go.Proofs.Ytpfbdpoileepoaa
open Go.ChangeShapes Go.WideShapes Go.ChangeAt Go.RowKit SmM

/-- What makes a table. -/
def OkT (l : List Lp) (e b : Int) : Prop := OkL l ∧ l.length ≤ 32 ∧ (0 ≤ e ∧ e ≤ topI) ∧ (-1000 ≤ b ∧ b ≤ 1000)
def NewT (l : List Lp) (e b x : Int) : Prop := (x = 7 ∧ 32 < l.length) ∨ (l.length ≤ 32 ∧ ((x = 1 ∧ ¬ OkT l e b) ∨ (x = 0 ∧ OkT l e b)))
theorem newT_one {l : List Lp} {e b x x' : Int} (h : NewT l e b x) (h' : NewT l e b x') : x = x' := by
  rcases h with ⟨a, c⟩ | ⟨a, ⟨c, d⟩ | ⟨c, d⟩⟩ <;> rcases h' with ⟨a', c'⟩ | ⟨a', ⟨c', d'⟩ | ⟨c', d'⟩⟩ <;> first | omega | exact absurd d d' | exact absurd d' d
/-- What Add tells. -/
def AddT (l : List Lp) (e b : Int) (y : Lp) (e' x : Int) : Prop := ∃ z, NewT (l ++ [y]) e' b z ∧ ((z ≠ 0 ∧ x = z) ∨ (z = 0 ∧ ((e' < e ∧ x = 1) ∨ (e ≤ e' ∧ x = 0))))
theorem addT_one {l : List Lp} {e b e' x x' : Int} {y : Lp} (h : AddT l e b y e' x) (h' : AddT l e b y e' x') : x = x' := by
  obtain ⟨z, n, h⟩ := h
  obtain ⟨z', n', h'⟩ := h'
  obtain rfl := newT_one n n'
  rcases h with ⟨a, rfl⟩ | ⟨a, ⟨c, rfl⟩ | ⟨c, rfl⟩⟩ <;> rcases h' with ⟨a', rfl⟩ | ⟨a', ⟨c', rfl⟩ | ⟨c', rfl⟩⟩ <;> first | rfl | omega
/-- How many votes are surely said, and how many say so. -/
def sureN (l : List Nat) : Nat := l.countP fun d => decide (d < 3)
def saidN (l : List Nat) (b : Nat) : Nat := l.countP fun d => decide (d = b)
/-- What is voted. -/
def voteN (l : List Nat) : Nat × Bool := if sureN l < 2 * saidN l 0 then (0, true) else if sureN l < 2 * saidN l 1 then (1, true) else if sureN l < 2 * saidN l 2 then (2, true) else (0, false)
structure LCode where
  Tb : World → (Nat → Prop) → Nat → List Lp → Int → Int → Prop
  Nt : World → Option Addr → Prop
  keep : ∀ {w w' F N l e b}, Tb w F N l e b → (∀ M, F M → w'.heap[M]? = w.heap[M]?) → Tb w' F N l e b
  lt : ∀ {w F N l e b}, Tb w F N l e b → ∀ M, F M → M < w.heap.size
  ok : ∀ {w F N l e b}, Tb w F N l e b → OkT l e b
  self : ∀ {w F N l e b}, Tb w F N l e b → F N
  nt : ∀ w, Nt w none
  nkeep : ∀ {w w' P}, Nt w P → Below w.heap.size w w' → Nt w' P
  new : ∀ {w p n c l} (e b : Int), HoldsL w p n c l → (∀ y ∈ l, I64 y.t ∧ I64 y.k) → I64 e → I64 b → Calls Try.prog 10 #[.slice p n c, .int .i64 e, .int .i64 b] w fun r w' => Below w.heap.size w w' ∧
    ((OkT l e b ∧ ∃ N F, r = .returned (.tuple #[.pointer (some ⟨N, 0, none⟩), .int .i64 0]) ∧ Tb w' F N l e b ∧ ∀ M, F M → w.heap.size ≤ M) ∨ (∃ x, NewT l e b x ∧ x ≠ 0 ∧ r = .returned (.tuple #[.pointer none, .int .i64 x])))
  offset : ∀ {w F N l e b} (t : Int), Tb w F N l e b → TmI t → Calls Try.prog 23 #[.pointer (some ⟨N, 0, none⟩), .int .i64 t] w fun r w' => r = .returned (.int .i64 (offI l b t)) ∧ Below w.heap.size w w'
  label : ∀ {w F N l e b} (t : Int), Tb w F N l e b → TmI t → Calls Try.prog 21 #[.pointer (some ⟨N, 0, none⟩), .int .i64 t] w fun r w' => r = .returned (.tuple #[.int .i64 (labI l b t), .bool (insB l t)]) ∧ Below w.heap.size w w'
  even : ∀ {w F N l e b} (p : Int) (i : Bool), Tb w F N l e b → (-4611700000000000000 ≤ p ∧ p ≤ 4611700000000000000) → Calls Try.prog 22 #[.pointer (some ⟨N, 0, none⟩), .int .i64 p, .bool i] w fun r w' => (∃ t b', r = .returned (.tuple #[.int .i64 t, .bool b']) ∧ EvenP l b p i t b') ∧ Below w.heap.size w w'
  next : ∀ {w F N l e b} (t : Int), Tb w F N l e b → TmI t → Calls Try.prog 24 #[.pointer (some ⟨N, 0, none⟩), .int .i64 t] w fun r w' => r = NextE l t ∧ Below w.heap.size w w'
  bits : ∀ {w F N l e b} (t : Int), Tb w F N l e b → TmI t → Calls Try.prog 28 #[.pointer (some ⟨N, 0, none⟩), .int .i64 t] w fun r w' => r = .returned (.int .u8 (bitsI l e t : Nat)) ∧ Below w.heap.size w w'
  list : ∀ {w F N l e b}, Tb w F N l e b → Calls Try.prog 14 #[.pointer (some ⟨N, 0, none⟩)] w fun r w' => ∃ q d, r = .returned (.slice q l.length d) ∧ OwnL w' w.heap.size q l.length d l ∧ Below w.heap.size w w'
  copy : ∀ {w F N l e b}, Tb w F N l e b → Calls Try.prog 15 #[.pointer (some ⟨N, 0, none⟩)] w fun r w' => ∃ N' F', r = .returned (.pointer (some ⟨N', 0, none⟩)) ∧ Tb w' F' N' l e b ∧ w.heap.size ≤ N' ∧ Below w.heap.size w w'
  add : ∀ {w F N l e b} (y : Lp) (e' : Int), Tb w F N l e b → I64 y.t → I64 y.k → I64 e' → Calls Try.prog 16 #[.pointer (some ⟨N, 0, none⟩), .agg #[.int .i64 y.t, .int .i64 y.k], .int .i64 e'] w fun r w' => ∃ x F', r = .returned (.int .i64 x) ∧ AddT l e b y e' x ∧ Tb w' F' N (if x = 0 then l ++ [y] else l) (if x = 0 then e' else e) b ∧
    (∀ M, F' M → F M ∨ w.heap.size ≤ M) ∧ (∀ M, ¬ F M → M < w.heap.size → w'.heap[M]? = w.heap[M]?) ∧ ∀ B, B ≤ N → B ≤ w.heap.size → Below B w w'
  vote : ∀ {w p n c l}, Holds w p n c (valsN .u8 l) → (∀ d ∈ l, d < 256) → n ≤ 1000 → Calls Try.prog 18 #[.slice p n c] w fun r w' => r = .returned (.tuple #[.int .u8 ((voteN l).1 : Nat), .bool (voteN l).2]) ∧ Below w.heap.size w w'
  offset_nt : ∀ {w P} (t : Int), Nt w P → Calls Try.prog 23 #[.pointer P, .int .i64 t] w fun r w' => r = .returned (.int .i64 0) ∧ Below w.heap.size w w'
  label_nt : ∀ {w P} (t : Int), Nt w P → Calls Try.prog 21 #[.pointer P, .int .i64 t] w fun r w' => r = .returned (.tuple #[.int .i64 0, .bool false]) ∧ Below w.heap.size w w'
  even_nt : ∀ {w P} (t : Int) (i : Bool), Nt w P → Calls Try.prog 22 #[.pointer P, .int .i64 t, .bool i] w fun r w' => r = .returned (.tuple #[.int .i64 0, .bool false]) ∧ Below w.heap.size w w'
  next_nt : ∀ {w P} (t : Int), Nt w P → Calls Try.prog 24 #[.pointer P, .int .i64 t] w fun r w' => r = .returned (.tuple #[.agg #[.int .i64 0, .int .i64 0], .bool false]) ∧ Below w.heap.size w w'
  bits_nt : ∀ {w P} (t : Int), Nt w P → Calls Try.prog 28 #[.pointer P, .int .i64 t] w fun r w' => r = .returned (.int .u8 3) ∧ Below w.heap.size w w'
  add_nt : ∀ {w P} (y : Lp) (e' : Int), Nt w P → Calls Try.prog 16 #[.pointer P, .agg #[.int .i64 y.t, .int .i64 y.k], .int .i64 e'] w fun r w' => r = .returned (.int .i64 2) ∧ Below w.heap.size w w'
  list_nt : ∀ {w P}, Nt w P → Calls Try.prog 14 #[.pointer P] w fun r w' => (∃ q d, r = .returned (.slice q 0 d)) ∧ Below w.heap.size w w'
  copy_nt : ∀ {w P}, Nt w P → Calls Try.prog 15 #[.pointer P] w fun r w' => r = .returned (.pointer none) ∧ Below w.heap.size w w'
theorem LCode.below (C : LCode) {w w' : World} {F : Nat → Prop} {N : Nat} {l : List Lp} {e b : Int} (h : C.Tb w F N l e b) (k : Below w.heap.size w w') : C.Tb w' F N l e b := C.keep h fun M hM => k.block M (C.lt h M hM)

/-! ### Leaps told by days -/
def hopD (d : Nat) : Int := (2 + ((d % 100 : Nat) : Int)) * 86400000000000
def lpD (a : Int) (d : Nat) : Lp := ⟨a + hopD d, 1 - 2 * ((d % 2 : Nat) : Int)⟩
def endD (a : Int) : List Nat → Int
  | [] => a
  | d :: l => endD (a + hopD d) l
def mkD (a : Int) : List Nat → List Lp
  | [] => []
  | d :: l => lpD a d :: mkD (a + hopD d) l
theorem endD_app : ∀ (a : Int) (l : List Nat) (d : Nat), endD a (l ++ [d]) = endD a l + hopD d
  | _, [], _ => rfl
  | _, _ :: l, d => endD_app _ l d
theorem mkD_app : ∀ (a : Int) (l : List Nat) (d : Nat), mkD a (l ++ [d]) = mkD a l ++ [lpD (endD a l) d]
  | _, [], _ => rfl
  | a, x :: l, d => by
    show lpD a x :: mkD _ (l ++ [d]) = lpD a x :: (mkD _ l ++ [_])
    rw [mkD_app]
    rfl
theorem hopD_in (d : Nat) : 172800000000000 ≤ hopD d ∧ hopD d ≤ 8726400000000000 := by unfold hopD; omega
theorem endD_in : ∀ (a : Int) (l : List Nat), a ≤ endD a l ∧ endD a l ≤ a + l.length * 8726400000000000
  | a, [] => by show a ≤ a ∧ a ≤ a + (0 : Nat) * _; omega
  | a, d :: l => by
    have ih := endD_in (a + hopD d) l
    have := hopD_in d
    show a ≤ endD _ l ∧ endD _ l ≤ _
    rw [List.length_cons, Int.natCast_succ, Int.add_mul]
    omega
theorem mkD_len : ∀ (a : Int) (l : List Nat), (mkD a l).length = l.length
  | _, [] => rfl
  | _, _ :: l => by show (mkD _ l).length + 1 = l.length + 1; rw [mkD_len]
theorem lpD_k (a : Int) (d : Nat) : (lpD a d).k = 1 ∨ (lpD a d).k = -1 := by
  show 1 - 2 * ((d % 2 : Nat) : Int) = 1 ∨ 1 - 2 * ((d % 2 : Nat) : Int) = -1
  omega
theorem mkD_mem : ∀ {a : Int} {l : List Nat} {x : Lp}, x ∈ mkD a l → a + 172800000000000 ≤ x.t ∧ x.t ≤ endD a l ∧ (x.k = 1 ∨ x.k = -1)
  | a, d :: l, x, h => by
    have hg := hopD_in d
    have e := (endD_in (a + hopD d) l).1
    rcases List.mem_cons.1 h with rfl | h
    · exact ⟨by show a + _ ≤ a + hopD d; omega, by show a + hopD d ≤ endD _ l; exact e, lpD_k a d⟩
    · have ih := mkD_mem h
      exact ⟨by have := ih.1; omega, ih.2.1, ih.2.2⟩
theorem mkD_gap : ∀ (a : Int) (l : List Nat), GapL (mkD a l)
  | _, [] => trivial
  | _, [_] => trivial
  | a, d :: d2 :: l => by
    have := hopD_in d2
    exact ⟨by show a + hopD d + 2 * dayI ≤ a + hopD d + hopD d2; unfold dayI; omega, mkD_gap _ (d2 :: l)⟩
theorem mkD_far {l : List Nat} (h : l.length ≤ 20) : FarL (mkD dayI l) := by
  intro y hy
  have m := mkD_mem hy
  have e := (endD_in dayI l).2
  have : (l.length : Int) * 8726400000000000 ≤ 20 * 8726400000000000 := Int.mul_le_mul_of_nonneg_right (by omega) (by decide)
  unfold dayI at *
  exact ⟨by omega, by omega, m.2.2⟩
theorem mkD_ok {l : List Nat} (h : l.length ≤ 20) : OkL (mkD dayI l) :=
  ⟨fun y hy => by have := mkD_far h y hy; exact ⟨this.1, by unfold topI; omega, this.2.2⟩, mkD_gap _ _⟩
end Go.Proofs.Ytpfbdpoileepoaa
