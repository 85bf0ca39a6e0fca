/- Layer 15 (smear), the laws: awake: the chapter's examples. -/
import Derived.Test.YtmafjhggjpjgmaaSmE
set_option maxRecDepth 100000
namespace Go.Proofs.Ytmafjhggjpjgmaa
open Go.ChangeShapes Go.WideShapes Go.ChangeAt Go.RowKit SmM

/-- Leaps as a slice's literal makes them. -/
theorem own_made {w : World} {S n B : Nat} {cs : Array Value} {l : List Lp} (h : w.heap[S]? = some (.cells cs 26 (0, 0))) (hc : cs.toList = cellsL l) (hn : l.length = n) (hm : n ≤ maxLen) (hB : B ≤ S) : OwnL w B (some ⟨S, 0, none⟩) n n l := by
  have sz : cs.size = n * 2 := by rw [← Array.length_toList, hc, cellsL_len, hn]
  exact ⟨by rw [cellsL_len, hn], .inr ⟨S, n, cs, rfl, hB, h, Nat.le_refl _, hm, sz, by rw [← hc, ← sz, ← Array.length_toList, List.take_length]⟩⟩
/-- A literal that makes a table. -/
theorem new_good (C : SCode) {w : World} {p : Option Addr} {n c : Nat} {l : List Lp} (h : HoldsL w p n c l) (ok : OkL l) (few : n ≤ 32) :
    Calls Try.prog 11 #[.slice p n c] w fun e w9 => ∃ N F, e = .returned (.tuple #[.pointer (some ⟨N, 0, none⟩), .int .i64 0]) ∧ C.Tb w9 F N l ∧ (∀ M, F M → w.heap.size ≤ M) ∧ Below w.heap.size w w9 := by
  refine (C.new h (fun y hy => by
    have q := ok.1 y hy
    unfold dayI topI at q
    unfold I64
    omega)).mono fun e w9 h9 => ?_
  obtain ⟨b9, ⟨-, -, N, F, e9, t9, f9⟩ | ⟨r, ne, r0, -⟩⟩ := h9
  · exact ⟨N, F, e9, t9, f9, b9⟩
  · exfalso
    rcases ne with ⟨-, z⟩ | ⟨-, ⟨z, -⟩ | ⟨-, z⟩⟩
    · rw [h.len] at z; omega
    · exact r0 z
    · exact z ok
/-- One that makes none. -/
theorem new_bad (C : SCode) {w : World} {p : Option Addr} {n c : Nat} {l : List Lp} (h : HoldsL w p n c l) (hi : ∀ y ∈ l, I64 y.t ∧ I64 y.k) (ok : ¬ OkL l) (few : n ≤ 32) :
    Calls Try.prog 11 #[.slice p n c] w fun e w9 => e = .returned (.tuple #[.pointer none, .int .i64 1]) ∧ Below w.heap.size w w9 := by
  refine (C.new h hi).mono fun e w9 h9 => ?_
  obtain ⟨b9, ⟨o, -⟩ | ⟨r, ne, r0, e9⟩⟩ := h9
  · exact absurd o ok
  · rcases ne with ⟨-, z⟩ | ⟨-, ⟨z, -⟩ | ⟨z, -⟩⟩
    · rw [h.len] at z; omega
    · exact absurd z r0
    · subst z
      exact ⟨e9, b9⟩
def aw1 : List Lp := [⟨864000000000000, 1⟩]
def aw2 : List Lp := [⟨864000000000000, 1⟩, ⟨950400000000000, 1⟩]
theorem aw1_ok : OkL aw1 := by
  refine ⟨fun y hy => ?_, trivial⟩
  obtain rfl := List.mem_singleton.1 hy
  unfold dayI topI
  decide
theorem aw2_bad : ¬ OkL aw2 := by
  rintro ⟨-, h, -⟩
  exact absurd h (by decide)
theorem aw2_in : ∀ y ∈ aw2, I64 y.t ∧ I64 y.k := by
  intro y hy
  unfold I64
  simp only [aw2, List.mem_cons, List.not_mem_nil, or_false] at hy
  rcases hy with rfl | rfl <;> decide
theorem awake15 (C : SCode) (w : World) : Calls Try.prog 12 #[] w fun e w' => e = .returned (.bool true) ∧ Below w.heap.size w w' := by
  have L0 : Below w.heap.size w (w.alloc (.cells #[.int .i64 864000000000000, .int .i64 1] 26)) := (Below.refl _ _).alloc (Nat.le_refl _) _
  have N1 := Lib.hid (new_good C (own_made (B := 0) (heap_alloc_new w (.cells #[.int .i64 864000000000000, .int .i64 1] 26)) (l := aw1) rfl rfl (by decide) (Nat.zero_le _)).holds aw1_ok (by decide))
  have LL0 := Lib.hid L0
  clear L0
  go_enter Try.func12, Try.ntmps12
  go_wp2_with fail
  refine N1.out.mono ?_; rintro e w1 ⟨N, F, rfl, t1, -, b1⟩
  have T1 := Lib.hid t1
  have L1 := Lib.hid (LL0.out.trans (b1.mono LL0.out.size))
  have K2 : Below w1.heap.size w1 (w1.alloc (.cells #[.int .i64 864000000000000, .int .i64 1, .int .i64 950400000000000, .int .i64 1] 26)) := (Below.refl _ _).alloc (Nat.le_refl _) _
  have N2 := Lib.hid (new_bad C (own_made (B := 0) (heap_alloc_new w1 (.cells #[.int .i64 864000000000000, .int .i64 1, .int .i64 950400000000000, .int .i64 1] 26)) (l := aw2) rfl rfl (by decide) (Nat.zero_le _)).holds aw2_in aw2_bad (by decide))
  have KK2 := Lib.hid K2
  have TA : Hid (∀ w' t v, Below w1.heap.size w1 w' → I64 t → takenI aw1 (nearI t) = v → Calls Try.prog 19 #[.pointer (some ⟨N, 0, none⟩), .int .i64 t] w' fun e w'' => e = .returned (.int .i64 v) ∧ Below w1.heap.size w1 w'') := fun w' t v k i h =>
    (C.taken t (C.below T1.out k) i).mono fun e w'' ⟨a, b⟩ => ⟨by rw [a, h], k.trans (b.mono k.size)⟩
  have TO : Hid (∀ w' t v, Below w1.heap.size w1 w' → I64 t → toI aw1 t = v → Calls Try.prog 17 #[.pointer (some ⟨N, 0, none⟩), .int .i64 t] w' fun e w'' => e = .returned (.int .i64 v) ∧ Below w1.heap.size w1 w'') := fun w' t v k i h =>
    (C.to_ t (C.below T1.out k) i).mono fun e w'' ⟨a, b⟩ => ⟨by rw [a, h], k.trans (b.mono k.size)⟩
  have TW : Hid (∀ w', Below w1.heap.size w1 w' → Calls Try.prog 15 #[.pointer (some ⟨N, 0, none⟩), .int .i64 864000000000000] w' fun e w'' => e = .returned (.tuple #[.int .i64 0, .bool true]) ∧ Below w1.heap.size w1 w'') := fun w' k =>
    (C.within 864000000000000 (C.below T1.out k) (by unfold I64; decide)).mono fun e w'' ⟨a, b⟩ => ⟨by rw [a, show withinI aw1 (nearI 864000000000000) = 0 by decide +kernel]; rfl, k.trans (b.mono k.size)⟩
  clear b1 t1 N1 LL0 K2
  go_wp2_with fail
  refine N2.out.mono ?_; rintro e w2 ⟨rfl, b2⟩
  have K := KK2.out.trans (b2.mono KK2.out.size)
  clear b2 N2 KK2
  go_wp2_with fail
  refine (TW.out _ K).mono ?_; rintro e w3 ⟨rfl, K3⟩
  clear K TW
  go_wp2_with fail
  refine (TA.out _ 777600000000000 0 K3 (by unfold I64; decide) (by decide +kernel)).mono ?_; rintro e w4 ⟨rfl, K4⟩
  clear K3
  go_wp2_with fail
  refine (TA.out _ 864000000000000 500000000 K4 (by unfold I64; decide) (by decide +kernel)).mono ?_; rintro e w5 ⟨rfl, K5⟩
  clear K4
  go_wp2_with fail
  refine (TA.out _ 950400000000000 1000000000 K5 (by unfold I64; decide) (by decide +kernel)).mono ?_; rintro e w6 ⟨rfl, K6⟩
  clear K5
  go_wp2_with fail
  refine (TO.out _ 864000000000000 863999500000000 K6 (by unfold I64; decide) (by decide +kernel)).mono ?_; rintro e w7 ⟨rfl, K7⟩
  have L7 := Lib.hid (L1.out.trans (K7.mono L1.out.size))
  clear K6 K7 TA TO T1 L1
  go_wp2
  go_ret
  exact ⟨rfl, L7.out⟩
end Go.Proofs.Ytmafjhggjpjgmaa
