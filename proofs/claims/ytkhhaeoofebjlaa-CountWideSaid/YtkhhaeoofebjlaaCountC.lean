/- Layer 9 (count): New, Read, Total, Last, Full, Copy. -/
import Derived.Test.YtkhhaeoofebjlaaCountB
import Derived.Shelf.Abstract
set_option maxRecDepth 100000
namespace Go.Proofs.Ytkhhaeoofebjlaa
open Go.ChangeShapes Go.WideShapes Go.ChangeAt Go.RowKit

theorem pfault2 (w : World) (A g0 g1 : Nat) (c0 c1 : Array Value) (z e0 e1 : Int)
    (h0 : w.cell? ⟨A, 0, none⟩ = some (.func (.func g0) #[] c0)) (h1 : w.cell? ⟨A, 1, none⟩ = some (.func (.func g1) #[] c1))
    (n0 : ∀ args w, (callFunc g0 args).run Try.prog w = .ok (.enter g0 args) w) (n1 : ∀ args w, (callFunc g1 args).run Try.prog w = .ok (.enter g1 args) w)
    (s0 : ∀ w', Below w.heap.size w w' → Calls Try.prog g0 c0 w' (TellE w' e0)) (s1 : e0 = 0 → ∀ w', Below w.heap.size w w' → Calls Try.prog g1 c1 w' (TellE w' e1))
    (hz : (e0 ≠ 0 ∧ z = e0) ∨ (e0 = 0 ∧ z = e1)) :
    Calls Try.prog 13 #[.slice (some ⟨A, 0, none⟩) 2 2] w (TellE w z) := by
  refine pfault_any w A 2 (fun i => match i with | 0 => g0 | _ => g1) (fun i => match i with | 0 => c0 | _ => c1) z (fun i => match i with | 0 => e0 | _ => e1) (by decide) ?_ ?_ ?_ ?_
  · intro i hi
    obtain rfl | rfl : i = 0 ∨ i = 1 := by omega
    · exact h0
    · exact h1
  · intro i hi
    obtain rfl | rfl : i = 0 ∨ i = 1 := by omega
    · exact n0
    · exact n1
  · intro i hi hj
    obtain rfl | rfl : i = 0 ∨ i = 1 := by omega
    · exact s0
    · exact s1 (hj 0 (by omega))
  · rcases hz with ⟨a, b⟩ | ⟨a, b⟩
    · exact .inl ⟨0, by omega, by rw [b]; exact a, b.symm, fun j hj => absurd hj (Nat.not_lt_zero _)⟩
    · by_cases q : e1 = 0
      · refine .inr ⟨by rw [b]; exact q, fun j hj => ?_⟩
        obtain rfl | rfl : j = 0 ∨ j = 1 := by omega
        · exact a
        · exact q
      · refine .inl ⟨1, by omega, by rw [b]; exact q, b.symm, fun j hj => ?_⟩
        obtain rfl : j = 0 := by omega
        exact a

theorem pfault3 (w : World) (A g0 g1 g2 : Nat) (c0 c1 c2 : Array Value) (z e0 e1 e2 : Int)
    (h0 : w.cell? ⟨A, 0, none⟩ = some (.func (.func g0) #[] c0)) (h1 : w.cell? ⟨A, 1, none⟩ = some (.func (.func g1) #[] c1)) (h2 : w.cell? ⟨A, 2, none⟩ = some (.func (.func g2) #[] c2))
    (n0 : ∀ args w, (callFunc g0 args).run Try.prog w = .ok (.enter g0 args) w) (n1 : ∀ args w, (callFunc g1 args).run Try.prog w = .ok (.enter g1 args) w) (n2 : ∀ args w, (callFunc g2 args).run Try.prog w = .ok (.enter g2 args) w)
    (s0 : ∀ w', Below w.heap.size w w' → Calls Try.prog g0 c0 w' (TellE w' e0)) (s1 : e0 = 0 → ∀ w', Below w.heap.size w w' → Calls Try.prog g1 c1 w' (TellE w' e1))
    (s2 : e0 = 0 → e1 = 0 → ∀ w', Below w.heap.size w w' → Calls Try.prog g2 c2 w' (TellE w' e2))
    (hz : (e0 ≠ 0 ∧ z = e0) ∨ (e0 = 0 ∧ e1 ≠ 0 ∧ z = e1) ∨ (e0 = 0 ∧ e1 = 0 ∧ z = e2)) :
    Calls Try.prog 13 #[.slice (some ⟨A, 0, none⟩) 3 3] w (TellE w z) := by
  refine pfault_any w A 3 (fun i => match i with | 0 => g0 | 1 => g1 | _ => g2) (fun i => match i with | 0 => c0 | 1 => c1 | _ => c2) z (fun i => match i with | 0 => e0 | 1 => e1 | _ => e2) (by decide) ?_ ?_ ?_ ?_
  · intro i hi
    obtain rfl | rfl | rfl : i = 0 ∨ i = 1 ∨ i = 2 := by omega
    · exact h0
    · exact h1
    · exact h2
  · intro i hi
    obtain rfl | rfl | rfl : i = 0 ∨ i = 1 ∨ i = 2 := by omega
    · exact n0
    · exact n1
    · exact n2
  · intro i hi hj
    obtain rfl | rfl | rfl : i = 0 ∨ i = 1 ∨ i = 2 := by omega
    · exact s0
    · exact s1 (hj 0 (by omega))
    · exact s2 (hj 0 (by omega)) (hj 1 (by omega))
  · rcases hz with ⟨a, b⟩ | ⟨a, q, b⟩ | ⟨a, a', b⟩
    · exact .inl ⟨0, by omega, by rw [b]; exact a, b.symm, fun j hj => absurd hj (Nat.not_lt_zero _)⟩
    · refine .inl ⟨1, by omega, by rw [b]; exact q, b.symm, fun j hj => ?_⟩
      obtain rfl : j = 0 := by omega
      exact a
    · by_cases q : e2 = 0
      · refine .inr ⟨by rw [b]; exact q, fun j hj => ?_⟩
        obtain rfl | rfl | rfl : j = 0 ∨ j = 1 ∨ j = 2 := by omega
        · exact a
        · exact a'
        · exact q
      · refine .inl ⟨2, by omega, by rw [b]; exact q, b.symm, fun j hj => ?_⟩
        obtain rfl | rfl : j = 0 ∨ j = 1 := by omega
        · exact a
        · exact a'

/-- A new counter. -/
def NewP (w : World) (k x : Nat) (e : Ending) (w' : World) : Prop :=
  ∃ N, e = .returned (.tuple #[.pointer (some ⟨N, 0, none⟩), .int .i64 0]) ∧ Ct w' N k x 0 false ∧ w.heap.size ≤ N ∧ Below w.heap.size w w'
/-- None. -/
def NoneP (w : World) (e : Ending) (w' : World) : Prop := e = .returned (.tuple #[.pointer none, .int .i64 1]) ∧ Below w.heap.size w w'

theorem blk_alloc (w : World) (cs : Array Value) (T : TypeId) : (w.alloc (.cells cs T)).heap[w.heap.size]? = some (.cells cs T (0, 0)) := heap_alloc_new w _

set_option maxHeartbeats 1000000 in
theorem pnew9_core (w : World) (b : Int) (x : Nat) (z e0 e1 : Int) (Q : Ending → World → Prop)
    (h0 : (e0 = 0 ∧ 8 ≤ b ∧ b ≤ 64) ∨ (e0 = 1 ∧ (b < 8 ∨ 64 < b))) (h1 : e0 = 0 → ∃ k : Nat, b = (k : Int) ∧ k ≤ 64 ∧ ((e1 = 0 ∧ x < 2 ^ k) ∨ (e1 = 1 ∧ ¬ x < 2 ^ k)))
    (hz : (e0 ≠ 0 ∧ z = e0) ∨ (e0 = 0 ∧ z = e1))
    (hgood : z = 0 → ∀ (N : Nat) (w' : World), w'.heap[N]? = some (.cells #[.int .i64 b, .int .u64 (x : Nat), .int .u64 0, .bool false] 43 (0, 0)) → w.heap.size ≤ N → Below w.heap.size w w' → Q (.returned (.tuple #[.pointer (some ⟨N, 0, none⟩), .int .i64 0])) w')
    (hbad : z ≠ 0 → ∀ w', Below w.heap.size w w' → Q (.returned (.tuple #[.pointer none, .int .i64 z])) w') :
    Calls Try.prog 6 #[.int .i64 b, .int .u64 (x : Nat)] w Q := by
  have B1 : Below w.heap.size w (w.alloc (.cells #[.int .i64 b] 3)) := (Below.refl _ _).alloc (Nat.le_refl _) _
  have C1 : (w.alloc (.cells #[.int .i64 b] 3)).cell? ⟨w.heap.size, 0, none⟩ = some (.int .i64 b) := blk_cell (blk_alloc w _ _)
  have s1 : (w.alloc (.cells #[.int .i64 b] 3)).heap.size = w.heap.size + 1 := by simp
  have C2 : ((w.alloc (.cells #[.int .i64 b] 3)).alloc (.cells #[.int .u64 (x : Nat)] 22)).cell? ⟨w.heap.size + 1, 0, none⟩ = some (.int .u64 (x : Nat)) := by
    have := blk_alloc (w.alloc (.cells #[.int .i64 b] 3)) #[.int .u64 (x : Nat)] 22
    rw [s1] at this
    exact blk_cell this
  have AB2 : Below (w.alloc (.cells #[.int .i64 b] 3)).heap.size (w.alloc (.cells #[.int .i64 b] 3)) ((w.alloc (.cells #[.int .i64 b] 3)).alloc (.cells #[.int .u64 (x : Nat)] 22)) := (Below.refl _ _).alloc (Nat.le_refl _) _
  have s2 : ((w.alloc (.cells #[.int .i64 b] 3)).alloc (.cells #[.int .u64 (x : Nat)] 22)).heap.size = w.heap.size + 1 + 1 := by simp
  have D1 : ((w.alloc (.cells #[.int .i64 b] 3)).alloc (.cells #[.int .u64 (x : Nat)] 22)).cell? ⟨w.heap.size, 0, none⟩ = some (.int .i64 b) := by
    rw [AB2.cell (by rw [s1]; exact Nat.lt_succ_self _)]
    exact C1
  have B2 := B1.trans (AB2.mono B1.size)
  generalize hv : (w.alloc (.cells #[.int .i64 b] 3)).alloc (.cells #[.int .u64 (x : Nat)] 22) = v at *
  have HV := Lib.hid hv
  clear B1 C1 s1 AB2 hv
  obtain ⟨fs, hfs⟩ : ∃ fs : Array Value, fs = #[.func (.func 14) #[] #[.pointer (some ⟨w.heap.size, 0, none⟩)], .func (.func 16) #[] #[.pointer (some ⟨w.heap.size + 1, 0, none⟩), .pointer (some ⟨w.heap.size, 0, none⟩)]] := ⟨_, rfl⟩
  have AB3 : Below v.heap.size v (v.alloc (.cells fs 40)) := (Below.refl _ _).alloc (Nat.le_refl _) _
  have FA : (v.alloc (.cells fs 40)).heap[w.heap.size + 1 + 1]? = some (.cells fs 40 (0, 0)) := by
    have := blk_alloc v fs 40
    rw [s2] at this
    exact this
  have E1 : (v.alloc (.cells fs 40)).cell? ⟨w.heap.size, 0, none⟩ = some (.int .i64 b) := by rw [AB3.cell (by rw [s2]; show w.heap.size < _; omega)]; exact D1
  have E2 : (v.alloc (.cells fs 40)).cell? ⟨w.heap.size + 1, 0, none⟩ = some (.int .u64 (x : Nat)) := by rw [AB3.cell (by rw [s2]; exact Nat.lt_succ_self _)]; exact C2
  have B3 := B2.trans (AB3.mono B2.size)
  have s3 : (v.alloc (.cells fs 40)).heap.size = w.heap.size + 1 + 1 + 1 := by simp [s2]
  have FT := pfault2 (v.alloc (.cells fs 40)) (w.heap.size + 1 + 1) 14 16 #[.pointer (some ⟨w.heap.size, 0, none⟩)] #[.pointer (some ⟨w.heap.size + 1, 0, none⟩), .pointer (some ⟨w.heap.size, 0, none⟩)] z e0 e1
    ((blk_cell FA).trans (by rw [hfs]; rfl)) ((blk_cell FA).trans (by rw [hfs]; rfl)) (enters_of Try.func14 (by kernel_rfl) rfl) (enters_of Try.func16 (by kernel_rfl) rfl)
    (fun w' bb => pn1_any w' _ b e0 (by rw [bb.cell (by rw [s3]; show w.heap.size < _; omega)]; exact E1) h0)
    (fun q w' bb => by
      obtain ⟨k, rfl, hk, hx⟩ := h1 q
      exact pn2_any w' _ _ x k e1 (by rw [bb.cell (by rw [s3]; show w.heap.size + 1 < _; omega)]; exact E2) (by rw [bb.cell (by rw [s3]; show w.heap.size < _; omega)]; exact E1) hk hx)
    hz
  replace FT := Lib.hid FT
  have HFS := Lib.hid hfs
  have F1 := Lib.hid E1
  have F2 := Lib.hid E2
  have LB := Lib.hid B3
  have S3 := Lib.hid s3
  have GO := Lib.hid hgood
  have BA := Lib.hid hbad
  have ES2 : v.heap.size = w.heap.size + 1 + 1 := s2
  clear hfs h0 h1 hz hgood hbad FA E1 E2 B3 s3 AB3 s2 C2 D1 B2
  go_enter Try.func6, Try.ntmps6
  go_wp2_with fail
  rw [HV.out, ← HFS.out]
  refine FT.out.mono ?_; rintro e w1 ⟨rfl, l1⟩
  have L1 : Hid (Below w.heap.size w w1) := LB.out.trans (l1.mono LB.out.size)
  have g1 : w1.cell? ⟨w.heap.size, 0, none⟩ = some (.int .i64 b) := by rw [l1.cell (by rw [S3.out]; show w.heap.size < _; omega)]; exact F1.out
  have g2 : w1.cell? ⟨w.heap.size + 1, 0, none⟩ = some (.int .u64 (x : Nat)) := by rw [l1.cell (by rw [S3.out]; show w.heap.size + 1 < _; omega)]; exact F2.out
  clear F1 F2 FT LB S3 HV HFS l1 ES2
  by_cases q : z = 0
  · have GG := Lib.hid (GO.out q)
    have K1 : Hid (Below w.heap.size w (w1.alloc (.cells #[.int .i64 b, .int .u64 (x : Nat), .int .u64 0, .bool false] 43))) := L1.out.alloc L1.out.size _
    have K2 := Lib.hid (blk_alloc w1 #[.int .i64 b, .int .u64 (x : Nat), .int .u64 0, .bool false] 43)
    clear GO BA
    subst q
    go_wp2
    exact GG.out _ _ K2.out L1.out.size K1.out
  · have GG := Lib.hid (BA.out q w1 L1.out)
    have n1 : (z != 0) = true := by simp; exact q
    have n2 : (z == 0) = false := by simp; exact q
    clear GO BA
    go_wp2
    exact GG.out

theorem pnew9_ok (w : World) (k x : Nat) (h1 : 8 ≤ k) (h2 : k ≤ 64) (h3 : x < 2 ^ k) :
    Calls Try.prog 6 #[.int .i64 (k : Nat), .int .u64 (x : Nat)] w (NewP w k x) :=
  pnew9_core w k x 0 0 0 _ (.inl ⟨rfl, by omega, by omega⟩) (fun _ => ⟨k, rfl, h2, .inl ⟨rfl, h3⟩⟩) (.inr ⟨rfl, rfl⟩) (fun _ N w' a b c => ⟨N, rfl, a, b, c⟩) (fun h => absurd rfl h)
theorem pnew9_bits (w : World) (b : Int) (x : Nat) (h1 : b < 8 ∨ 64 < b) :
    Calls Try.prog 6 #[.int .i64 b, .int .u64 (x : Nat)] w (NoneP w) :=
  pnew9_core w b x 1 1 0 _ (.inr ⟨rfl, h1⟩) (fun h => absurd h (by decide)) (.inl ⟨by decide, rfl⟩) (fun h => absurd h (by decide)) (fun _ w' l => ⟨rfl, l⟩)
theorem pnew9_first (w : World) (k x : Nat) (h1 : 8 ≤ k) (h2 : k ≤ 64) (h3 : ¬ x < 2 ^ k) :
    Calls Try.prog 6 #[.int .i64 (k : Nat), .int .u64 (x : Nat)] w (NoneP w) :=
  pnew9_core w k x 1 0 1 _ (.inl ⟨rfl, by omega, by omega⟩) (fun _ => ⟨k, rfl, h2, .inr ⟨rfl, h3⟩⟩) (.inr ⟨rfl, rfl⟩) (fun h => absurd h (by decide)) (fun _ w' l => ⟨rfl, l⟩)
end Go.Proofs.Ytkhhaeoofebjlaa
