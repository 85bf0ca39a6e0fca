/- Layer 14 (timers), the program's own: New. -/
import Derived.Test.YtbfmmeapjfljbaaTmH
set_option maxRecDepth 100000
namespace Go.Proofs.Ytbfmmeapjfljbaa
open Go.ChangeShapes Go.WideShapes Go.ChangeAt Go.RowKit Go.Maps HeapM

/-- Timers that are all new. -/
structure TAt (w wr : World) (N : Nat) (s : TS) : Prop where
  out : ∃ F, TmP wr F N s ∧ ∀ M, F M → w.heap.size ≤ M
  low : Below w.heap.size w wr
def nwC (p0 p1 : Option Addr) (b : Nat) : Array Value := #[.pointer p0, .pointer p1, .map (some b), .int .u64 0, .int .u64 0]
structure NwS (w wr : World) (T b : Nat) (p0 p1 : Option Addr) : Prop where
  bk : wr.heap[T]? = some (.cells (nwC p0 p1 b) 48 (0, 0))
  mp : MapT wr b 0 (.map [])
  low : Below w.heap.size w wr
  nb : w.heap.size ≤ b ∧ w.heap.size ≤ T ∧ T ≠ b
theorem NwS.below {w wr w' : World} {T b : Nat} {p0 p1 : Option Addr} (h : NwS w wr T b p0 p1) (k : Below wr.heap.size wr w') : NwS w w' T b p0 p1 :=
  ⟨(k.block _ (Array.getElem?_eq_some_iff.1 h.bk).1).trans h.bk, h.mp.same (k.block _ (World.ownsMap.lt h.mp)), h.low.trans (k.mono h.low.size), h.nb⟩
/-- A heap beside. -/
def HNew (w wr : World) (T b R0 : Nat) (F0 : Nat → Prop) : Prop := HqP wr F0 R0 256 [] ∧ ∀ M, F0 M → w.heap.size ≤ M ∧ M ≠ T ∧ M ≠ b
theorem hnew {w wr w' : World} {T b : Nat} {p0 p1 : Option Addr} (h : NwS w wr T b p0 p1) (k : Below wr.heap.size wr w') : Calls Try.prog 12 #[.int .i64 256] w' fun e w5 => ∃ R0 F0, e = .returned (.tuple #[.pointer (some ⟨R0, 0, none⟩), .int .i64 0]) ∧ HNew w w5 T b R0 F0 ∧ (∀ M, F0 M → w'.heap.size ≤ M) ∧ Below w'.heap.size w' w5 := by
  have h' := h.below k
  refine (pnew13_ok w' 256 (by decide) (by decide)).mono fun e w5 ⟨N, b5, e1, hp, n1, n2, l⟩ => ⟨N, _, e1, ⟨⟨b5, none, 0, rfl, hp⟩, fun M hM => ?_⟩, fun M hM => ?_, l⟩
  · have : w'.heap.size ≤ M := by
      rcases hM with rfl | rfl | ⟨a, ha, -⟩
      · exact n1
      · exact n2
      · cases ha
    have h1 := (Array.getElem?_eq_some_iff.1 h'.bk).1
    have h2 := World.ownsMap.lt h'.mp
    have := h'.low.size
    omega
  · rcases hM with rfl | rfl | ⟨a, ha, -⟩
    · exact n1
    · exact n2
    · cases ha
/-- The first heap's place is written. -/
theorem new_one {w wr w' : World} {T b : Nat} (h : NwS w wr T b none none) (k : Below wr.heap.size wr w') : Calls Try.prog 12 #[.int .i64 256] w' fun e w5 => ∃ R0, e = .returned (.tuple #[.pointer (some ⟨R0, 0, none⟩), .int .i64 0]) ∧ w5.cell? ⟨T, 0, none⟩ = some (.pointer none) ∧ w5.frozen? ⟨T, 0, none⟩ = false ∧
    NwS w (w5.setCell ⟨T, 0, none⟩ (.pointer (some ⟨R0, 0, none⟩))) T b (some ⟨R0, 0, none⟩) none ∧ ∃ F0, HNew w (w5.setCell ⟨T, 0, none⟩ (.pointer (some ⟨R0, 0, none⟩))) T b R0 F0 := by
  refine (hnew h k).mono fun e w5 ⟨R0, F0, e1, hn, _, l⟩ => ?_
  have h5 := (h.below k).below l
  refine ⟨R0, e1, blk_cell h5.bk, blk_free h5.bk, ⟨blk_set (o := 0) (u := .pointer (some ⟨R0, 0, none⟩)) h5.bk, h5.mp.same (Go.Deep.blk_setCell_other _ _ _ _ (Ne.symm h5.nb.2.2)), h5.low.setCell (p := ⟨T, 0, none⟩) h5.nb.2.1 _, h5.nb⟩, F0, hn.1.keep fun M hM => Go.Deep.blk_setCell_other _ _ _ _ (hn.2 M hM).2.1, hn.2⟩
/-- The second one's. -/
theorem new_two {w wr w' : World} {T b R0 : Nat} {F0 : Nat → Prop} (h : NwS w wr T b (some ⟨R0, 0, none⟩) none) (h0 : HNew w wr T b R0 F0) (k : Below wr.heap.size wr w') : Calls Try.prog 12 #[.int .i64 256] w' fun e w5 => ∃ R1, e = .returned (.tuple #[.pointer (some ⟨R1, 0, none⟩), .int .i64 0]) ∧ w5.cell? ⟨T, 1, none⟩ = some (.pointer none) ∧ w5.frozen? ⟨T, 1, none⟩ = false ∧
    TAt w (w5.setCell ⟨T, 1, none⟩ (.pointer (some ⟨R1, 0, none⟩))) T noT := by
  refine (hnew h k).mono fun e w5 ⟨R1, F1, e1, hn, n5, l⟩ => ?_
  have h5 := (h.below k).below l
  have h6 : HqP w5 F0 R0 256 [] := (h0.1.below k).below l
  have o : ∀ M, M ≠ T → (w5.setCell ⟨T, 1, none⟩ (.pointer (some ⟨R1, 0, none⟩))).heap[M]? = w5.heap[M]? := fun M hM => Go.Deep.blk_setCell_other _ _ _ _ hM
  refine ⟨R1, e1, blk_cell h5.bk, blk_free h5.bk, ⟨_, ⟨b, (fun j => if j then R1 else R0), (fun j => if j then F1 else F0), .map [], rfl, ⟨?_, fun j => ?_, h5.mp.same (o b (Ne.symm h5.nb.2.2)), fun j M g f => ?_, fun j M g => ?_⟩, tl_nil, noT_ok⟩, fun M hM => ?_⟩, h5.low.setCell (p := ⟨T, 1, none⟩) h5.nb.2.1 _⟩
  · have := blk_set (o := 1) (u := .pointer (some ⟨R1, 0, none⟩)) h5.bk
    exact this
  · cases j
    · exact h6.keep fun M hM => o M (h0.2 M hM).2.1
    · exact hn.1.keep fun M hM => o M (hn.2 M hM).2.1
  · have two : ∀ M, F0 M → ¬ F1 M := fun M a c => by
      have := h0.1.lt M a
      have := n5 M c
      have := k.size
      omega
    cases j
    · exact two M g f
    · exact two M f g
  · cases j
    · exact (h0.2 M g).2
    · exact (hn.2 M g).2
  · rcases hM with e | e | ⟨j, g⟩
    · rw [e]; exact h5.nb.2.1
    · rw [e]; exact h5.nb.1
    · cases j
      · exact (h0.2 M g).1
      · exact (hn.2 M g).1

set_option maxHeartbeats 2000000 in
theorem pnew14 (w w0 : World) (lw : Below w.heap.size w w0) : Calls Try.prog 6 #[] w0 fun e w' => ∃ N, e = .returned (.pointer (some ⟨N, 0, none⟩)) ∧ TAt w w' N noT := by
  have hmm := @run_makeMap Try.prog
  have M0 : MapT (w0.alloc (.map #[] 0)) w0.heap.size 0 (.map []) := World.ownsMap_made w0 _ _ _
  have S1 : (w0.alloc (.map #[] 0)).heap.size = w0.heap.size + 1 := by simp
  have I0 : Hid (NwS w ((w0.alloc (.map #[] 0)).alloc (.cells #[.pointer none, .pointer none, .map (some w0.heap.size), .int .u64 0, .int .u64 0] 48)) (w0.heap.size + 1) w0.heap.size none none) := by
    have q := heap_alloc_new (w0.alloc (.map #[] 0)) (.cells #[.pointer none, .pointer none, .map (some w0.heap.size), .int .u64 0, .int .u64 0] 48)
    rw [S1] at q
    have := lw.size
    exact ⟨q, World.ownsMap.alloc M0 _, (lw.alloc lw.size _).alloc (Nat.le_trans lw.size (by omega)) _, ⟨by omega, by omega, by omega⟩⟩
  clear M0 S1
  go_enter Try.func6, Try.ntmps6
  go_wp2_with fail
  obtain ⟨b, hb⟩ : ∃ b, w0.heap.size = b := ⟨_, rfl⟩
  obtain ⟨T, hT⟩ : ∃ T, b + 1 = T := ⟨_, rfl⟩
  rw [hb, hT] at I0
  rw [hb, hT]
  generalize (w0.alloc (.map #[] 0)).alloc (.cells #[.pointer none, .pointer none, .map (some b), .int .u64 0, .int .u64 0] 48) = v at *
  clear hb hT
  go_loopw [6] (fun i wx => (i = .int .i64 0 ∧ NwS w wx T b none none) ∨ (i = .int .i64 1 ∧ ∃ R0 F0, NwS w wx T b (some ⟨R0, 0, none⟩) none ∧ HNew w wx T b R0 F0) ∨ (i = .int .i64 2 ∧ TAt w wx T noT)) (fun i _ => 10 - (intOf i).toNat)
  case atStart => exact .inl ⟨rfl, I0.out⟩
  case round =>
    clear I0
    rcases hrel with ⟨rfl, I⟩ | ⟨rfl, R0, F0, I, H⟩ | ⟨rfl, TA⟩
    · have NC : Hid (∀ w', Below wr.heap.size wr w' → _) := fun w' k => new_one I (w' := w') k
      clear I
      go_wp2_with fail
      go_region_with (first | (go_at_call 12; refine (NC.out _ (by first | exact Below.refl _ _ | exact (Below.refl _ _).drew)).mono ?_; rintro e w5 ⟨R0, rfl, c0, f0, I1, F0, H0⟩; have I1 := Lib.hid I1; have H0 := Lib.hid H0))
      all_goals (
        go_wp2_with fail
        go_roundw
        case rel => exact .inr (.inl ⟨rfl, R0, F0, I1.out, H0.out⟩)
        case measure => decide)
    · have NC : Hid (∀ w', Below wr.heap.size wr w' → _) := fun w' k => new_two I H (w' := w') k
      clear I H
      go_wp2_with fail
      go_region_with (first | (go_at_call 12; refine (NC.out _ (by first | exact Below.refl _ _ | exact (Below.refl _ _).drew)).mono ?_; rintro e w5 ⟨R1, rfl, c0, f0, T1⟩; have T1 := Lib.hid T1))
      all_goals (
        go_wp2_with fail
        go_roundw
        case rel => exact .inr (.inr ⟨rfl, T1.out⟩)
        case measure => decide)
    · have TA := Lib.hid TA
      go_wp2
      go_ret
      exact ⟨T, rfl, TA.out⟩
end Go.Proofs.Ytbfmmeapjfljbaa
