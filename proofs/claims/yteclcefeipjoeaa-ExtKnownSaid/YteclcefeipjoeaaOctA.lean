/- Contracts of the document's own answers for layer 3 (octet): bytes in new memory, places. -/
import Derived.Test.YteclcefeipjoeaaOctD
namespace Go.Proofs.Yteclcefeipjoeaa
open Go.ChangeShapes Go.WideShapes Go.ChangeAt Go.RowKit OctM

/-- New bytes, the call's own. -/
structure OwnPost (w : World) (n : Nat) (ds : List Nat) (e : Ending) (w' : World) : Prop where
  out : ∃ v, e = .returned v ∧ w'.ownsRow w.heap.size 5 1 v n (valsN .u8 ds) ∧ Below w.heap.size w w'

theorem rown_any (w : World) (p : Option Addr) (n c : Nat) (ds : List Nat) (hz : Holds w p n c (valsN .u8 ds)) (hn : n ≤ 140737488355328) :
    Calls Try.prog 15 #[.slice p n c] w (OwnPost w n ds) := by
  obtain ⟨i0, hi, hz0, hz1, hz2⟩ := info_of info8
  have HZ := Lib.hid hz
  have BM : Hid (0 + n ≤ maxLen) := by unfold Hid maxLen; omega
  have BY : Hid ((0 + n) * 1 ≤ 140737488355328) := by unfold Hid; omega
  rcases p with _ | a
  · have c0 := hz.bare rfl
    have n0 : n = 0 := by have := hz.cap; omega
    subst c0 n0
    have fin : Hid (OwnPost w 0 ds (.returned (.slice none 0 0)) w) := by
      have l := hz.len
      rw [valsN_len] at l
      obtain rfl := List.length_eq_zero_iff.1 l
      exact ⟨_, rfl, World.ownsRow_nil w _ _ 1, Below.refl _ _⟩
    clear hz hn
    go_enter Try.func15, Try.ntmps15
    go_wp2_with (at_builtin; refine wpList_append_own_none rfl _ _ 25 rfl w.heap.size 5 i0 1 Try.underlying25 hi _ _ _ rfl (World.ownsRow_nil w _ _ 1) rfl ?_)
    go_wp2
    go_ret
    exact fin.out
  · have cells : Hid (∀ j u, (valsN .u8 ds)[j]? = some u → w.cell? (a.add j) = some u) := fun j u hu => by
      obtain ⟨a', e, h⟩ := hz.cell j u hu
      cases e
      exact h
    have hl : Hid ((valsN .u8 ds).length = n * 1) := by unfold Hid; rw [Nat.mul_one]; exact hz.len
    clear hz hn
    go_enter Try.func15, Try.ntmps15
    go_wp2_with (at_builtin; refine wpList_append_own _ rfl _ _ 25 rfl w.heap.size 5 i0 (.int .u8 0) 1 1 Try.underlying25 hi hz0 hz1 hz2 rfl (by decide) _ 0 [] rfl (World.ownsRow_nil w _ _ 1) a n c (valsN .u8 ds) rfl hl.out cells.out (valsN_one _ _) BM.out BY.out (Nat.le_refl _) ?_)
    intro v' w1 hown hgrow _
    have fin : Hid (OwnPost w n ds (.returned v') w1) := ⟨v', rfl, hown, (Below.refl _ _).grown hgrow (Nat.le_refl _) (fun j hj => by cases hj)⟩
    clear hown hgrow
    go_wp2
    go_ret
    exact fin.out

end Go.Proofs.Yteclcefeipjoeaa

