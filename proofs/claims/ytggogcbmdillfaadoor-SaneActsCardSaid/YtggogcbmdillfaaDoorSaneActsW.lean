/- SaneActs: any text as a code: the walk. -/
import Derived.Test.YtggogcbmdillfaaDoorSaneE
set_option maxRecDepth 100000
namespace Go.Proofs.YtggogcbmdillfaaDoor
open Go.ChangeShapes Go.WideShapes Go.ChangeAt Go.RowKit OctM StampM SaneM

/-- a text with a blank behind it is none of the codes. -/
theorem act_blank (s : ByteArray) : actS (s ++ ⟨#[32]⟩) = 0 := by
  have key : ∀ a b c d : UInt8, d ≠ 32 → s ++ ⟨#[32]⟩ ≠ ⟨#[a, b, c, d]⟩ := by
    intro a b c d hd e
    have e1 := congrArg (fun t : ByteArray => t.data.toList.getLast?) e
    simp at e1
    exact hd e1.symm
  unfold actS rateS denyS rstrS
  rw [if_neg (key _ _ _ _ (by decide)), if_neg (fun h => h.elim (key _ _ _ _ (by decide)) (key _ _ _ _ (by decide)))]

attribute [local go_sem ↓] addS_eq

set_option maxHeartbeats 4000000 in
theorem acts8_walk (w : World) (s : ByteArray) (hs : s.size ≤ 140737488355328) :
    Calls Tryd.prog 4 #[.string s] w fun e w' => e = .returned (.bool true) ∧ Below w.heap.size w w' := by
  have PA := Lib.hid (fun w => pact8_any w s)
  have RA := Lib.hid (fun w => ract8_any w s)
  have PB := Lib.hid (fun w => pact8_any w (s ++ ⟨#[32]⟩))
  rw [act_blank] at PB
  have AD := fun w => add_any w s ⟨#[32]⟩ (by show s.size + 1 ≤ _; omega)
  generalize s ++ ⟨#[32]⟩ = t at *
  generalize actS s = A at *
  have AA : (A == A) = true := beq_self_eq_true A
  clear hs
  go_enter Tryd.func4, Tryd.ntmps4
  go_wp2_with fail
  refine (PA.out _).mono ?_; rintro e w1 ⟨rfl, rfl⟩
  go_wp2_with fail
  refine (RA.out _).mono ?_; rintro e w1 ⟨rfl, rfl⟩
  go_wp2_with fail
  refine (PB.out _).mono ?_; rintro e w1 ⟨rfl, rfl⟩
  go_wp2_with fail
  refine (alive8_any _).mono ?_; rintro e w2 ⟨rfl, l2⟩
  have L2 := Lib.hid l2
  clear l2
  go_wp2
  go_ret
  exact ⟨rfl, L2.out⟩
end Go.Proofs.YtggogcbmdillfaaDoor
