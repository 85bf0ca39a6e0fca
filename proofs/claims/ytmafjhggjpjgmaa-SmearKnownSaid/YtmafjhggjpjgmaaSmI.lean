/- Layer 15 (smear), the program's: List; all calls together: SCode holds of it. -/
import Derived.Test.YtmafjhggjpjgmaaSmH
set_option maxRecDepth 100000
namespace Go.Proofs.Ytmafjhggjpjgmaa
open Go.ChangeShapes Go.WideShapes Go.ChangeAt Go.RowKit SmM

theorem plist_any {w : World} {P p : Option Addr} {n c : Nat} {l : List Lp} (h : HasL w P p n c l) :
    Calls Try.prog 21 #[.pointer P] w fun e w' => ∃ q d, e = .returned (.slice q n d) ∧ OwnL w' w.heap.size q n d l ∧ Below w.heap.size w w' := by
  have HE := Lib.hid (h.held w (Below.refl _ _))
  have CL := Lib.hid (pclone15 w p n c l h.row (by have := h.few; omega))
  have F : Hid (∀ q d w', OwnL w' w.heap.size q n d l → Below w.heap.size w w' → ∃ q' d', Ending.returned (.slice q n d) = .returned (.slice q' n d') ∧ OwnL w' w.heap.size q' n d' l ∧ Below w.heap.size w w') := fun q d w' o b => ⟨q, d, rfl, o, b⟩
  clear h
  go_enter Try.func21, Try.ntmps21
  go_wp2_with (first
    | (go_at_call 27; refine HE.out.mono ?_; rintro e w5 ⟨rfl, hw⟩; obtain rfl := hw.symm)
    | (go_at_call 10; refine CL.out.mono ?_; rintro e w6 ⟨q, d, rfl, o6, b6⟩; have G := Lib.hid (F.out q d w6 o6 b6); clear o6 b6))
  go_ret
  exact G.out

def smear_code : SCode where
  Tb w F N l := ∃ p c, F = SF N p ∧ PSm w N p c l
  keep := by
    rintro w w' F N l ⟨p, c, rfl, h⟩ k
    exact ⟨p, c, rfl, h.keep k⟩
  lt := by
    rintro w F N l ⟨p, c, rfl, h⟩
    exact h.lt
  ok := by
    rintro w F N l ⟨p, c, rfl, h⟩
    exact ⟨h.ok, h.fit⟩
  new := by
    intro w p n c l h hi
    refine (pnew15 w p n c l h hi).mono fun e w' ⟨b, q⟩ => ⟨b, ?_⟩
    rcases q with ⟨a, d, N, p', c', e1, h1, f1⟩ | r
    · exact .inl ⟨a, d, N, SF N p', e1, ⟨p', c', rfl, h1⟩, f1⟩
    · exact .inr r
  to_ := by
    rintro w F N l t ⟨p, c, rfl, h⟩ -
    exact pto_any h.has t
  taken := by
    rintro w F N l t ⟨p, c, rfl, h⟩ -
    exact ptaken_any h.has t
  within := by
    rintro w F N l t ⟨p, c, rfl, h⟩ -
    exact pwithin_any h.has t
  back := by
    rintro w F N l s ⟨p, c, rfl, h⟩ -
    exact pback_any h.has s
  list := by
    rintro w F N l ⟨p, c, rfl, h⟩
    exact (plist_any h.has).mono fun e w' ⟨q, d, a, o, b⟩ => ⟨q, d, a, o, b⟩
  to_none := fun w t _ => (pto_any (has_none w) t).mono fun e w' ⟨a, b⟩ => ⟨by rw [a]; unfold toI takenI; simp, b⟩
  taken_none := fun w t _ => (ptaken_any (has_none w) t).mono fun e w' ⟨a, b⟩ => ⟨by rw [a]; rfl, b⟩
  within_none := fun w t _ => (pwithin_any (has_none w) t).mono fun e w' ⟨a, b⟩ => ⟨by rw [a]; rfl, b⟩
  back_none := fun w s _ => pback_any (has_none w) s
  list_none := fun w => (plist_any (has_none w)).mono fun e w' ⟨q, d, a, _, b⟩ => ⟨⟨q, d, a⟩, b⟩
end Go.Proofs.Ytmafjhggjpjgmaa
