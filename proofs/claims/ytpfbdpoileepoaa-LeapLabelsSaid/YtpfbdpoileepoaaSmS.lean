/- Layer 15 (smear), work ahead: WHAT IS ASKED OF THE PROGRAM'S TABLES, call by call: 'Tb w F N l': at the block N lies a table of these leaps; F: the blocks that are its own. The laws' walks stand on this alone. -/
import Derived.Test.YtpfbdpoileepoaaSmC
set_option maxRecDepth 100000
namespace Go.Proofs.Ytpfbdpoileepoaa
open Go.ChangeShapes Go.WideShapes Go.ChangeAt Go.RowKit SmM

/-- What Back tells: the least instant whose smeared time is at least s. -/
def BackP (l : List Lp) (s t : Int) (b : Bool) : Prop := (b = true ∧ 0 ≤ t ∧ t ≤ topI ∧ s ≤ toI l t ∧ (0 < t → toI l (t - 1) < s)) ∨ (b = false ∧ t = 0 ∧ toI l topI < s)
/-! ### Leaps told by gaps -/
structure Gp where
  h : Nat
  o : Bool
def zeroG : Gp := ⟨0, false⟩
def gg (l : List Gp) (i : Nat) : Gp := l.getD i zeroG
theorem gg_of {l : List Gp} {i : Nat} (h : i < l.length) : gg l i = l[i] := by
  unfold gg
  rw [List.getD_eq_getElem?_getD, List.getElem?_eq_getElem h]
  rfl
def hopI (g : Gp) : Int := ((g.h % 8192 : Nat) : Int) * 3600000000000
def lpI (a : Int) (g : Gp) : Lp := ⟨a + hopI g, if g.o then -1 else 1⟩
def endI (a : Int) : List Gp → Int
  | [] => a
  | g :: l => endI (a + hopI g + 2 * dayI) l
def mkL (a : Int) : List Gp → List Lp
  | [] => []
  | g :: l => lpI a g :: mkL (a + hopI g + 2 * dayI) l
theorem end_app : ∀ (a : Int) (l : List Gp) (g : Gp), endI a (l ++ [g]) = endI a l + hopI g + 2 * dayI
  | _, [], _ => rfl
  | _, _ :: l, g => end_app _ l g
theorem mk_app : ∀ (a : Int) (l : List Gp) (g : Gp), mkL a (l ++ [g]) = mkL a l ++ [lpI (endI a l) g]
  | _, [], _ => rfl
  | a, x :: l, g => by
    show lpI a x :: mkL _ (l ++ [g]) = lpI a x :: (mkL _ l ++ [_])
    rw [mk_app]
    rfl
theorem hop_in (g : Gp) : 0 ≤ hopI g ∧ hopI g ≤ 8191 * 3600000000000 := by unfold hopI; omega
theorem end_in : ∀ (a : Int) (l : List Gp), a ≤ endI a l ∧ endI a l ≤ a + l.length * 29660400000000000
  | a, [] => by show a ≤ a ∧ a ≤ a + (0 : Nat) * _; omega
  | a, g :: l => by
    have ih := end_in (a + hopI g + 2 * dayI) l
    have := hop_in g
    show a ≤ endI _ l ∧ endI _ l ≤ _
    rw [List.length_cons, Int.natCast_succ, Int.add_mul]
    unfold dayI at *
    omega
theorem mk_len : ∀ (a : Int) (l : List Gp), (mkL a l).length = l.length
  | _, [] => rfl
  | _, _ :: l => by show (mkL _ l).length + 1 = l.length + 1; rw [mk_len]
theorem mk_mem : ∀ {a : Int} {l : List Gp} {x : Lp}, x ∈ mkL a l → a ≤ x.t ∧ x.t ≤ endI a l ∧ (x.k = 1 ∨ x.k = -1)
  | a, g :: l, x, h => by
    have hg := hop_in g
    have e := (end_in (a + hopI g + 2 * dayI) l).1
    rcases List.mem_cons.1 h with rfl | h
    · refine ⟨by show a ≤ a + hopI g; omega, ?_, ?_⟩
      · show a + hopI g ≤ endI _ l
        unfold dayI at e
        unfold dayI
        omega
      · show (if g.o then (-1 : Int) else 1) = 1 ∨ (if g.o then (-1 : Int) else 1) = -1
        cases g.o
        · exact .inl rfl
        · exact .inr rfl
    · have ih := mk_mem h
      refine ⟨by have := ih.1; unfold dayI at this; omega, ih.2.1, ih.2.2⟩
theorem mk_gap : ∀ (a : Int) (l : List Gp), GapL (mkL a l)
  | _, [] => trivial
  | _, [_] => trivial
  | a, g :: g2 :: l => by
    have := hop_in g2
    exact ⟨by show a + hopI g + 2 * dayI ≤ a + hopI g + 2 * dayI + hopI g2; omega, mk_gap _ (g2 :: l)⟩
theorem mk_ok {l : List Gp} (h : l.length ≤ 32) : OkL (mkL dayI l) := by
  refine ⟨fun y hy => ?_, mk_gap _ _⟩
  have m := mk_mem hy
  have e := (end_in dayI l).2
  have : (l.length : Int) * 29660400000000000 ≤ 32 * 29660400000000000 := Int.mul_le_mul_of_nonneg_right (by omega) (by decide)
  unfold dayI topI at *
  exact ⟨m.1, by omega, m.2.2⟩
end Go.Proofs.Ytpfbdpoileepoaa

