/- Slices of extension fields (a type, bytes behind a slice of their own): for layers 5, 7 and on. -/
import Derived.Test.YteclcefeipjoeaaSlice
import Derived.Test.YteclcefeipjoeaaOctX
import Derived.LoopTactic
namespace Go.Proofs.Yteclcefeipjoeaa
open Go.ChangeShapes Go.WideShapes Go.ChangeAt Go.RowKit OctM

/-- A field as it lies: its type, where its bytes lie, its bytes. -/
structure Fld where
  ty : Nat
  p : Option Addr
  n : Nat
  c : Nat
  ds : List Nat
structure HoldsX (w : World) (p : Option Addr) (n c : Nat) (fs : List Fld) : Prop where
  len : fs.length = n
  cap : n ≤ c
  max : c ≤ maxLen
  bare : p = none → c = 0
  cell : ∀ i f, fs[i]? = some f → ∃ a, p = some a ∧ w.cell? (a.add (i * 2)) = some (.int .u16 (f.ty : Nat)) ∧ w.cell? (a.add (i * 2 + 1)) = some (.slice f.p f.n f.c) ∧ Holds w f.p f.n f.c (valsN .u8 f.ds)
def FldsOk (fs : List Fld) : Prop := ∀ f ∈ fs, f.ty < 65536 ∧ Byt f.ds
/-- what they say: types and bytes. -/
abbrev Says := List (Nat × List Nat)
def says (fs : List Fld) : Says := fs.map fun f => (f.ty, f.ds)
theorem HoldsX.below {w w' : World} {p : Option Addr} {n c : Nat} {fs : List Fld} (h : HoldsX w p n c fs) (hb : Below w.heap.size w w') : HoldsX w' p n c fs := by
  refine ⟨h.len, h.cap, h.max, h.bare, fun i f hf => ?_⟩
  obtain ⟨a, ha, c1, c2, hh⟩ := h.cell i f hf
  exact ⟨a, ha, (hb.cell (World.block_lt_of_cell? w _ c1)).trans c1, (hb.cell (World.block_lt_of_cell? w _ c2)).trans c2, hh.below hb⟩
theorem fld_next (a : Addr) (x : Nat) : (⟨(a.add x).block, (a.add x).off + 1, none⟩ : Addr) = a.add (x + 1) := by
  unfold Addr.add
  by_cases h : x = 0
  · subst h; simp
  · rw [if_neg h, if_neg (by omega)]
    simp [Nat.add_assoc]
/-- A field at its place, in the walk's own words. -/
theorem HoldsX.at {w : World} {p : Option Addr} {n c : Nat} {fs : List Fld} (h : HoldsX w p n c fs) {i : Nat} (hi : i < n) : ∃ a f, p = some a ∧ fs[i]? = some f ∧ w.cell? (a.add (i * 2)) = some (.int .u16 (f.ty : Nat)) ∧ w.cell? ⟨(a.add (i * 2)).block, (a.add (i * 2)).off + 1, none⟩ = some (.slice f.p f.n f.c) ∧ Holds w f.p f.n f.c (valsN .u8 f.ds) := by
  have hf : fs[i]? = some (fs[i]'(by rw [h.len]; exact hi)) := List.getElem?_eq_getElem _
  obtain ⟨a, ha, c1, c2, hh⟩ := h.cell i _ hf
  exact ⟨a, _, ha, hf, c1, by rw [fld_next]; exact c2, hh⟩

/-- may a field's data have so many bytes? -/
def longN (n : Nat) : Prop := 12 ≤ n ∧ n ≤ 464 ∧ n % 4 = 0
instance (n : Nat) : Decidable (longN n) := by unfold longN; exact inferInstance
def mayX (l : Says) : Prop := (∀ x ∈ l, longN x.2.length) ∧ l.length ≤ 8
instance (l : Says) : Decidable (mayX l) := by unfold mayX; exact inferInstance
/-- a field's bytes. -/
def bytesF (x : Nat × List Nat) : List Nat := [x.1 / 256, x.1 % 256, (x.2.length + 4) / 256, (x.2.length + 4) % 256] ++ x.2
def bytesX (l : Says) : List Nat := l.flatMap bytesF

theorem rlong5_any (w : World) (n : Nat) (hn : n < 9223372036854775808) :
    Calls Try.prog 33 #[.int .i64 n] w fun e w' => e = .returned (.bool (decide (longN n))) ∧ w = w' := by
  have FIN : ∀ b, (b = true ↔ longN n) → decide (longN n) = b := fun b hb => by
    rw [Bool.eq_iff_iff, decide_eq_true_iff]; exact hb.symm
  by_cases h1 : 12 ≤ n
  · have g1 : decide ((12 : Int) ≤ (n : Int)) = true := by simp; omega
    have g2 : decide (12 ≤ n) = true := by simp; omega
    by_cases h2 : n ≤ 464
    · have g3 : decide ((n : Int) ≤ 464) = true := by simp; omega
      have g4 : decide (n ≤ 464) = true := by simp; omega
      obtain ⟨m, hm⟩ : ∃ m : Nat, m = n % 4 := ⟨_, rfl⟩
      obtain ⟨b, hb⟩ : ∃ b, b = ((m : Int) == 0) := ⟨_, rfl⟩
      have e := FIN b (by rw [hb, beq_iff_eq]; unfold longN; omega)
      rw [e]
      have e4 : (n : Int) % 4 = (m : Int) := by omega
      have e6 : (n : Int).tmod 4 = (m : Int) := by rw [Int.tmod_eq_emod_of_nonneg (by omega)]; exact e4
      have hb' := hb.symm
      clear e FIN hm h1 h2 hn hb
      go_enter Try.func33, Try.ntmps33
      go_wp2
      go_ret
      exact ⟨rfl, rfl⟩
    · have g3 : decide ((n : Int) ≤ 464) = false := by simp; omega
      have g4 : decide (n ≤ 464) = false := by simp; omega
      have e := FIN false (by unfold longN; simp; omega)
      rw [e]
      clear e FIN h1 h2 hn
      go_enter Try.func33, Try.ntmps33
      go_wp2
      go_ret
      exact ⟨rfl, rfl⟩
  · have g1 : decide ((12 : Int) ≤ (n : Int)) = false := by simp; omega
    have g2 : decide (12 ≤ n) = false := by simp; omega
    have e := FIN false (by unfold longN; simp; omega)
    rw [e]
    clear e FIN h1 hn
    go_enter Try.func33, Try.ntmps33
    go_wp2
    go_ret
    exact ⟨rfl, rfl⟩
end Go.Proofs.Yteclcefeipjoeaa
