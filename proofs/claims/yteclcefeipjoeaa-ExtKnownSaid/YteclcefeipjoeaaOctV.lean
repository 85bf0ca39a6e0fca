/- Layer 3 (octet): what each call answers, as functions of what is handed in; how it is told; and that the document's own answers tell it so. -/
import Derived.Test.YteclcefeipjoeaaOctT
import Derived.Test.YteclcefeipjoeaaOctU
namespace Go.Proofs.Yteclcefeipjoeaa
open Go.ChangeShapes Go.WideShapes Go.ChangeAt Go.RowKit OctM

def widE (zs : List Int) : Int := if okAll zs then 0 else 1
def widV (zs : List Int) : Int := if okAll zs then sumI zs else 0
def layE (zs : List Int) (xs : List Nat) : Int := if okAll zs ∧ xs.length = zs.length then (if fitT zs xs zs.length then 0 else 20) else 1
def layD (zs : List Int) (xs : List Nat) : List Nat := if (okAll zs ∧ xs.length = zs.length) ∧ fitT zs xs zs.length then layT zs xs zs.length else []
def takE (zs : List Int) (ds : List Nat) : Int := if okAll zs then (if (ds.length : Int) < sumI zs then 4 else 0) else 1
def takX (zs : List Int) (ds : List Nat) : List Nat := if okAll zs ∧ sumI zs ≤ (ds.length : Int) then takT zs ds zs.length else []
def takD (zs : List Int) (ds : List Nat) : List Nat := if okAll zs ∧ sumI zs ≤ (ds.length : Int) then ds.drop (atT zs zs.length) else []
def inP (n : Nat) (x z : Int) : Prop := okS z ∧ 0 ≤ x ∧ x + z ≤ (n : Int)
instance (n : Nat) (x z : Int) : Decidable (inP n x z) := by unfold inP; exact inferInstance
def atV (ds : List Nat) (x z : Int) : Nat := if inP ds.length x z then numN ((ds.drop x.toNat).take z.toNat) else 0
def putE (ds : List Nat) (x z : Int) (v : Nat) : Int := if okS z ∧ 0 ≤ x then (if v < 256 ^ z.toNat then (if x + z ≤ (ds.length : Int) then 0 else 4) else 20) else 1
def putD (ds : List Nat) (x z : Int) (v : Nat) : List Nat := if putE ds x z v = 0 then ds.take x.toNat ++ digN v z.toNat ++ ds.drop (x.toNat + z.toNat) else []
def sgE (n : Nat) (z : Int) : Int := if okS z then (if n < 256 ^ z.toNat then 0 else 20) else 1
def sgR (n : Nat) (z : Int) : Int := if sgE n z = 0 then sgV n z.toNat else 0
def unE (n : Int) (z : Int) : Int := if okS z then (if absM n < halfN z.toNat then 0 else 20) else 1
def unR (n : Int) (z : Int) : Nat := if unE n z = 0 then unV n z.toNat else 0

/-- New memory that holds the values vs: from block B on, not shut. -/
structure New (B : Nat) (w : World) (p : Option Addr) (n c : Nat) (vs : List Value) : Prop where
  holds : Holds w p n c vs
  base : ∀ a, p = some a → B ≤ a.block
  free : ∀ a, p = some a → ∀ i, i < n → w.frozen? (a.add i) = false

theorem own_new {w : World} {B : Nat} {T : TypeId} {v : Value} {n : Nat} {vs : List Value} (h : w.ownsRow B T 1 v n vs) : ∃ p c, v = .slice p n c ∧ New B w p n c vs := by
  obtain ⟨p, c, rfl, hh⟩ := own_holds h
  refine ⟨p, c, rfl, hh, fun a ha => ?_, fun a ha i _ => ?_⟩
  · exact (World.ownsRow.lt h a.block (by rw [ha]; rfl)).1
  · obtain ⟨-, ⟨e, -⟩ | ⟨g, cap, cur, e, -, hg, -⟩⟩ := h
    · injection e with e _ _
      rw [ha] at e
      cases e
    · injection e with e _ _
      rw [ha] at e
      injection e with e
      rw [e, add_zero']
      exact blk_free hg
theorem New.nil (B : Nat) (w : World) : New B w none 0 0 [] := ⟨Holds.nil _ _ _ (Nat.zero_le _) (fun _ => rfl), (fun a h => by cases h), (fun a h => by cases h)⟩

/-- A row of bytes and an error's number are told. -/
def RowR (w : World) (D : List Nat) (E : Int) (e : Ending) (w' : World) : Prop :=
  ∃ p c, e = .returned (.tuple #[.slice p D.length c, .int .i64 E]) ∧ New w.heap.size w' p D.length c (valsN .u8 D) ∧ Below w.heap.size w w'
/-- Numbers, bytes and an error's number are told. -/
def TakR (w : World) (X D : List Nat) (E : Int) (e : Ending) (w' : World) : Prop :=
  ∃ p c q d, e = .returned (.tuple #[.slice p X.length c, .slice q D.length d, .int .i64 E]) ∧ New w.heap.size w' p X.length c (valsN .u64 X) ∧ New w.heap.size w' q D.length d (valsN .u8 D) ∧ Below w.heap.size w w'

theorem rowR_nil {w w' : World} {E : Int} {e : Ending} (h : TellPost w (.returned (.tuple #[.slice none 0 0, .int .i64 E])) e w') : RowR w [] E e w' := ⟨none, 0, h.1, New.nil _ _, h.2⟩
theorem rowR_row {w w' : World} {n : Nat} {ds : List Nat} {e : Ending} (hn : ds.length = n) (h : RowPost w n ds e w') : RowR w ds 0 e w' := by
  obtain ⟨v, rfl, o, l⟩ := h.out
  rw [← hn] at o
  obtain ⟨p, c, rfl, nw⟩ := own_new o
  exact ⟨p, c, rfl, nw, l⟩

end Go.Proofs.Yteclcefeipjoeaa

