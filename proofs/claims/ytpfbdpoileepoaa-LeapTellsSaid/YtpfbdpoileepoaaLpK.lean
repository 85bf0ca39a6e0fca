/- Layer 16 (leap), work ahead: a list that is told, while it is written: from k on it holds what it held. -/
import Derived.Test.YtpfbdpoileepoaaLpJ
set_option maxRecDepth 100000
namespace Go.Proofs.Ytpfbdpoileepoaa
open Go.ChangeShapes Go.WideShapes Go.ChangeAt Go.RowKit SmM

structure LsS (B : Nat) (w wr : World) (p : Option Addr) (n : Nat) (l : List Lp) (k : Nat) : Prop where
  low : Below B w wr
  row : k < n → ∃ g cur, p = some ⟨g, 0, none⟩ ∧ B ≤ g ∧ wr.heap[g]? = some (.cells cur 33 (0, 0)) ∧ ∀ j, k ≤ j → j < n → cur[j * 2]? = some (.int .i64 (gl l j).t) ∧ cur[j * 2 + 1]? = some (.int .i64 (gl l j).k)
theorem LsS.next {B : Nat} {w wr : World} {p : Option Addr} {n : Nat} {l : List Lp} {k : Nat} (h : LsS B w wr p n l k) {g : Nat} (hp : p = some ⟨g, 0, none⟩) (hB : B ≤ g) (z : Int) : LsS B w (wr.setCell ⟨g, k * 2, none⟩ (.int .i64 z)) p n l (k + 1) := by
  refine ⟨h.low.setCell hB _, fun hk => ?_⟩
  obtain ⟨g', cur, hp', hB', hg, hj⟩ := h.row (by omega)
  rw [hp] at hp'
  injection hp' with hp'
  injection hp' with hp'
  subst hp'
  refine ⟨g, _, hp, hB, blk_set hg, fun j hkj hjn => ?_⟩
  obtain ⟨ha, hb⟩ := hj j (by omega) hjn
  constructor
  · rw [Array.set!_eq_setIfInBounds, Array.getElem?_setIfInBounds, if_neg (by omega)]; exact ha
  · rw [Array.set!_eq_setIfInBounds, Array.getElem?_setIfInBounds, if_neg (by omega)]; exact hb
theorem LsS.at {B : Nat} {w wr : World} {p : Option Addr} {n : Nat} {l : List Lp} {k : Nat} (h : LsS B w wr p n l k) (hk : k < n) :
    ∃ a, p = some a ∧ wr.cell? (a.add (k * 2)) = some (.int .i64 (gl l k).t) ∧ wr.cell? ⟨(a.add (k * 2)).block, (a.add (k * 2)).off + 1, none⟩ = some (.int .i64 (gl l k).k) ∧ wr.frozen? (a.add (k * 2)) = false ∧
      ∀ z, LsS B w (wr.setCell (a.add (k * 2)) (.int .i64 z)) p n l (k + 1) := by
  obtain ⟨g, cur, hp, hB, hg, hj⟩ := h.row hk
  obtain ⟨hx, hy⟩ := hj k (Nat.le_refl _) hk
  refine ⟨⟨g, 0, none⟩, hp, ?_⟩
  rw [add_zero']
  exact ⟨(blk_cell hg).trans hx, (blk_cell hg).trans hy, blk_free hg, fun z => h.next hp hB z⟩
theorem LsS.drewN {B : Nat} {w wr : World} {p : Option Addr} {n : Nat} {l : List Lp} {k : Nat} (h : LsS B w wr p n l k) (m : Nat) : LsS B w (wr.drewN m) p n l k := by
  refine ⟨below_drewN h.low m, fun hk => ?_⟩
  obtain ⟨g, cur, hp, hB, hg, hj⟩ := h.row hk
  exact ⟨g, cur, hp, hB, ((below_drewN (Below.refl wr.heap.size wr) m).block g (Array.getElem?_eq_some_iff.1 hg).1).trans hg, hj⟩
/-- It begins so. -/
theorem OwnL.lss {w : World} {B : Nat} {p : Option Addr} {n c : Nat} {l : List Lp} (h : OwnL w B p n c l) : LsS B w w p n l 0 := by
  refine ⟨Below.refl _ _, fun hk => ?_⟩
  have hl := h.1
  rw [cellsL_len] at hl
  have hc := h
  unfold OwnL at hc
  rcases h.2 with ⟨-, e2⟩ | ⟨g, cap, cur, e, hb, hg, h1, h2, h3, h4⟩
  · omega
  · injection e with e1 e2 e3
    subst e1 e3
    refine ⟨g, cur, rfl, hb, hg, fun j _ hj => ?_⟩
    obtain ⟨c1, c2⟩ := cellsL_get l j (by omega)
    have d1 := World.ownsRow.cells hc (g := g) rfl _ _ c1
    have d2 := World.ownsRow.cells hc (g := g) rfl _ _ c2
    rw [add_zero', blk_cell hg] at d1 d2
    exact ⟨d1, d2⟩
end Go.Proofs.Ytpfbdpoileepoaa
