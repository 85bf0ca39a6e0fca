/- Layer 14 (timers): what the laws call alive. -/
import Derived.Test.YtbfmmeapjfljbaaTmL
set_option maxRecDepth 100000
namespace Go.Proofs.Ytbfmmeapjfljbaa
open Go.ChangeShapes Go.WideShapes Go.ChangeAt Go.RowKit Go.Maps HeapM

/-- A row of what fired, its cells. -/
theorem own_fd {w : World} {B n c : Nat} {p : Option Addr} {fs : List FdT} (h : OwnF w B p n c fs) (hn : 0 < n) : ∃ g, p = some ⟨g, 0, none⟩ ∧ fs.length = n ∧ n ≤ c ∧ ∀ i, i < n → ∀ j, j < 6 → w.cell? ⟨g, i * 6 + j, none⟩ = (sixF (gf fs i))[j]? := by
  have hl := h.1
  rw [cellsF_len] at hl
  have ln : fs.length = n := by omega
  have hc := h
  unfold OwnF at hc
  rcases h.2 with ⟨e, e2⟩ | ⟨g, cap, cur, e, hb, hg, r⟩
  · injection e with e1 e2 e3; omega
  · injection e with e1 e2 e3
    subst e1 e3
    refine ⟨g, rfl, ln, r.1, fun i hi j hj => ?_⟩
    have q := cellsF_get fs i (by omega) j hj
    obtain ⟨u, hu⟩ : ∃ u, (sixF (gf fs i))[j]? = some u := ⟨_, List.getElem?_eq_getElem (by show j < 6; exact hj)⟩
    rw [hu] at q ⊢
    have := World.ownsRow.cells hc (g := g) rfl (i * 6 + j) u q
    have hadd : (⟨g, 0, none⟩ : Addr).add (i * 6 + j) = ⟨g, i * 6 + j, none⟩ := by unfold Addr.add; split <;> simp_all
    rw [hadd] at this
    exact this

set_option maxHeartbeats 4000000 in
theorem alive14_any (w : World) : Calls Try.prog 9 #[] w fun e w' => e = .returned (.bool true) ∧ Below w.heap.size w w' := by
  have N0 := Lib.hid (pnew14 w w (Below.refl _ _))
  have b5 : I64 5 ∧ I64 125 := by unfold I64; omega
  have B5 := Lib.hid b5
  clear b5
  go_enter Try.func9, Try.ntmps9
  go_wp2_with fail
  refine N0.out.mono ?_; rintro r0 w0 ⟨N, rfl, T0⟩
  have T0 := Lib.hid T0
  clear N0
  go_wp2_with fail
  refine (T0.out.add false 5 0 (by decide) (by decide) (by decide) (by decide) (by decide) (by decide)).mono ?_; rintro r1 w1 ⟨rfl, T1⟩
  have T1 := Lib.hid T1
  clear T0
  go_wp2_with fail
  refine (T1.out.add true 100 10 (by decide) (by decide) (by decide) (by decide) (by decide) (by decide)).mono ?_; rintro r1 w2 ⟨rfl, T2⟩
  have T2 := Lib.hid T2
  clear T1
  go_wp2_with fail
  refine (T2.out.add false 3 0 (by decide) (by decide) (by decide) (by decide) (by decide) (by decide)).mono ?_; rintro r1 w3 ⟨rfl, T3⟩
  have T3 := Lib.hid T3
  clear T2
  go_wp2_with fail
  refine (T3.out.row.fire 5 125 B5.out.1 B5.out.2).mono ?_; rintro r4 w4 ⟨p, n, c, ds0, m0, ds1, m1, FA⟩
  obtain ⟨e1, e2, e3, ⟨e4, e5⟩, e6⟩ := alive_fired (ds0 := ds0) (m0 := m0) (ds1 := ds1) (m1 := m1) FA.d0 FA.d1
  have NR := FA.new
  rw [show ds0.map (fireS (addS (addS (addS noT false 5 0) true 100 10) false 3 0) false (min 5 topT)) ++ ds1.map (fireS (addS (addS (addS noT false 5 0) true 100 10) false 3 0) true (min 125 topT)) = _ from e1] at NR
  have hn := FA.hn
  have hr := FA.r
  rw [e2] at hn
  subst hn
  obtain ⟨g, rfl, -, hc, hcell⟩ := own_fd NR.own (by decide)
  subst hr
  have c0 := hcell 0 (by decide) 0 (by decide)
  have c4 := hcell 0 (by decide) 4 (by decide)
  have c6 := hcell 1 (by decide) 0 (by decide)
  have c10 := hcell 1 (by decide) 4 (by decide)
  have c12 := hcell 2 (by decide) 0 (by decide)
  have c16 := hcell 2 (by decide) 4 (by decide)
  have c17 := hcell 2 (by decide) 5 (by decide)
  have KC : Hid (∀ w', Below w4.heap.size w4 w' → w'.cell? ⟨g, 0, none⟩ = some (.int .u64 3) ∧ w'.cell? ⟨g, 4, none⟩ = some (.int .i64 2) ∧ w'.cell? ⟨g, 6, none⟩ = some (.int .u64 1) ∧ w'.cell? ⟨g, 10, none⟩ = some (.int .i64 0) ∧ w'.cell? ⟨g, 12, none⟩ = some (.int .u64 2) ∧ w'.cell? ⟨g, 16, none⟩ = some (.int .i64 25) ∧ w'.cell? ⟨g, 17, none⟩ = some (.int .i64 2)) := fun w' b => by
    have q : ∀ o u, w4.cell? ⟨g, o, none⟩ = some u → w'.cell? ⟨g, o, none⟩ = some u := fun o u h => (b.cell (World.block_lt_of_cell? w4 _ h)).trans h
    exact ⟨q _ _ c0, q _ _ c4, q _ _ c6, q _ _ c10, q _ _ c12, q _ _ c16, q _ _ c17⟩
  have T5 := Lib.hid NR.tat
  obtain ⟨S5, hS5⟩ : ∃ S, (((addS (addS (addS noT false 5 0) true 100 10) false 3 0).putL false m0).putL true m1) = S := ⟨_, rfl⟩
  have L0 : Hid (S5.l false = [] ∧ S5.l true = m1) := by
    unfold Hid
    rw [← hS5, putL_same, show ((addS (addS (addS noT false 5 0) true 100 10) false 3 0).putL false m0 |>.putL true m1).l false = ((addS (addS (addS noT false 5 0) true 100 10) false 3 0).putL false m0).l false from putL_other _ true m1, putL_same]
    exact ⟨e3, rfl⟩
  rw [hS5] at T5
  have N1 := Lib.hid (T5.out.next true)
  rw [L0.out.2, e5, decide_eq_true e4] at N1
  have hc3 : (3 : Int) ≤ (c : Int) := by omega
  have CN : Hid (∀ k, 1 ∉ (S5.l k).map It.id) := fun k q => by
    obtain ⟨y, hy, e⟩ := List.mem_map.1 q
    cases k
    · rw [L0.out.1] at hy; cases hy
    · rw [L0.out.2] at hy
      have := e6 y hy
      omega
  clear T3 FA e1 e2 e3 e4 e5 e6 NR hcell c0 c4 c6 c10 c12 c16 c17 hS5 hc
  go_wp2_with fail
  refine N1.out.mono ?_; rintro r5 w5 ⟨rfl, l5⟩
  have T6 := Lib.hid (T5.out.below l5)
  have L5 := Lib.hid l5
  have N2 := Lib.hid (T6.out.next false)
  rw [L0.out.1] at N2
  clear T5 N1 l5
  go_wp2_with fail
  refine N2.out.mono ?_; rintro r6 w6 ⟨rfl, l6⟩
  have T7 := Lib.hid (T6.out.below l6)
  have L6 := Lib.hid (L5.out.trans (l6.mono L5.out.size))
  obtain ⟨c0, c4, c6, c10, c12, c16, c17⟩ := KC.out _ L6.out
  have CC := Lib.hid (T7.out.cancel_none 1 (by decide) CN.out)
  clear T6 N2 l6 L5 L6 KC CN L0
  go_wp2_with fail
  refine CC.out.mono ?_; rintro r7 w7 ⟨rfl, l7⟩
  have L7 := Lib.hid (T7.out.below l7).low
  clear T7 CC l7
  go_wp2
  go_ret
  exact ⟨rfl, L7.out⟩
end Go.Proofs.Ytbfmmeapjfljbaa
