/- Layer 10 (scale): after: what becomes of a scale when so many ticks more go. -/
import Derived.Test.YtccfimempjbnfaaScaleA
import Derived.Deep.DeepCutAuto
set_option maxRecDepth 100000
namespace Go.Proofs.Ytccfimempjbnfaa
open Go.ChangeShapes Go.WideShapes Go.ChangeAt Go.RowKit ScaleM

theorem two_blocks (w : World) (c d : Array Value) (T U : TypeId) :
    Below w.heap.size w ((w.alloc (.cells c T)).alloc (.cells d U)) ∧ ((w.alloc (.cells c T)).alloc (.cells d U)).heap[w.heap.size]? = some (.cells c T (0, 0)) ∧ ((w.alloc (.cells c T)).alloc (.cells d U)).heap[w.heap.size + 1]? = some (.cells d U (0, 0)) ∧ ((w.alloc (.cells c T)).alloc (.cells d U)).heap.size = w.heap.size + 1 + 1 := by
  have B1 : Below w.heap.size w (w.alloc (.cells c T)) := (Below.refl _ _).alloc (Nat.le_refl _) _
  have C1 : (w.alloc (.cells c T)).heap[w.heap.size]? = some (.cells c T (0, 0)) := heap_alloc_new w _
  have s1 : (w.alloc (.cells c T)).heap.size = w.heap.size + 1 := by simp
  generalize w.alloc (.cells c T) = u at *
  have C2 := heap_alloc_new u (.cells d U)
  rw [s1] at C2
  have B2 : Below u.heap.size u (u.alloc (.cells d U)) := (Below.refl _ _).alloc (Nat.le_refl _) _
  exact ⟨B1.trans (B2.mono B1.size), (B2.block _ (by omega)).trans C1, C2, by simp [s1]⟩

/-- What becomes of a scale, as a value. -/
def AfterP (w : World) (h t r : Nat) (e : Ending) (w' : World) : Prop := e = .returned (.agg #[.int .u64 (h : Nat), .int .i64 (t : Nat), .int .u64 (r : Nat)]) ∧ Below w.heap.size w w'

theorem two_set {w : World} {N : Nat} {a b : Value} {T : TypeId} (h : w.heap[N]? = some (.cells #[a, b] T (0, 0))) (x y : Value) : ((w.setCell ⟨N, 0, none⟩ x).setCell ⟨N, 1, none⟩ y).heap[N]? = some (.cells #[x, y] T (0, 0)) :=
  blk_set (blk_set h)
theorem three_set {w : World} {N : Nat} {a b c : Value} {T : TypeId} (h : w.heap[N]? = some (.cells #[a, b, c] T (0, 0))) (x y z : Value) : (((w.setCell ⟨N, 0, none⟩ x).setCell ⟨N, 1, none⟩ y).setCell ⟨N, 2, none⟩ z).heap[N]? = some (.cells #[x, y, z] T (0, 0)) :=
  blk_set (blk_set (blk_set h))

structure Third (t d q t2 r2 rr : Nat) : Prop where
  l : q < d
  e1 : t2 = t + q
  h : t + d = 4611686018427387904
  e2 : r2 = rr

set_option maxHeartbeats 4000000 in
theorem pafter10_core (w : World) (h t r x hi lo s c g q rr d t2 r2 : Nat) (hx : x < 18446744073709551616) (eh : x * 1000000000 / 18446744073709551616 = hi) (el : x * 1000000000 % 18446744073709551616 = lo)
    (es : (lo + r) % 18446744073709551616 = s) (ec : (lo + r) / 18446744073709551616 = c) (eg : hi + c = g) (gb : g < 18446744073709551616) (hh : h < 18446744073709551616) (hd : t + d = 4611686018427387904)
    (cs : (h ≤ g ∧ t2 = 4611686018427387904 ∧ r2 = 0) ∨ (g < h ∧ (g * 18446744073709551616 + s) / h = q ∧ (g * 18446744073709551616 + s) % h = rr ∧ ((d ≤ q ∧ t2 = 4611686018427387904 ∧ r2 = 0) ∨ (q < d ∧ t2 = t + q ∧ r2 = rr)))) :
    Calls Try.prog 22 #[.agg #[.int .u64 (h : Nat), .int .i64 (t : Nat), .int .u64 (r : Nat)], .int .u64 (x : Nat)] w (AfterP w h t2 r2) := by
  obtain ⟨l0, b1, b2, -⟩ := two_blocks w #[.int .u64 (h : Nat), .int .i64 (t : Nat), .int .u64 (r : Nat)] #[.int .u64 0, .int .i64 0, .int .u64 0] 40 40
  have sb : s < 18446744073709551616 := by omega
  have PR := Lib.hid (fun V w' (hb : Below V.heap.size V w') => show Calls Try.prog 30 #[.int .u64 (x : Nat), .int .u64 1000000000] w' fun e w'' => e = .returned (.agg #[.int .u64 (hi : Nat), .int .u64 (lo : Nat)]) ∧ Below V.heap.size V w'' ∧ (∀ (M : Nat) (o : Obj), w'.heap[M]? = some o → w''.heap[M]? = some o) from
    (pproduct10_any w' x 1000000000 hi lo hx (by decide) eh el).mono fun e w'' ⟨a, b⟩ => ⟨a, hb.trans (b.mono hb.size), fun M o h => (b.block M (Array.getElem?_eq_some_iff.1 h).1).trans h⟩)
  have PL := Lib.hid (fun V w' (hb : Below V.heap.size V w') => show Calls Try.prog 31 #[.agg #[.int .u64 (hi : Nat), .int .u64 (lo : Nat)], .int .u64 (r : Nat)] w' fun e w'' => e = .returned (.agg #[.int .u64 (g : Nat), .int .u64 (s : Nat)]) ∧ Below V.heap.size V w'' ∧ (∀ (M : Nat) (o : Obj), w'.heap[M]? = some o → w''.heap[M]? = some o) from
    (pplus10_any w' hi lo r s c g es ec eg gb).mono fun e w'' ⟨a, b⟩ => ⟨a, hb.trans (b.mono hb.size), fun M o h => (b.block M (Array.getElem?_eq_some_iff.1 h).1).trans h⟩)
  have FU := Lib.hid (fun V w' (hb : Below V.heap.size V w') => show Calls Try.prog 29 #[.int .u64 (h : Nat)] w' fun e w'' => e = .returned (.agg #[.int .u64 (h : Nat), .int .i64 4611686018427387904, .int .u64 0]) ∧ Below V.heap.size V w'' from
    (pfull10_any w' h).mono fun e w'' ⟨a, b⟩ => ⟨a, hb.trans (b.mono hb.size)⟩)
  have DV := Lib.hid (fun (w' : World) (h1 : g < h) (hq : (g * 18446744073709551616 + s) / h = q) (hr : (g * 18446744073709551616 + s) % h = rr) => div64_of g s h q rr h1 sb hh hq hr w')
  have CS := Lib.hid cs
  have HD := Lib.hid hd
  have HH := Lib.hid hh
  clear hx eh el es ec eg gb cs hd hh sb
  go_enter Try.func22, Try.ntmps22
  go_upto_region 1 with (fail)
  generalize (w.alloc (.cells #[.int .u64 (h : Nat), .int .i64 (t : Nat), .int .u64 (r : Nat)] 40)).alloc (.cells #[.int .u64 0, .int .i64 0, .int .u64 0] 40) = v at *
  go_upto_region 1 with (fail)
  go_cut [5] (fun o wx => ∃ N, o = .pointer (some ⟨N, 0, none⟩) ∧ Hid (wx.heap[N]? = some (.cells #[.int .u64 (g : Nat), .int .u64 (s : Nat)] 57 (0, 0)) ∧ Below v.heap.size v wx))
  case first =>
    have HB0 : Below v.heap.size v v := Below.refl _ _
    have KK : Hid (∀ w', Below v.heap.size v w' → w'.cell? ⟨w.heap.size, 2, none⟩ = some (.int .u64 (r : Nat))) := fun w' hb => by
      have c2 : v.cell? ⟨w.heap.size, 2, none⟩ = some (.int .u64 (r : Nat)) := blk_cell b1
      exact (hb.cell (World.block_lt_of_cell? _ _ c2)).trans c2
    go_wp2_with fail
    go_region_held3 (fun w' => w'.cell? ⟨w.heap.size, 2, none⟩ = some (.int .u64 (r : Nat)))
      (first | exact KK.out _ HB0 | exact KK.out _ HB0.drew | exact KK.out _ (HB0.alloc HB0.size _) | exact KK.out _ (HB0.alloc HB0.size _).drew | exact KK.out _ ((HB0.setCell (Nat.le_refl _) _).setCell (Nat.le_refl _) _) | exact KK.out _ ((HB0.setCell HS _).setCell HS _))
      (first
        | (go_at_call 30; refine (PR.out _ _ (by first | exact HB0 | exact HB0.drew | exact HB0.alloc HB0.size _ | exact (HB0.alloc HB0.size _).drew)).mono ?_; rintro e w4 ⟨rfl, HB0, kp⟩; have HS := HB0.size; try (have KA : w4.heap[v.heap.size]? = some (.cells #[.int .u64 0, .int .u64 0] 57 (0, 0)) := kp _ _ (heap_alloc_new _ _)))
        | (go_at_call 31; refine (PL.out _ _ (by first | exact HB0 | exact HB0.drew | exact HB0.alloc HB0.size _ | exact (HB0.alloc HB0.size _).drew)).mono ?_; rintro e w5 ⟨rfl, HB0, kp⟩; try (first | have KA := kp _ _ KA | have KA : w5.heap[w4.heap.size]? = some (.cells #[.int .u64 0, .int .u64 0] 57 (0, 0)) := kp _ _ (heap_alloc_new _ _)); try (have F0 := blk_free (o := 0) KA; have F1 := blk_free (o := 1) KA; have C0 := blk_cell (o := 0) KA; have C1 := blk_cell (o := 1) KA)))
    all_goals
      go_wp2_with fail
      go_meet
      first
        | exact ⟨_, rfl, heap_alloc_new _ _, HB0.alloc HB0.size _⟩
        | exact ⟨_, rfl, two_set KA _ _, (HB0.setCell (Nat.le_refl _) _).setCell (Nat.le_refl _) _⟩
        | exact ⟨_, rfl, two_set KA _ _, (HB0.setCell HS _).setCell HS _⟩
  case rest =>
  obtain ⟨N, rfl, H⟩ := hcut
  have C0 : wc.cell? ⟨N, 0, none⟩ = some (.int .u64 (g : Nat)) := blk_cell H.out.1
  have C1 : wc.cell? ⟨N, 1, none⟩ = some (.int .u64 (s : Nat)) := blk_cell H.out.1
  have B1 : Hid (wc.heap[w.heap.size]? = some (.cells #[.int .u64 (h : Nat), .int .i64 (t : Nat), .int .u64 (r : Nat)] 40 (0, 0))) := (H.out.2.block _ (Array.getElem?_eq_some_iff.1 b1).1).trans b1
  have B2 : Hid (wc.heap[w.heap.size + 1]? = some (.cells #[.int .u64 0, .int .i64 0, .int .u64 0] 40 (0, 0))) := (H.out.2.block _ (Array.getElem?_eq_some_iff.1 b2).1).trans b2
  have LX : Hid (Below w.heap.size w wc) := l0.trans (H.out.2.mono l0.size)
  have D0 : wc.cell? ⟨w.heap.size, 0, none⟩ = some (.int .u64 (h : Nat)) := blk_cell B1.out
  have D1 : wc.cell? ⟨w.heap.size, 1, none⟩ = some (.int .i64 (t : Nat)) := blk_cell B1.out
  clear H l0 b1 b2 PR PL
  have FULL : Hid (t2 = 4611686018427387904 → r2 = 0 → ∀ w', Below wc.heap.size wc w' → w'.heap[w.heap.size + 1]? = some (.cells #[.int .u64 0, .int .i64 0, .int .u64 0] 40 (0, 0)) ∧ AfterP w h t2 r2 (.returned (.agg #[.int .u64 (h : Nat), .int .i64 4611686018427387904, .int .u64 0])) (((w'.setCell ⟨w.heap.size + 1, 0, none⟩ (.int .u64 (h : Nat))).setCell ⟨w.heap.size + 1, 1, none⟩ (.int .i64 4611686018427387904)).setCell ⟨w.heap.size + 1, 2, none⟩ (.int .u64 0))) := fun e1 e2 w' hb => by
    refine ⟨(hb.block _ (Array.getElem?_eq_some_iff.1 B2.out).1).trans B2.out, by rw [e1, e2]; rfl, ?_⟩
    exact (((LX.out.trans (hb.mono LX.out.size)).setCell (Nat.le_succ _) _).setCell (Nat.le_succ _) _).setCell (Nat.le_succ _) _
  rcases CS.out with ⟨hg, e1, e2⟩ | ⟨hg, hq, hr, ⟨hl, e1, e2⟩ | ⟨hl, e1, e2⟩⟩
  · have HG : (h : Int) ≤ (g : Int) := by omega
    have FF := Lib.hid (FULL.out e1 e2)
    clear hg e1 e2 CS DV FULL HD HH
    go_wp2_with fail
    refine (FU.out wc _ (Below.refl _ _)).mono ?_; rintro e w9 ⟨rfl, hb⟩
    have K := Lib.hid (FF.out w9 hb)
    have F0 := blk_free (o := 0) K.out.1
    have F1 := blk_free (o := 1) K.out.1
    have F2 := blk_free (o := 2) K.out.1
    have G0 := blk_cell (o := 0) K.out.1
    have G1 := blk_cell (o := 1) K.out.1
    have G2 := blk_cell (o := 2) K.out.1
    clear hb FF
    go_wp2
    refine bodyPost_ret (results_cell_row rfl _ _ (w.heap.size + 1) _ _ (0, 0) _ rfl (three_set K.out.1 _ _ _) Try.underlying40 rfl (by kernel_rfl)) rfl ?_
    exact K.out.2
  · have HG : (g : Int) < (h : Int) := by omega
    have DD : (4611686018427387904 : Int) - (t : Int) = (d : Int) := by have := HD.out; omega
    have DW : IntKind.u64.wrap (d : Int) = (d : Int) := by rw [IntKind.wrap_u64]; have := HD.out; omega
    have DI : IntKind.i64.wrap (d : Int) = (d : Int) := by rw [IntKind.wrap_i64]; have := HD.out; omega
    have HL : (d : Int) ≤ (q : Int) := by omega
    have FF := Lib.hid (FULL.out e1 e2)
    have DV1 := Lib.hid (DV.out wc hg hq hr)
    clear hg e1 e2 CS DV FULL HD HH hq hr hl
    go_wp2_with fail
    refine DV1.out.mono ?_; rintro e w8 ⟨rfl, n, rfl⟩
    go_wp2_with fail
    refine (FU.out wc _ (below_drewN (Below.refl _ _) n)).mono ?_; rintro e w9 ⟨rfl, hb⟩
    have K := Lib.hid (FF.out w9 hb)
    have F0 := blk_free (o := 0) K.out.1
    have F1 := blk_free (o := 1) K.out.1
    have F2 := blk_free (o := 2) K.out.1
    have G0 := blk_cell (o := 0) K.out.1
    have G1 := blk_cell (o := 1) K.out.1
    have G2 := blk_cell (o := 2) K.out.1
    clear hb FF DV1
    go_wp2
    refine bodyPost_ret (results_cell_row rfl _ _ (w.heap.size + 1) _ _ (0, 0) _ rfl (three_set K.out.1 _ _ _) Try.underlying40 rfl (by kernel_rfl)) rfl ?_
    exact K.out.2
  · have HG : (g : Int) < (h : Int) := by omega
    have CA := Lib.hid (⟨hl, e1, HD.out, e2⟩ : Third t d q t2 r2 rr)
    have DV1 := Lib.hid (DV.out wc hg hq hr)
    clear hg e1 e2 CS DV FULL FU HD HH hq hr hl
    go_wp2_with fail
    refine DV1.out.mono ?_; rintro e w8 ⟨rfl, n, rfl⟩
    obtain ⟨hl, e1, hd, e2⟩ := CA.out
    have DD : (4611686018427387904 : Int) - (t : Int) = (d : Int) := by omega
    have DW : IntKind.u64.wrap (d : Int) = (d : Int) := by rw [IntKind.wrap_u64]; omega
    have DI : IntKind.i64.wrap (d : Int) = (d : Int) := by rw [IntKind.wrap_i64]; omega
    have HL : decide ((d : Int) ≤ (q : Int)) = false := decide_eq_false (by omega)
    have HL3 : decide (d ≤ q) = false := decide_eq_false (by omega)
    have TQ : (t : Int) + (q : Int) = (t2 : Int) := by omega
    have TW : IntKind.i64.wrap (t2 : Int) = (t2 : Int) := by rw [IntKind.wrap_i64]; omega
    have QW : IntKind.i64.wrap (q : Int) = (q : Int) := by rw [IntKind.wrap_i64]; omega
    have E2 := Lib.hid e2
    clear hl e1 hd e2
    have K : Hid ((wc.drewN n).heap[w.heap.size + 1]? = some (.cells #[.int .u64 0, .int .i64 0, .int .u64 0] 40 (0, 0))) := B2.out
    have LN : Hid (Below w.heap.size w (wc.drewN n)) := below_drewN LX.out n
    have F0 := blk_free (o := 0) K.out
    have F1 := blk_free (o := 1) K.out
    have F2 := blk_free (o := 2) K.out
    have G0 := blk_cell (o := 0) K.out
    have G1 := blk_cell (o := 1) K.out
    have G2 := blk_cell (o := 2) K.out
    clear DV1
    go_wp2
    refine bodyPost_ret (results_cell_row rfl _ _ (w.heap.size + 1) _ _ (0, 0) _ rfl (three_set K.out _ _ _) Try.underlying40 rfl (by kernel_rfl)) rfl ?_
    exact ⟨by rw [E2.out], ((LN.out.setCell (Nat.le_succ _) _).setCell (Nat.le_succ _) _).setCell (Nat.le_succ _) _⟩
end Go.Proofs.Ytccfimempjbnfaa
