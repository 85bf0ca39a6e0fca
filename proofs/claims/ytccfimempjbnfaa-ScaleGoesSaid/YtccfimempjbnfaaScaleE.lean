/- Layer 10 (scale): the document's own: whole numbers as digits, New, Tick. -/
import Derived.Test.YtccfimempjbnfaaScaleB
import Derived.Test.YtccfimempjbnfaaTurn
import Derived.Test.YtccfimempjbnfaaBigI
set_option maxRecDepth 100000
namespace Go.Proofs.Ytccfimempjbnfaa
open Go.ChangeShapes Go.WideShapes Go.ChangeAt Go.RowKit ScaleM BigM

/-- A number is no longer than it wants. -/
theorem BigIs.short {w : World} {x : Value} {m : Bool} {n L : Nat} (h : BigIs w x m n L) (k : Nat) (hk : n < 65536 ^ k) : BigIs w x m n k := by
  obtain ⟨v, ds, h1, h2, h3, h4, h5, h6⟩ := h.out
  exact ⟨v, ds, h1, h2, h3, h4, h5, canon_short h4 k (by rw [h5]; exact hk)⟩

theorem of10_any (w : World) (n : Nat) (hn : n < 9223372036854775808) :
    Calls Try.prog 26 #[.int .i64 (n : Nat)] w (BigPost w false n 4) := by
  have h := of_any w (n : Int) ⟨by omega, by omega⟩
  rw [decide_eq_false (show ¬ (n : Int) < 0 by omega), Int.natAbs_natCast] at h
  exact h

theorem times10_any (w : World) (x y : Value) (a b p La Lb k : Nat) (hx : BigIs w x false a La) (hy : BigIs w y false b Lb) (la : La ≤ 100) (lb : Lb ≤ 100) (hp : a * b = p) (K : Nat) (hK : 65536 ^ k = K) (hk : p < K) :
    Calls Try.prog 25 #[x, y] w (BigPost w false p k) := by
  refine (Times_any w x y false false a b La Lb hx hy la lb).mono ?_
  rintro e w' ⟨z, rfl, g, l⟩
  rw [hp] at g
  exact ⟨z, rfl, g.short k (by rw [hK]; exact hk), l⟩
theorem plus10_any (w : World) (x y : Value) (a b s La Lb k : Nat) (hx : BigIs w x false a La) (hy : BigIs w y false b Lb) (la : La ≤ 100) (lb : Lb ≤ 100) (hs : a + b = s) (K : Nat) (hK : 65536 ^ k = K) (hk : s < K) :
    Calls Try.prog 23 #[x, y] w (BigPost w false s k) := by
  refine (Plus_any w x y false false a b La Lb hx hy (by omega) (by omega)).mono ?_
  rintro e w' ⟨z, rfl, g, l⟩
  have e1 : sumN false a false b = s := by unfold sumN; simp [hs]
  have e2 : (sumM false a false b && decide (sumN false a false b ≠ 0)) = false := by unfold sumM; simp
  rw [e2, e1] at g
  exact ⟨z, rfl, g.short k (by rw [hK]; exact hk), l⟩

set_option maxHeartbeats 4000000 in
theorem rwhole10_any (w : World) (n : Nat) (hn : n < 18446744073709551616) :
    Calls Try.prog 24 #[.int .u64 (n : Nat)] w (BigPost w false n 4) := by
  obtain ⟨a, ha⟩ : ∃ a, a = n / 4294967296 := ⟨_, rfl⟩
  obtain ⟨b, hb⟩ : ∃ b, b = n % 4294967296 := ⟨_, rfl⟩
  obtain ⟨p, hp⟩ : ∃ p, a * 4294967296 = p := ⟨_, rfl⟩
  have OA := Lib.hid (fun w => of10_any w a (by omega))
  have OB := Lib.hid (fun w => of10_any w b (by omega))
  have OC : Hid (∀ w, Calls Try.prog 26 #[.int .i64 4294967296] w (BigPost w false 4294967296 4)) := fun w => of10_any w 4294967296 (by decide)
  have hp4 : p < 18446744073709551616 := by omega
  have hs : p + b = n := by omega
  have TM : Hid (∀ w x y, BigIs w x false a 4 → BigIs w y false 4294967296 4 → Calls Try.prog 25 #[x, y] w (BigPost w false p 4)) := fun w x y hx hy => times10_any w x y a 4294967296 p 4 4 4 hx hy (by decide) (by decide) hp 18446744073709551616 (by decide +kernel) hp4
  have PL : Hid (∀ w x y, BigIs w x false p 4 → BigIs w y false b 4 → Calls Try.prog 23 #[x, y] w (BigPost w false n 4)) := fun w x y hx hy => plus10_any w x y p b n 4 4 4 hx hy (by decide) (by decide) hs 18446744073709551616 (by decide +kernel) hn
  have e1 : (n : Int) / 4294967296 = (a : Int) := by omega
  have e2 : (n : Int) % 4294967296 = (b : Int) := by omega
  have e3 : (n : Int).tmod 4294967296 = (b : Int) := by rw [Int.tmod_eq_emod_of_nonneg (by omega)]; exact e2
  have e4 : IntKind.i64.wrap (a : Int) = (a : Int) := by rw [IntKind.wrap_i64]; omega
  have e5 : IntKind.i64.wrap (b : Int) = (b : Int) := by rw [IntKind.wrap_i64]; omega
  have e6 : IntKind.u64.wrap (a : Int) = (a : Int) := by rw [IntKind.wrap_u64]; omega
  have e7 : IntKind.u64.wrap (b : Int) = (b : Int) := by rw [IntKind.wrap_u64]; omega
  have e8 : wrap64 (a : Int) = (a : Int) := by unfold wrap64; omega
  have e9 : wrap64 (b : Int) = (b : Int) := by unfold wrap64; omega
  have B1 : Below w.heap.size w (w.alloc (.cells #[.bool false, .slice none 0 0] 44)) := (Below.refl _ _).alloc (Nat.le_refl _) _
  have R := heap_alloc_new w (.cells #[.bool false, .slice none 0 0] 44)
  clear ha hb hp hn hp4 hs
  go_enter Try.func24, Try.ntmps24
  go_upto_region 1 with (fail)
  generalize w.alloc (.cells #[.bool false, .slice none 0 0] 44) = v at *
  go_wp2_with fail
  refine (OA.out v).mono ?_; rintro e w1 ⟨x1, rfl, g1, l1⟩
  have G1 := Lib.hid g1
  have L1 := Lib.hid l1
  clear g1 l1
  go_wp2_with fail
  refine (OC.out w1).mono ?_; rintro e w2 ⟨x2, rfl, g2, l2⟩
  have G2 := Lib.hid (G1.out.below l2)
  have K2 := Lib.hid g2
  have L2 := Lib.hid (L1.out.trans (l2.mono L1.out.size))
  clear g2 l2 G1 L1
  go_wp2_with fail
  refine (TM.out w2 x1 x2 G2.out K2.out).mono ?_; rintro e w3 ⟨x3, rfl, g3, l3⟩
  have L3 := Lib.hid (L2.out.trans (l3.mono L2.out.size))
  obtain ⟨p3, k3, c3, rfl⟩ := g3.slice
  have AL : Below w3.heap.size w3 (w3.alloc (.cells #[.bool false, .slice p3 k3 c3] 44)) := (Below.refl _ _).alloc (Nat.le_refl _) _
  have G3 := Lib.hid (g3.below AL)
  have H3 : Hid ((w3.alloc (.cells #[.bool false, .slice p3 k3 c3] 44)).heap[w3.heap.size]? = some (.cells #[.bool false, .slice p3 k3 c3] 44 (0, 0))) := heap_alloc_new _ _
  have L4 := Lib.hid (L3.out.trans (AL.mono L3.out.size))
  have NE : Hid (w.heap.size ≠ w3.heap.size) := by
    unfold Hid
    have := (Array.getElem?_eq_some_iff.1 R).1
    have := L3.out.size
    omega
  clear g3 l3 G2 K2 L2 AL L3
  go_upto_region 2 with (fail)
  generalize hu : w3.alloc (.cells #[.bool false, .slice p3 k3 c3] 44) = u at *
  generalize w3.heap.size = N3 at *
  clear hu
  have KK : Hid (∀ w', Below u.heap.size u w' → w'.cell? ⟨N3, 0, none⟩ = some (.bool false) ∧ w'.cell? ⟨N3, 1, none⟩ = some (.slice p3 k3 c3)) := fun w' hb' => by
    have h := (hb'.block _ (Array.getElem?_eq_some_iff.1 H3.out).1).trans H3.out
    exact ⟨blk_cell h, blk_cell h⟩
  have RR : Hid (∀ w', Below v.heap.size v w' → w'.heap[w.heap.size]? = some (.cells #[.bool false, .slice none 0 0] 44 (0, 0))) := fun w' hb' => (hb'.block _ (Array.getElem?_eq_some_iff.1 R).1).trans R
  have BV := Lib.hid B1
  have LU := Lib.hid L4.out
  have OBB : Hid (∀ w', Below u.heap.size u w' → Calls Try.prog 26 #[.int .i64 (b : Nat)] w' fun e w'' => ∃ y, e = .returned y ∧ BigIs w'' y false b 4 ∧ Below u.heap.size u w'') := fun w' l => (OB.out w').mono fun e w'' ⟨y, a, g, l'⟩ => ⟨y, a, g, l.trans (l'.mono l.size)⟩
  have PLL : Hid (∀ w' y, Below u.heap.size u w' → BigIs w' y false b 4 → Calls Try.prog 23 #[.agg #[.bool false, .slice p3 k3 c3], y] w' fun e w'' => ∃ p k c, e = .returned (.agg #[.bool false, .slice p k c]) ∧ BigIs w'' (.agg #[.bool false, .slice p k c]) false n 4 ∧ Below u.heap.size u w'') := fun w' y l gy => by
    refine (PL.out w' _ y (G3.out.below l) gy).mono ?_
    rintro e w'' ⟨z, rfl, g, l'⟩
    obtain ⟨p, k, c, rfl⟩ := g.slice
    exact ⟨p, k, c, rfl, g, l.trans (l'.mono l.size)⟩
  have RU : Hid (∀ w', Below u.heap.size u w' → w'.heap[w.heap.size]? = some (.cells #[.bool false, .slice none 0 0] 44 (0, 0))) := fun w' hb' => RR.out w' (L4.out.trans (hb'.mono L4.out.size))
  have FIN : Hid (∀ w' p k c, Below u.heap.size u w' → BigIs w' (.agg #[.bool false, .slice p k c]) false n 4 → BigPost w false n 4 (.returned (.agg #[.bool false, .slice p k c])) ((w'.setCell ⟨w.heap.size, 0, none⟩ (.bool false)).setCell ⟨w.heap.size, 1, none⟩ (.slice p k c))) := fun w' p k c l g =>
    ⟨_, rfl, (g.set (RU.out w' l) (by decide) _).set (set_block (RU.out w' l)) (by decide) _, ((B1.trans ((L4.out.trans (l.mono L4.out.size)).mono B1.size)).setCell (Nat.le_refl _) _).setCell (Nat.le_refl _) _⟩
  have HB0 : Below u.heap.size u u := Below.refl _ _
  clear R B1 RR OA OC TM OB PL L4 LU BV G3
  go_wp2_with fail
  go_region_held3 (fun w' => w'.cell? ⟨N3, 0, none⟩ = some (.bool false) ∧ w'.cell? ⟨N3, 1, none⟩ = some (.slice p3 k3 c3))
    (first | exact KK.out _ HB0 | exact KK.out _ HB0.drew | exact ⟨(far2 _ _ _ _ NE.out).trans (KK.out _ HB0).1, (far2 _ _ _ _ NE.out).trans (KK.out _ HB0).2⟩)
    (first
      | (go_at_call 26; refine (OBB.out _ (by first | exact HB0 | exact HB0.drew)).mono ?_; rintro e w5 ⟨y, rfl, gy, HB0⟩; replace gy := Lib.hid gy)
      | (go_at_call 23; refine (PLL.out _ y (by first | exact HB0 | exact HB0.drew) gy.out).mono ?_; rintro e w6 ⟨p6, k6, c6, rfl, g6, HB0⟩; have D0 := blk_cell (o := 0) (RU.out _ HB0); have D1 := blk_cell (o := 1) (RU.out _ HB0); have E0 := blk_free (o := 0) (RU.out _ HB0); have E1 := blk_free (o := 1) (RU.out _ HB0); have FF := Lib.hid (FIN.out _ _ _ _ HB0 g6); clear g6))
  all_goals
    go_wp2
    exact bodyPost_ret (v := .agg #[.bool false, .slice p6 k6 c6]) (by simp [results, Try.results24, go_sem, D0, D1]) rfl FF.out
end Go.Proofs.Ytccfimempjbnfaa
