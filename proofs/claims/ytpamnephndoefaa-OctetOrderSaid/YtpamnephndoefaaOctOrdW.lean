/- The walk of OctetOrder: rows stand in the order of their numbers. -/
import Derived.Test.YtpamnephndoefaaOctOrdC
import Derived.Test.YtpamnephndoefaaOctBackV
import Derived.Deep.RegionHeld3
namespace Go.Proofs.Ytpamnephndoefaa
open Go.ChangeShapes Go.WideShapes Go.ChangeAt Go.RowKit OctM

/-- A row of the call's own, one number of it set. -/
theorem own_set {w : World} {B g n cap k y : Nat} {cur : Array Value} {xs : List Nat} (hb : B ≤ g) (h : w.heap[g]? = some (.cells cur 40 (0, 0))) (h1 : n ≤ cap) (h2 : cap ≤ maxLen) (h3 : cur.size = cap * 1) (h4 : cur.toList.take (n * 1) = valsN .u64 xs) (lx : xs.length = n) :
    (w.setCell ⟨g, k, none⟩ (.int .u64 (y : Int))).ownsRow B 40 1 (.slice (some ⟨g, 0, none⟩) n cap) n (valsN .u64 (xs.set k y)) := by
  refine ⟨by rw [valsN_len, List.length_set, lx, Nat.mul_one], .inr ⟨g, cap, _, rfl, hb, blk_set h, h1, h2, by rw [Array.set!_eq_setIfInBounds, Array.size_setIfInBounds, h3], ?_⟩⟩
  rw [Array.set!_eq_setIfInBounds, Array.toList_setIfInBounds, List.take_set, h4]
  unfold valsN
  rw [List.map_set]

/-- What every way through the law begins with. -/
structure OrdIn (w : World) (p0 : Option Addr) (n0 c0 N at' n k s x y : Nat) (zs : List Int) (xs : List Nat) (D E : List Nat) (L : Nat) (r : Int) : Prop where
  cells : Calls Try.prog 28 #[.slice p0 n0 c0] w fun e w' => ∃ p1 c1 p2 c2, e = .returned (.tuple #[.slice p1 N c1, .slice p2 N c2]) ∧ Holds w' p1 N c1 (valsI .i64 zs) ∧ Holds w' p2 N c2 (valsN .u64 xs) ∧ Below w.heap.size w w'
  n30 : N ≤ 30
  zlen : zs.length = N
  xlen : xs.length = N
  x64 : ∀ x ∈ xs, x < 18446744073709551616
  y64 : ∀ x ∈ xs.set k y, x < 18446744073709551616
  kmod : (at' : Int) % (N : Int) = (k : Int)
  kN : k < N
  s1 : 1 ≤ s
  s8 : s ≤ 8
  zk : zs.getD k 0 = (s : Int)
  xk : xs.getD k 0 = x
  shy : (n : Int) / 2 ^ (64 - 8 * s) = (y : Int)
  yb : y < 18446744073709551616
  lay1 : layE zs xs = 0 ∧ layD zs xs = D
  lay2 : layE zs (xs.set k y) = 0 ∧ layD zs (xs.set k y) = E
  dlen : D.length = L
  elen : E.length = L
  dby : Byt D
  eby : Byt E
  cmp : cmpN D E = r

set_option maxRecDepth 100000 in
set_option maxHeartbeats 8000000 in
theorem order_lt (w : World) (p0 : Option Addr) (n0 c0 N at' n k s x y : Nat) (zs : List Int) (xs D E : List Nat) (L : Nat) (I : OrdIn w p0 n0 c0 N at' n k s x y zs xs D E L (-1)) (ha : at' < 256) (hn : n < 18446744073709551616) (hxy : x < y) :
    Calls Try.prog 8 #[.slice p0 n0 c0, .int .u8 at', .int .u64 n] w fun e w' => e = .returned (.bool true) ∧ Below w.heap.size w w' := by
  have II := Lib.hid I
  have q1 : (at' : Int) < 256 := by omega
  have q2 : (N : Int) ≤ 30 := by have := I.n30; omega
  have q3 := I.kmod
  have q4 : (k : Int) < (N : Int) := by have := I.kN; omega
  have q5 : (1 : Int) ≤ (s : Int) := by have := I.s1; omega
  have q6 : (s : Int) ≤ 8 := by have := I.s8; omega
  have q7 := I.shy
  have q8 : IntKind.u64.wrap (y : Int) = (y : Int) := by have := I.yb; rw [IntKind.wrap_u64]; omega
  have q9 : ((N : Int) == 0) = false := by have := I.kN; rw [beq_eq_false_iff_ne]; omega
  have q10 : (n : Int) < 18446744073709551616 := by omega
  have q11 : (1 : Int) ≤ (N : Int) := by have := I.kN; omega
  have b1 : decide ((x : Int) < (y : Int)) = true := by simp; omega
  have b2 : ((x : Int) == (y : Int)) = false := by simp; omega
  have b3 : decide (x < y) = true := by simp; omega
  have b4 : (x == y) = false := by simp; omega
  clear I ha hn hxy
  go_enter Try.func8, Try.ntmps8
  go_wp2_with fail
  refine II.out.cells.mono ?_; rintro e w1 ⟨p1, c1, p2, c2, rfl, h1, h2, l⟩
  obtain ⟨a1, ea1, -⟩ := h1.atI II.out.kN
  obtain ⟨a2, ea2, -⟩ := h2.atN II.out.kN
  subst ea1 ea2
  have H1 := Lib.hid h1
  have H2 := Lib.hid h2
  have W1 := Lib.hid l
  clear h1 h2 l
  go_wp2_with fail
  refine (clone64_any _ _ _ _ xs H2.out (by have := II.out.n30; omega)).mono ?_
  rintro e w2 ⟨v, rfl, ⟨-, ⟨-, n0'⟩ | ⟨g, cap, cur, rfl, hb, hg, k1, k2, k3, k4⟩⟩, l⟩
  · exact absurd n0' (by have := II.out.kN; omega)
  have O2 : Hid ((w2.setCell ⟨g, k, none⟩ (.int .u64 (y : Int))).ownsRow w1.heap.size 40 1 (.slice (some ⟨g, 0, none⟩) N cap) N (valsN .u64 (xs.set k y))) := own_set hb hg k1 k2 k3 k4 II.out.xlen
  have cu : ∃ u, w2.cell? ⟨g, k, none⟩ = some u := by
    rw [blk_cell hg]
    exact ⟨_, Array.getElem?_eq_getElem (by have := II.out.kN; omega)⟩
  obtain ⟨u, cu⟩ := cu
  have fu : w2.frozen? ⟨g, k, none⟩ = false := blk_free hg
  have ad : (⟨g, 0, none⟩ : Addr).add k = ⟨g, k, none⟩ := add_zero' _ _
  obtain ⟨a', ea', cs'⟩ := (H1.out.below l).atI II.out.kN
  cases ea'
  rw [II.out.zk] at cs'
  have L13 : Hid (Below w1.heap.size w1 (w2.setCell ⟨g, k, none⟩ (.int .u64 (y : Int)))) := l.setCell hb _
  obtain ⟨w3, hw3⟩ : ∃ w3, w2.setCell ⟨g, k, none⟩ (.int .u64 (y : Int)) = w3 := ⟨_, rfl⟩
  rw [hw3] at O2 L13
  have HW3 := Lib.hid hw3
  clear hb hg k1 k2 k3 k4 l hw3
  go_wp2_with fail
  rw [HW3.out]
  refine (lay_at oct_code _ _ _ N _ N _ zs xs D 0 (H1.out.below L13.out) (H2.out.below L13.out) II.out.x64 (by have := II.out.n30; omega) (by have := II.out.n30; omega) II.out.lay1.2 II.out.lay1.1).mono ?_
  rintro e w4 ⟨px, cx, he, hx, l⟩
  rw [II.out.dlen] at he hx
  subst he
  have L34 := Lib.hid l
  have HX := Lib.hid hx.holds
  clear hx l
  obtain ⟨pb, cb, eb, hB⟩ := own_holds O2.out
  injection eb with eb1 eb2 eb3
  subst eb1 eb3
  have HB := Lib.hid hB
  clear hB
  go_wp2_with fail
  refine (lay_at oct_code _ _ _ N _ N _ zs (xs.set k y) E 0 (H1.out.below (seqB L13.out L34.out)) (HB.out.below L34.out) II.out.y64 (by have := II.out.n30; omega) (by have := II.out.n30; omega) II.out.lay2.2 II.out.lay2.1).mono ?_
  rintro e w5 ⟨py, cy, he, hy, l⟩
  rw [II.out.elen] at he hy
  subst he
  have L45 := Lib.hid l
  have HY := Lib.hid hy.holds
  clear hy l
  go_wp2_with fail
  refine (compare_any _ _ _ _ _ _ _ D E (-1) (HX.out.below L45.out) HY.out II.out.dby II.out.eby II.out.cmp).mono ?_
  rintro e w' ⟨rfl, rfl⟩
  go_wp2_with fail
  have L35 : Hid (Below w3.heap.size w3 w5) := seqB L34.out L45.out
  have HB0 : Below w5.heap.size w5 w5.drew := (Below.refl _ _).drew
  have KK : Hid (∀ w', Below w5.heap.size w5 w' → w'.cell? (a2.add k) = some (.int .u64 (x : Int)) ∧ w'.cell? ⟨g, k, none⟩ = some (.int .u64 (y : Int))) := fun w' h => by
    obtain ⟨a6, e6, c6⟩ := (H2.out.below (seqB L13.out (seqB L35.out h))).atN II.out.kN
    cases e6
    rw [II.out.xk] at c6
    obtain ⟨a7, e7, c7⟩ := (HB.out.below (seqB L35.out h)).atN II.out.kN
    cases e7
    rw [getD_set _ _ _ _ (by rw [II.out.xlen]; exact II.out.kN), if_pos rfl, ad] at c7
    exact ⟨c6, c7⟩
  go_region_held3 (fun w' => w'.cell? (a2.add k) = some (.int .u64 (x : Int)) ∧ w'.cell? ⟨g, k, none⟩ = some (.int .u64 (y : Int)))
    (first | exact ⟨(KK.out _ HB0).1, (KK.out _ HB0).2⟩ | exact ⟨(KK.out _ HB1).1, (KK.out _ HB1).2⟩)
    ((go_at_call 19; refine (awake3_any oct_code _).mono ?_; rintro e w6 ⟨rfl, l⟩; have HB1 : Below w5.heap.size w5 w6 := HB0.trans (l.mono (Nat.le_refl _)); clear l))
  have FIN : Hid (Below w.heap.size w w6) := seqB W1.out (seqB L13.out (seqB L35.out HB1))
  go_wp2
  go_ret
  exact ⟨rfl, FIN.out⟩

set_option maxRecDepth 100000 in
set_option maxHeartbeats 8000000 in
theorem order_eq (w : World) (p0 : Option Addr) (n0 c0 N at' n k s x y : Nat) (zs : List Int) (xs D E : List Nat) (L : Nat) (I : OrdIn w p0 n0 c0 N at' n k s x y zs xs D E L (0)) (ha : at' < 256) (hn : n < 18446744073709551616) (hxy : x = y) :
    Calls Try.prog 8 #[.slice p0 n0 c0, .int .u8 at', .int .u64 n] w fun e w' => e = .returned (.bool true) ∧ Below w.heap.size w w' := by
  have II := Lib.hid I
  have q1 : (at' : Int) < 256 := by omega
  have q2 : (N : Int) ≤ 30 := by have := I.n30; omega
  have q3 := I.kmod
  have q4 : (k : Int) < (N : Int) := by have := I.kN; omega
  have q5 : (1 : Int) ≤ (s : Int) := by have := I.s1; omega
  have q6 : (s : Int) ≤ 8 := by have := I.s8; omega
  have q7 := I.shy
  have q8 : IntKind.u64.wrap (y : Int) = (y : Int) := by have := I.yb; rw [IntKind.wrap_u64]; omega
  have q9 : ((N : Int) == 0) = false := by have := I.kN; rw [beq_eq_false_iff_ne]; omega
  have q10 : (n : Int) < 18446744073709551616 := by omega
  have q11 : (1 : Int) ≤ (N : Int) := by have := I.kN; omega
  have b1 : decide ((x : Int) < (y : Int)) = false := by simp; omega
  have b2 : ((x : Int) == (y : Int)) = true := by simp; omega
  have b3 : decide (x < y) = false := by simp; omega
  have b4 : (x == y) = true := by simp; omega
  clear I ha hn hxy
  go_enter Try.func8, Try.ntmps8
  go_wp2_with fail
  refine II.out.cells.mono ?_; rintro e w1 ⟨p1, c1, p2, c2, rfl, h1, h2, l⟩
  obtain ⟨a1, ea1, -⟩ := h1.atI II.out.kN
  obtain ⟨a2, ea2, -⟩ := h2.atN II.out.kN
  subst ea1 ea2
  have H1 := Lib.hid h1
  have H2 := Lib.hid h2
  have W1 := Lib.hid l
  clear h1 h2 l
  go_wp2_with fail
  refine (clone64_any _ _ _ _ xs H2.out (by have := II.out.n30; omega)).mono ?_
  rintro e w2 ⟨v, rfl, ⟨-, ⟨-, n0'⟩ | ⟨g, cap, cur, rfl, hb, hg, k1, k2, k3, k4⟩⟩, l⟩
  · exact absurd n0' (by have := II.out.kN; omega)
  have O2 : Hid ((w2.setCell ⟨g, k, none⟩ (.int .u64 (y : Int))).ownsRow w1.heap.size 40 1 (.slice (some ⟨g, 0, none⟩) N cap) N (valsN .u64 (xs.set k y))) := own_set hb hg k1 k2 k3 k4 II.out.xlen
  have cu : ∃ u, w2.cell? ⟨g, k, none⟩ = some u := by
    rw [blk_cell hg]
    exact ⟨_, Array.getElem?_eq_getElem (by have := II.out.kN; omega)⟩
  obtain ⟨u, cu⟩ := cu
  have fu : w2.frozen? ⟨g, k, none⟩ = false := blk_free hg
  have ad : (⟨g, 0, none⟩ : Addr).add k = ⟨g, k, none⟩ := add_zero' _ _
  obtain ⟨a', ea', cs'⟩ := (H1.out.below l).atI II.out.kN
  cases ea'
  rw [II.out.zk] at cs'
  have L13 : Hid (Below w1.heap.size w1 (w2.setCell ⟨g, k, none⟩ (.int .u64 (y : Int)))) := l.setCell hb _
  obtain ⟨w3, hw3⟩ : ∃ w3, w2.setCell ⟨g, k, none⟩ (.int .u64 (y : Int)) = w3 := ⟨_, rfl⟩
  rw [hw3] at O2 L13
  have HW3 := Lib.hid hw3
  clear hb hg k1 k2 k3 k4 l hw3
  go_wp2_with fail
  rw [HW3.out]
  refine (lay_at oct_code _ _ _ N _ N _ zs xs D 0 (H1.out.below L13.out) (H2.out.below L13.out) II.out.x64 (by have := II.out.n30; omega) (by have := II.out.n30; omega) II.out.lay1.2 II.out.lay1.1).mono ?_
  rintro e w4 ⟨px, cx, he, hx, l⟩
  rw [II.out.dlen] at he hx
  subst he
  have L34 := Lib.hid l
  have HX := Lib.hid hx.holds
  clear hx l
  obtain ⟨pb, cb, eb, hB⟩ := own_holds O2.out
  injection eb with eb1 eb2 eb3
  subst eb1 eb3
  have HB := Lib.hid hB
  clear hB
  go_wp2_with fail
  refine (lay_at oct_code _ _ _ N _ N _ zs (xs.set k y) E 0 (H1.out.below (seqB L13.out L34.out)) (HB.out.below L34.out) II.out.y64 (by have := II.out.n30; omega) (by have := II.out.n30; omega) II.out.lay2.2 II.out.lay2.1).mono ?_
  rintro e w5 ⟨py, cy, he, hy, l⟩
  rw [II.out.elen] at he hy
  subst he
  have L45 := Lib.hid l
  have HY := Lib.hid hy.holds
  clear hy l
  go_wp2_with fail
  refine (compare_any _ _ _ _ _ _ _ D E (0) (HX.out.below L45.out) HY.out II.out.dby II.out.eby II.out.cmp).mono ?_
  rintro e w' ⟨rfl, rfl⟩
  go_wp2_with fail
  have L35 : Hid (Below w3.heap.size w3 w5) := seqB L34.out L45.out
  have HB0 : Below w5.heap.size w5 w5.drew := (Below.refl _ _).drew
  have KK : Hid (∀ w', Below w5.heap.size w5 w' → w'.cell? (a2.add k) = some (.int .u64 (x : Int)) ∧ w'.cell? ⟨g, k, none⟩ = some (.int .u64 (y : Int))) := fun w' h => by
    obtain ⟨a6, e6, c6⟩ := (H2.out.below (seqB L13.out (seqB L35.out h))).atN II.out.kN
    cases e6
    rw [II.out.xk] at c6
    obtain ⟨a7, e7, c7⟩ := (HB.out.below (seqB L35.out h)).atN II.out.kN
    cases e7
    rw [getD_set _ _ _ _ (by rw [II.out.xlen]; exact II.out.kN), if_pos rfl, ad] at c7
    exact ⟨c6, c7⟩
  go_region_held3 (fun w' => w'.cell? (a2.add k) = some (.int .u64 (x : Int)) ∧ w'.cell? ⟨g, k, none⟩ = some (.int .u64 (y : Int)))
    (first | exact ⟨(KK.out _ HB0).1, (KK.out _ HB0).2⟩ | exact ⟨(KK.out _ HB1).1, (KK.out _ HB1).2⟩)
    ((go_at_call 19; refine (awake3_any oct_code _).mono ?_; rintro e w6 ⟨rfl, l⟩; have HB1 : Below w5.heap.size w5 w6 := HB0.trans (l.mono (Nat.le_refl _)); clear l))
  have FIN : Hid (Below w.heap.size w w6) := seqB W1.out (seqB L13.out (seqB L35.out HB1))
  go_wp2
  go_ret
  exact ⟨rfl, FIN.out⟩

set_option maxRecDepth 100000 in
set_option maxHeartbeats 8000000 in
theorem order_gt (w : World) (p0 : Option Addr) (n0 c0 N at' n k s x y : Nat) (zs : List Int) (xs D E : List Nat) (L : Nat) (I : OrdIn w p0 n0 c0 N at' n k s x y zs xs D E L (1)) (ha : at' < 256) (hn : n < 18446744073709551616) (hxy : y < x) :
    Calls Try.prog 8 #[.slice p0 n0 c0, .int .u8 at', .int .u64 n] w fun e w' => e = .returned (.bool true) ∧ Below w.heap.size w w' := by
  have II := Lib.hid I
  have q1 : (at' : Int) < 256 := by omega
  have q2 : (N : Int) ≤ 30 := by have := I.n30; omega
  have q3 := I.kmod
  have q4 : (k : Int) < (N : Int) := by have := I.kN; omega
  have q5 : (1 : Int) ≤ (s : Int) := by have := I.s1; omega
  have q6 : (s : Int) ≤ 8 := by have := I.s8; omega
  have q7 := I.shy
  have q8 : IntKind.u64.wrap (y : Int) = (y : Int) := by have := I.yb; rw [IntKind.wrap_u64]; omega
  have q9 : ((N : Int) == 0) = false := by have := I.kN; rw [beq_eq_false_iff_ne]; omega
  have q10 : (n : Int) < 18446744073709551616 := by omega
  have q11 : (1 : Int) ≤ (N : Int) := by have := I.kN; omega
  have b1 : decide ((x : Int) < (y : Int)) = false := by simp; omega
  have b2 : ((x : Int) == (y : Int)) = false := by simp; omega
  have b3 : decide (x < y) = false := by simp; omega
  have b4 : (x == y) = false := by simp; omega
  clear I ha hn hxy
  go_enter Try.func8, Try.ntmps8
  go_wp2_with fail
  refine II.out.cells.mono ?_; rintro e w1 ⟨p1, c1, p2, c2, rfl, h1, h2, l⟩
  obtain ⟨a1, ea1, -⟩ := h1.atI II.out.kN
  obtain ⟨a2, ea2, -⟩ := h2.atN II.out.kN
  subst ea1 ea2
  have H1 := Lib.hid h1
  have H2 := Lib.hid h2
  have W1 := Lib.hid l
  clear h1 h2 l
  go_wp2_with fail
  refine (clone64_any _ _ _ _ xs H2.out (by have := II.out.n30; omega)).mono ?_
  rintro e w2 ⟨v, rfl, ⟨-, ⟨-, n0'⟩ | ⟨g, cap, cur, rfl, hb, hg, k1, k2, k3, k4⟩⟩, l⟩
  · exact absurd n0' (by have := II.out.kN; omega)
  have O2 : Hid ((w2.setCell ⟨g, k, none⟩ (.int .u64 (y : Int))).ownsRow w1.heap.size 40 1 (.slice (some ⟨g, 0, none⟩) N cap) N (valsN .u64 (xs.set k y))) := own_set hb hg k1 k2 k3 k4 II.out.xlen
  have cu : ∃ u, w2.cell? ⟨g, k, none⟩ = some u := by
    rw [blk_cell hg]
    exact ⟨_, Array.getElem?_eq_getElem (by have := II.out.kN; omega)⟩
  obtain ⟨u, cu⟩ := cu
  have fu : w2.frozen? ⟨g, k, none⟩ = false := blk_free hg
  have ad : (⟨g, 0, none⟩ : Addr).add k = ⟨g, k, none⟩ := add_zero' _ _
  obtain ⟨a', ea', cs'⟩ := (H1.out.below l).atI II.out.kN
  cases ea'
  rw [II.out.zk] at cs'
  have L13 : Hid (Below w1.heap.size w1 (w2.setCell ⟨g, k, none⟩ (.int .u64 (y : Int)))) := l.setCell hb _
  obtain ⟨w3, hw3⟩ : ∃ w3, w2.setCell ⟨g, k, none⟩ (.int .u64 (y : Int)) = w3 := ⟨_, rfl⟩
  rw [hw3] at O2 L13
  have HW3 := Lib.hid hw3
  clear hb hg k1 k2 k3 k4 l hw3
  go_wp2_with fail
  rw [HW3.out]
  refine (lay_at oct_code _ _ _ N _ N _ zs xs D 0 (H1.out.below L13.out) (H2.out.below L13.out) II.out.x64 (by have := II.out.n30; omega) (by have := II.out.n30; omega) II.out.lay1.2 II.out.lay1.1).mono ?_
  rintro e w4 ⟨px, cx, he, hx, l⟩
  rw [II.out.dlen] at he hx
  subst he
  have L34 := Lib.hid l
  have HX := Lib.hid hx.holds
  clear hx l
  obtain ⟨pb, cb, eb, hB⟩ := own_holds O2.out
  injection eb with eb1 eb2 eb3
  subst eb1 eb3
  have HB := Lib.hid hB
  clear hB
  go_wp2_with fail
  refine (lay_at oct_code _ _ _ N _ N _ zs (xs.set k y) E 0 (H1.out.below (seqB L13.out L34.out)) (HB.out.below L34.out) II.out.y64 (by have := II.out.n30; omega) (by have := II.out.n30; omega) II.out.lay2.2 II.out.lay2.1).mono ?_
  rintro e w5 ⟨py, cy, he, hy, l⟩
  rw [II.out.elen] at he hy
  subst he
  have L45 := Lib.hid l
  have HY := Lib.hid hy.holds
  clear hy l
  go_wp2_with fail
  refine (compare_any _ _ _ _ _ _ _ D E (1) (HX.out.below L45.out) HY.out II.out.dby II.out.eby II.out.cmp).mono ?_
  rintro e w' ⟨rfl, rfl⟩
  go_wp2_with fail
  have L35 : Hid (Below w3.heap.size w3 w5) := seqB L34.out L45.out
  have HB0 : Below w5.heap.size w5 w5.drew := (Below.refl _ _).drew
  have KK : Hid (∀ w', Below w5.heap.size w5 w' → w'.cell? (a2.add k) = some (.int .u64 (x : Int)) ∧ w'.cell? ⟨g, k, none⟩ = some (.int .u64 (y : Int))) := fun w' h => by
    obtain ⟨a6, e6, c6⟩ := (H2.out.below (seqB L13.out (seqB L35.out h))).atN II.out.kN
    cases e6
    rw [II.out.xk] at c6
    obtain ⟨a7, e7, c7⟩ := (HB.out.below (seqB L35.out h)).atN II.out.kN
    cases e7
    rw [getD_set _ _ _ _ (by rw [II.out.xlen]; exact II.out.kN), if_pos rfl, ad] at c7
    exact ⟨c6, c7⟩
  go_region_held3 (fun w' => w'.cell? (a2.add k) = some (.int .u64 (x : Int)) ∧ w'.cell? ⟨g, k, none⟩ = some (.int .u64 (y : Int)))
    (first | exact ⟨(KK.out _ HB0).1, (KK.out _ HB0).2⟩ | exact ⟨(KK.out _ HB1).1, (KK.out _ HB1).2⟩)
    ((go_at_call 19; refine (awake3_any oct_code _).mono ?_; rintro e w6 ⟨rfl, l⟩; have HB1 : Below w5.heap.size w5 w6 := HB0.trans (l.mono (Nat.le_refl _)); clear l))
  have FIN : Hid (Below w.heap.size w w6) := seqB W1.out (seqB L13.out (seqB L35.out HB1))
  go_wp2
  go_ret
  exact ⟨rfl, FIN.out⟩

end Go.Proofs.Ytpamnephndoefaa
