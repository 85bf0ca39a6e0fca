/- CountWide: the walk. -/
import Derived.Test.YtkhhaeoofebjlaaCountE
import Derived.Test.YtkhhaeoofebjlaaFrame
import Derived.Deep.RegionHeld3
import Derived.Deep.DeepCutAuto
set_option maxRecDepth 100000
namespace Go.Proofs.Ytkhhaeoofebjlaa
open Go.ChangeShapes Go.WideShapes Go.ChangeAt Go.RowKit

/-- The four arrays that lie from block B on: the two parameters' boxes, the counters, the masks. -/
structure WidB (w wr : World) (b0 b1 f0 f1 : Nat) (c0 c1 : Option Addr) (m0 m1 : Nat) : Prop where
  pb : wr.heap[w.heap.size]? = some (.cells #[.int .u8 (b0 : Nat), .int .u8 (b1 : Nat)] 33 (0, 0))
  pf : wr.heap[w.heap.size + 1]? = some (.cells #[.int .u64 (f0 : Nat), .int .u64 (f1 : Nat)] 34 (0, 0))
  pc : wr.heap[w.heap.size + 1 + 1]? = some (.cells #[.pointer c0, .pointer c1] 35 (0, 0))
  pm : wr.heap[w.heap.size + 1 + 1 + 1]? = some (.cells #[.int .u64 (m0 : Nat), .int .u64 (m1 : Nat)] 34 (0, 0))
  low : Below w.heap.size w wr
theorem WidB.size {w wr : World} {b0 b1 f0 f1 m0 m1 : Nat} {c0 c1 : Option Addr} (h : WidB w wr b0 b1 f0 f1 c0 c1 m0 m1) : w.heap.size + 1 + 1 + 1 < wr.heap.size := (Array.getElem?_eq_some_iff.1 h.pm).1
theorem WidB.below {w wr w' : World} {b0 b1 f0 f1 m0 m1 : Nat} {c0 c1 : Option Addr} (h : WidB w wr b0 b1 f0 f1 c0 c1 m0 m1) (b : Below wr.heap.size wr w') : WidB w w' b0 b1 f0 f1 c0 c1 m0 m1 := by
  have s := h.size
  exact ⟨(b.block _ (by omega)).trans h.pb, (b.block _ (by omega)).trans h.pf, (b.block _ (by omega)).trans h.pc, (b.block _ (by omega)).trans h.pm, h.low.trans (b.mono h.low.size)⟩
theorem WidB.turn {w wr w' : World} {b0 b1 f0 f1 m0 m1 N : Nat} {c0 c1 : Option Addr} (h : WidB w wr b0 b1 f0 f1 c0 c1 m0 m1) (b : Turn N wr w') (hN : w.heap.size + 1 + 1 + 1 < N) : WidB w w' b0 b1 f0 f1 c0 c1 m0 m1 := by
  have s := h.size
  exact ⟨(b.keep _ (by omega) (by omega)).trans h.pb, (b.keep _ (by omega) (by omega)).trans h.pf, (b.keep _ (by omega) (by omega)).trans h.pc, (b.keep _ (by omega) (by omega)).trans h.pm, b.below h.low (by omega)⟩
theorem keep_set {w : World} {N M o : Nat} {v : Value} {x : Obj} (h : w.heap[M]? = some x) (ne : M ≠ N) : (w.setCell ⟨N, o, none⟩ v).heap[M]? = some x := (Below.heap_setCell w ⟨N, o, none⟩ v M ne).trans h

theorem WidB.mask0 {w wr : World} {b0 b1 f0 f1 m0 m1 : Nat} {c0 c1 : Option Addr} (h : WidB w wr b0 b1 f0 f1 c0 c1 m0 m1) (mk : Nat) : WidB w (wr.setCell ⟨w.heap.size + 1 + 1 + 1, 0, none⟩ (.int .u64 (mk : Nat))) b0 b1 f0 f1 c0 c1 mk m1 := by
  exact ⟨keep_set h.pb (by omega), keep_set h.pf (by omega), keep_set h.pc (by omega), blk_set h.pm, h.low.setCell (show w.heap.size ≤ w.heap.size + 1 + 1 + 1 by omega) _⟩
theorem WidB.count0 {w wr : World} {b0 b1 f0 f1 m0 m1 : Nat} {c0 c1 : Option Addr} (h : WidB w wr b0 b1 f0 f1 c0 c1 m0 m1) (c : Option Addr) : WidB w (wr.setCell ⟨w.heap.size + 1 + 1, 0, none⟩ (.pointer c)) b0 b1 f0 f1 c c1 m0 m1 := by
  exact ⟨keep_set h.pb (by omega), keep_set h.pf (by omega), blk_set h.pc, keep_set h.pm (by omega), h.low.setCell (show w.heap.size ≤ w.heap.size + 1 + 1 by omega) _⟩

theorem WidB.mask1 {w wr : World} {b0 b1 f0 f1 m0 m1 : Nat} {c0 c1 : Option Addr} (h : WidB w wr b0 b1 f0 f1 c0 c1 m0 m1) (mk : Nat) : WidB w (wr.setCell ⟨w.heap.size + 1 + 1 + 1, 1, none⟩ (.int .u64 (mk : Nat))) b0 b1 f0 f1 c0 c1 m0 mk := by
  exact ⟨keep_set h.pb (by omega), keep_set h.pf (by omega), keep_set h.pc (by omega), blk_set h.pm, h.low.setCell (show w.heap.size ≤ w.heap.size + 1 + 1 + 1 by omega) _⟩
theorem WidB.count1 {w wr : World} {b0 b1 f0 f1 m0 m1 : Nat} {c0 c1 : Option Addr} (h : WidB w wr b0 b1 f0 f1 c0 c1 m0 m1) (c : Option Addr) : WidB w (wr.setCell ⟨w.heap.size + 1 + 1, 1, none⟩ (.pointer c)) b0 b1 f0 f1 c0 c m0 m1 := by
  exact ⟨keep_set h.pb (by omega), keep_set h.pf (by omega), blk_set h.pc, keep_set h.pm (by omega), h.low.setCell (show w.heap.size ≤ w.heap.size + 1 + 1 by omega) _⟩

theorem wid_start (w : World) (b0 b1 f0 f1 : Nat) : WidB w ((((w.alloc (.cells #[.int .u8 (b0 : Nat), .int .u8 (b1 : Nat)] 33)).alloc (.cells #[.int .u64 (f0 : Nat), .int .u64 (f1 : Nat)] 34)).alloc (.cells #[.pointer none, .pointer none] 35)).alloc (.cells #[.int .u64 0, .int .u64 0] 34)) b0 b1 f0 f1 none none 0 0 := by
  have B1 : Below w.heap.size w (w.alloc (.cells #[.int .u8 (b0 : Nat), .int .u8 (b1 : Nat)] 33)) := (Below.refl _ _).alloc (Nat.le_refl _) _
  have C1 := blk_alloc w #[.int .u8 (b0 : Nat), .int .u8 (b1 : Nat)] 33
  have s1 : (w.alloc (.cells #[.int .u8 (b0 : Nat), .int .u8 (b1 : Nat)] 33)).heap.size = w.heap.size + 1 := by simp
  generalize w.alloc (.cells #[.int .u8 (b0 : Nat), .int .u8 (b1 : Nat)] 33) = u at *
  have A2 : Below u.heap.size u (u.alloc (.cells #[.int .u64 (f0 : Nat), .int .u64 (f1 : Nat)] 34)) := (Below.refl _ _).alloc (Nat.le_refl _) _
  have C2 := blk_alloc u #[.int .u64 (f0 : Nat), .int .u64 (f1 : Nat)] 34
  have s2 : (u.alloc (.cells #[.int .u64 (f0 : Nat), .int .u64 (f1 : Nat)] 34)).heap.size = w.heap.size + 1 + 1 := by simp [s1]
  replace C1 := (A2.block _ (by omega)).trans C1
  rw [s1] at C2
  have B2 := B1.trans (A2.mono B1.size)
  generalize u.alloc (.cells #[.int .u64 (f0 : Nat), .int .u64 (f1 : Nat)] 34) = v at *
  have A3 : Below v.heap.size v (v.alloc (.cells #[.pointer none, .pointer none] 35)) := (Below.refl _ _).alloc (Nat.le_refl _) _
  have C3 := blk_alloc v #[.pointer none, .pointer none] 35
  have s3 : (v.alloc (.cells #[.pointer none, .pointer none] 35)).heap.size = w.heap.size + 1 + 1 + 1 := by simp [s2]
  replace C1 := (A3.block _ (by omega)).trans C1
  replace C2 := (A3.block _ (by omega)).trans C2
  rw [s2] at C3
  have B3 := B2.trans (A3.mono B2.size)
  generalize v.alloc (.cells #[.pointer none, .pointer none] 35) = x at *
  have A4 : Below x.heap.size x (x.alloc (.cells #[.int .u64 0, .int .u64 0] 34)) := (Below.refl _ _).alloc (Nat.le_refl _) _
  have C4 := blk_alloc x #[.int .u64 0, .int .u64 0] 34
  rw [s3] at C4
  exact ⟨(A4.block _ (by omega)).trans C1, (A4.block _ (by omega)).trans C2, (A4.block _ (by omega)).trans C3, C4, B3.trans (A4.mono B3.size)⟩

/-- Where the first loop is. -/
def WidQ (w wr : World) (b0 b1 f0 f1 k0 k1 g0 g1 mk0 mk1 : Nat) (i : Value) : Prop :=
  (i = .int .i64 0 ∧ WidB w wr b0 b1 f0 f1 none none 0 0) ∨
  (i = .int .i64 1 ∧ ∃ N0, WidB w wr b0 b1 f0 f1 (some ⟨N0, 0, none⟩) none mk0 0 ∧ Ct wr N0 k0 g0 0 false ∧ w.heap.size + 1 + 1 + 1 < N0) ∨
  (i = .int .i64 2 ∧ ∃ N0 N1, WidB w wr b0 b1 f0 f1 (some ⟨N0, 0, none⟩) (some ⟨N1, 0, none⟩) mk0 mk1 ∧ Ct wr N0 k0 g0 0 false ∧ Ct wr N1 k1 g1 0 false ∧ w.heap.size + 1 + 1 + 1 < N0 ∧ w.heap.size + 1 + 1 + 1 < N1 ∧ N0 ≠ N1)

/-- A number of bits, a mask, as the law reckons them. -/
structure Mask (b f r k j mk g : Nat) : Prop where
  k8 : 8 ≤ k
  k6 : k ≤ 64
  mk1 : mk + 1 = 2 ^ k
  g2 : g = f % 2 ^ k
  b8 : b < 256
  f6 : f < 18446744073709551616
  r1 : (b : Int).tmod 57 = (r : Int)
  r2 : (b : Int) % 57 = (r : Int)
  r3 : 8 + (r : Int) = (k : Int)
  j1 : 64 - (k : Int) = (j : Int)
  j2 : (18446744073709551615 : Int) / 2 ^ j = (mk : Int)
  an : bits .and .u64 (f : Int) (mk : Int) = (g : Int)
theorem mask_of {b f : Nat} (hb : b < 256) (hf : f < 18446744073709551616) : ∃ r k j mk g, Mask b f r k j mk g := by
  obtain ⟨r, hr⟩ : ∃ r, r = b % 57 := ⟨_, rfl⟩
  obtain ⟨k, hk⟩ : ∃ k, k = 8 + r := ⟨_, rfl⟩
  obtain ⟨j, hj⟩ : ∃ j, j + k = 64 := ⟨64 - k, by omega⟩
  obtain ⟨mk, hm⟩ : ∃ mk, mk + 1 = 2 ^ k := ⟨2 ^ k - 1, by have := Nat.two_pow_pos k; omega⟩
  exact ⟨r, k, j, mk, f % 2 ^ k, by omega, by omega, hm, rfl, hb, hf, by rw [Int.tmod_eq_emod_of_nonneg (by omega)]; omega, by omega, by omega, by omega, div_round hj hm, and_round hf (by omega) hm⟩
theorem Mask.glt {b f r k j mk g : Nat} (h : Mask b f r k j mk g) : g < 2 ^ k := by rw [h.g2]; exact Nat.mod_lt _ (Nat.two_pow_pos k)

/-- The way, as the law brings it below both rounds. -/
theorem wide_m {x b0 f0 r0 k0 j0 mk0 g0 b1 f1 r1 k1 j1 mk1 g1 : Nat} (hx : x < 18446744073709551616) (h0 : Mask b0 f0 r0 k0 j0 mk0 g0) (h1 : Mask b1 f1 r1 k1 j1 mk1 g1) :
    ∃ a1 a2 m : Nat, bits .and .u64 (mk0 : Int) (mk1 : Int) = (a1 : Int) ∧ bits .and .u64 (a1 : Int) 144115188075855871 = (a2 : Int) ∧ bits .and .u64 (x : Int) (a2 : Int) = (m : Int) ∧ m < 2 ^ k0 ∧ m < 2 ^ k1 ∧ m < 144115188075855872 := by
  have p0 := pow_le64 h0.k6
  have p1 := pow_le64 h1.k6
  have q0 := h0.mk1
  have q1 := h1.mk1
  have l1 : mk0 &&& mk1 ≤ mk0 := Nat.and_le_left
  have l2 : mk0 &&& mk1 ≤ mk1 := Nat.and_le_right
  have l3 : (mk0 &&& mk1) &&& 144115188075855871 ≤ mk0 &&& mk1 := Nat.and_le_left
  have l4 : (mk0 &&& mk1) &&& 144115188075855871 ≤ 144115188075855871 := Nat.and_le_right
  have l5 : x &&& ((mk0 &&& mk1) &&& 144115188075855871) ≤ (mk0 &&& mk1) &&& 144115188075855871 := Nat.and_le_right
  exact ⟨mk0 &&& mk1, (mk0 &&& mk1) &&& 144115188075855871, x &&& ((mk0 &&& mk1) &&& 144115188075855871), u64_and_nat _ _ (by omega) (by omega), u64_and_nat _ _ (by omega) (by decide), u64_and_nat _ _ hx (by omega), by omega, by omega, by omega⟩
theorem wide_r {b f r k j mk g G1 : Nat} (h : Mask b f r k j mk g) :
    ∃ A R : Nat, IntKind.u64.wrap ((f : Int) + (G1 : Int)) = (A : Int) ∧ bits .and .u64 (A : Int) (mk : Int) = (R : Int) ∧ R = (g + G1) % 2 ^ k := by
  have d := pow_dvd64 h.k6
  refine ⟨(f + G1) % 18446744073709551616, (g + G1) % 2 ^ k, by rw [IntKind.wrap_u64]; omega, ?_, rfl⟩
  rw [and_round (Nat.mod_lt _ (by decide)) h.k6 h.mk1, Nat.mod_mod_of_dvd _ d, h.g2, Nat.mod_add_mod]
/-- Where the second loop is. -/
structure WidL (w wr : World) (b0 b1 f0 f1 N0 N1 k0 k1 g0 g1 mk0 mk1 G q n : Nat) : Prop where
  qn : q ≤ n
  q6 : q ≤ 60
  g : G ≤ q * 144115188075855872
  b : WidB w wr b0 b1 f0 f1 (some ⟨N0, 0, none⟩) (some ⟨N1, 0, none⟩) mk0 mk1
  c0 : Ct wr N0 k0 ((g0 + G) % 2 ^ k0) G false
  c1 : Ct wr N1 k1 ((g1 + G) % 2 ^ k1) G false

set_option maxHeartbeats 16000000 in
theorem wide9_walk (w : World) (b0 b1 f0 f1 : Nat) (p : Option Addr) (n c : Nat) (ds : List Nat) (hp : Holds w p n c (valsN .u64 ds)) (hd : ∀ x ∈ ds, x < 18446744073709551616) (hb0 : b0 < 256) (hb1 : b1 < 256) (hf0 : f0 < 18446744073709551616) (hf1 : f1 < 18446744073709551616) :
    Calls Try.prog 4 #[.agg #[.int .u8 (b0 : Nat), .int .u8 (b1 : Nat)], .agg #[.int .u64 (f0 : Nat), .int .u64 (f1 : Nat)], .slice p n c] w fun e w' => e = .returned (.bool true) ∧ Below w.heap.size w w' := by
  obtain ⟨r0, k0, j0, mk0, g0, M0⟩ := mask_of hb0 hf0
  obtain ⟨r1, k1, j1, mk1, g1, M1⟩ := mask_of hb1 hf1
  have W0 := Lib.hid (wid_start w b0 b1 f0 f1)
  have HP := Lib.hid hp
  have HD := Lib.hid hd
  have M0h := Lib.hid M0
  have M1h := Lib.hid M1
  have NW0 := Lib.hid (fun w => pnew9_ok w k0 g0 M0.k8 M0.k6 M0.glt)
  have NW1 := Lib.hid (fun w => pnew9_ok w k1 g1 M1.k8 M1.k6 M1.glt)
  have cp := hp.cap
  have mx := hp.max
  unfold maxLen at mx
  have nb : (n : Int) ≤ 9223372036854775807 := by omega
  clear hp hd hb0 hb1 hf0 hf1 M0 M1 cp mx
  go_enter Try.func4, Try.ntmps4
  go_wp2_with fail
  go_loopw [20] (fun i wr => Hid (WidQ w wr b0 b1 f0 f1 k0 k1 g0 g1 mk0 mk1 i)) (fun i _ => 1000 - (intOf i).toNat)
  case atStart => exact .inl ⟨rfl, W0.out⟩
  case round =>
    have I := hrel
    clear hrel
    clear W0
    obtain ⟨rfl, hI⟩ | ⟨rfl, hI⟩ | ⟨rfl, hI⟩ := I.out

    · clear I
      have WB := Lib.hid hI
      have cb := blk_cell (o := 0) WB.out.pb
      have cm0 := blk_cell (o := 0) WB.out.pm
      have fm := blk_free (o := 0) WB.out.pm
      have WM := Lib.hid (WB.out.mask0 mk0)
      have q1 := M0h.out.r1
      have q2 := M0h.out.r2
      have q3 := M0h.out.r3
      have i1 := M0h.out.j1
      have i2 := M0h.out.j2
      have an := M0h.out.an
      have KB : (k0 : Int) ≤ 64 := by have := M0h.out.k6; omega
      have RB : (r0 : Int) ≤ 56 := by omega
      have JB : (j0 : Int) ≤ 56 := by have := M0h.out.k8; omega
      have BB : (b0 : Int) < 256 := by have := M0h.out.b8; omega
      clear WB
      go_upto_region 8 with fail
      generalize wr.setCell ⟨w.heap.size + 1 + 1 + 1, 0, none⟩ (.int .u64 (mk0 : Nat)) = v at *
      have K : Hid (∀ w', Below v.heap.size v w' → w'.cell? ⟨w.heap.size + 1, 0, none⟩ = some (.int .u64 (f0 : Nat)) ∧ w'.cell? ⟨w.heap.size + 1 + 1 + 1, 0, none⟩ = some (.int .u64 (mk0 : Nat))) := fun w' b => ⟨blk_cell (WM.out.below b).pf, blk_cell (WM.out.below b).pm⟩
      have HB0 : Below v.heap.size v v.drew := (Below.refl _ _).drew
      go_region_held3 (fun w' => w'.cell? ⟨w.heap.size + 1, 0, none⟩ = some (.int .u64 (f0 : Nat)) ∧ w'.cell? ⟨w.heap.size + 1 + 1 + 1, 0, none⟩ = some (.int .u64 (mk0 : Nat)))
        (first | exact K.out _ HB0)
        (first
          | (go_at_call 6; refine (NW0.out _).mono ?_; rintro e w4 ⟨N0, rfl, c4, h4, l4⟩; have HN4 := Nat.le_trans HB0.size h4; have HB0 := HB0.trans (l4.mono HB0.size); clear l4 h4))
      have WB4 := Lib.hid (WM.out.below HB0)
      have cs : w4.cell? ⟨w.heap.size + 1 + 1, 0, none⟩ = some (.pointer none) := blk_cell WB4.out.pc
      have ff : w4.frozen? ⟨w.heap.size + 1 + 1, 0, none⟩ = false := blk_free WB4.out.pc
      have sz := WM.out.size
      have NX : Hid (WidQ w (w4.setCell ⟨w.heap.size + 1 + 1, 0, none⟩ (.pointer (some ⟨N0, 0, none⟩))) b0 b1 f0 f1 k0 k1 g0 g1 mk0 mk1 (.int .i64 1)) := .inr (.inl ⟨rfl, N0, WB4.out.count0 _, keep_set c4 (by omega), by omega⟩)
      clear WB4 c4 HN4 HB0 sz WM K
      go_wp2
      go_roundw
      case rel => exact NX.out
      case measure => simp [intOf]
    · clear I
      obtain ⟨N0, wb, ct0, hN0⟩ := hI
      have WB := Lib.hid wb
      have CT := Lib.hid ct0
      have H0 := Lib.hid hN0
      clear wb ct0 hN0
      have cb := blk_cell (o := 1) WB.out.pb
      have cm0 := blk_cell (o := 1) WB.out.pm
      have fm := blk_free (o := 1) WB.out.pm
      have WM := Lib.hid (WB.out.mask1 mk1)
      have q1 := M1h.out.r1
      have q2 := M1h.out.r2
      have q3 := M1h.out.r3
      have i1 := M1h.out.j1
      have i2 := M1h.out.j2
      have an := M1h.out.an
      have KB : (k1 : Int) ≤ 64 := by have := M1h.out.k6; omega
      have RB : (r1 : Int) ≤ 56 := by omega
      have JB : (j1 : Int) ≤ 56 := by have := M1h.out.k8; omega
      have BB : (b1 : Int) < 256 := by have := M1h.out.b8; omega
      have CT2 : Hid (Ct (wr.setCell ⟨w.heap.size + 1 + 1 + 1, 1, none⟩ (.int .u64 (mk1 : Nat))) N0 k0 g0 0 false) := keep_set CT.out (by have := H0.out; omega)
      clear WB CT
      go_upto_region 8 with fail
      generalize wr.setCell ⟨w.heap.size + 1 + 1 + 1, 1, none⟩ (.int .u64 (mk1 : Nat)) = v at *
      have K : Hid (∀ w', Below v.heap.size v w' → w'.cell? ⟨w.heap.size + 1, 1, none⟩ = some (.int .u64 (f1 : Nat)) ∧ w'.cell? ⟨w.heap.size + 1 + 1 + 1, 1, none⟩ = some (.int .u64 (mk1 : Nat))) := fun w' b => ⟨blk_cell (WM.out.below b).pf, blk_cell (WM.out.below b).pm⟩
      have HB0 : Below v.heap.size v v.drew := (Below.refl _ _).drew
      go_region_held3 (fun w' => w'.cell? ⟨w.heap.size + 1, 1, none⟩ = some (.int .u64 (f1 : Nat)) ∧ w'.cell? ⟨w.heap.size + 1 + 1 + 1, 1, none⟩ = some (.int .u64 (mk1 : Nat)))
        (first | exact K.out _ HB0)
        (first
          | (go_at_call 6; refine (NW1.out _).mono ?_; rintro e w4 ⟨N1, rfl, c4, h4, l4⟩; have HN4 := Nat.le_trans HB0.size h4; have HB0 := HB0.trans (l4.mono HB0.size); clear l4 h4))
      have WB4 := Lib.hid (WM.out.below HB0)
      have cs : w4.cell? ⟨w.heap.size + 1 + 1, 1, none⟩ = some (.pointer none) := blk_cell WB4.out.pc
      have ff : w4.frozen? ⟨w.heap.size + 1 + 1, 1, none⟩ = false := blk_free WB4.out.pc
      have sz := WM.out.size
      have lt0 := CT2.out.lt
      have lt1 := H0.out
      have NX : Hid (WidQ w (w4.setCell ⟨w.heap.size + 1 + 1, 1, none⟩ (.pointer (some ⟨N1, 0, none⟩))) b0 b1 f0 f1 k0 k1 g0 g1 mk0 mk1 (.int .i64 2)) := .inr (.inr ⟨rfl, N0, N1, WB4.out.count1 _, keep_set (CT2.out.below HB0) (by omega), keep_set c4 (by omega), lt1, by omega, by omega⟩)
      clear WB4 c4 HN4 HB0 sz WM K CT2 lt0 lt1
      go_wp2
      go_roundw
      case rel => exact NX.out
      case measure => simp [intOf]
    · clear I
      obtain ⟨N0, N1, wb, ct0, ct1, hn0, hn1, hne⟩ := hI
      have I3 : Hid (WidL w wr b0 b1 f0 f1 N0 N1 k0 k1 g0 g1 mk0 mk1 0 0 n) := ⟨Nat.zero_le _, by decide, Nat.zero_le _, wb, by
          rw [Nat.add_zero, Nat.mod_eq_of_lt M0h.out.glt]; exact ct0, by
          rw [Nat.add_zero, Nat.mod_eq_of_lt M1h.out.glt]; exact ct1⟩
      have H0 := Lib.hid hn0
      have H1 := Lib.hid hn1
      have NE := Lib.hid hne
      clear wb ct0 ct1 hn0 hn1 hne NW0 NW1
      rename World => wA
      go_wp2_with fail
      go_loopw [13, 54] (fun g i wr => ∃ G q : Nat, g = .int .u64 (G : Nat) ∧ i = .int .i64 (q : Nat) ∧ Hid (WidL w wr b0 b1 f0 f1 N0 N1 k0 k1 g0 g1 mk0 mk1 G q n)) (fun _ i _ => 1000 - (intOf i).toNat)
      case atStart => exact ⟨0, 0, rfl, rfl, I3.out⟩
      case round =>
        obtain ⟨G, q, rfl, rfl, I⟩ := hrel
        have qb : (q : Int) ≤ 60 := by have := I.out.q6; omega
        have q0 : (0 : Int) ≤ (q : Int) := by omega
        by_cases hq : q < n
        case neg =>
          have h' : (n : Int) ≤ (q : Int) := by omega
          have h'' : decide ((q : Int) < (n : Int)) = false := by simp; omega
          have LW := Lib.hid I.out.b.low
          clear I HP HD
          go_wp2_with fail
          refine (awake9_any _).mono ?_; rintro e w4 ⟨rfl, l4⟩
          have L4 := Lib.hid (LW.out.trans (l4.mono LW.out.size))
          clear l4 LW
          go_wp2
          go_ret
          exact ⟨rfl, L4.out⟩
        by_cases h60 : q = 60
        case pos =>
          have h' : (q : Int) < (n : Int) := by omega
          obtain ⟨a, rfl, c0⟩ := (HP.out.below I.out.b.low).atN hq
          obtain ⟨x, hx⟩ : ∃ x, x = ds.getD q 0 := ⟨_, rfl⟩
          rw [← hx] at c0
          have t60 : ((q : Int) == 60) = true := by rw [beq_iff_eq]; omega
          clear hx h60 hq
          have LW := Lib.hid I.out.b.low
          clear I HP HD
          go_wp2_with fail
          refine (awake9_any _).mono ?_; rintro e w4 ⟨rfl, l4⟩
          have L4 := Lib.hid (LW.out.trans (l4.mono LW.out.size))
          clear l4 LW
          go_wp2
          go_ret
          exact ⟨rfl, L4.out⟩
        have h' : (q : Int) < (n : Int) := by omega
        have t60 : ((q : Int) == 60) = false := by rw [beq_eq_false_iff_ne]; omega
        have q59 : (q : Int) ≤ 59 := by have := I.out.q6; omega
        obtain ⟨a, rfl, c0⟩ := (HP.out.below I.out.b.low).atN hq
        obtain ⟨x, hx⟩ : ∃ x, x = ds.getD q 0 := ⟨_, rfl⟩
        have xb : x < 18446744073709551616 := by
          rw [hx]
          have lq : q < ds.length := by have := HP.out.len; rw [valsN_len] at this; omega
          rw [List.getD_eq_getElem?_getD, List.getElem?_eq_getElem lq]
          exact HD.out _ (List.getElem_mem lq)
        rw [← hx] at c0
        obtain ⟨a1, a2, m, e1, e2, e3, m0, m1, mb⟩ := wide_m xb M0h.out M1h.out
        have gb := I.out.g
        obtain ⟨G1, hG1⟩ : ∃ G1, G1 = G + m := ⟨_, rfl⟩
        have GS : (G : Int) + (m : Int) = (G1 : Int) := by omega
        have WG : IntKind.u64.wrap (G1 : Int) = (G1 : Int) := by rw [IntKind.wrap_u64]; omega
        obtain ⟨A0, R0, E1, E2, eR0⟩ := wide_r (G1 := G1) M0h.out
        obtain ⟨A1, R1, E3, E4, eR1⟩ := wide_r (G1 := G1) M1h.out
        have mm : ((m : Int) != (m : Int)) = false := by simp
        have gg : ((G1 : Int) != (G1 : Int)) = false := by simp
        have B0 := Lib.hid I.out.b
        have k00 : 0 < k0 := by have := M0h.out.k8; omega
        have k10 : 0 < k1 := by have := M1h.out.k8; omega
        have RC : Hid (Calls Try.prog 8 #[.pointer (some ⟨N0, 0, none⟩), .int .u64 (R0 : Nat)] wr (ReadP wr N0 k0 R0 G1 m)) := by
          rw [hG1]
          exact pread9_ok wr N0 k0 ((g0 + G) % 2 ^ k0) G R0 m I.out.c0 k00 M0h.out.k6 (Nat.mod_lt _ (Nat.two_pow_pos k0)) m0 (by rw [eR0, hG1, Nat.mod_add_mod, Nat.add_assoc]) (by omega)
        have RD : Hid (∀ w', Ct w' N1 k1 ((g1 + G) % 2 ^ k1) G false → Calls Try.prog 8 #[.pointer (some ⟨N1, 0, none⟩), .int .u64 (R1 : Nat)] w' (ReadP w' N1 k1 R1 G1 m)) := fun w' c => by
          rw [hG1]
          exact pread9_ok w' N1 k1 ((g1 + G) % 2 ^ k1) G R1 m c k10 M1h.out.k6 (Nat.mod_lt _ (Nat.two_pow_pos k1)) m1 (by rw [eR1, hG1, Nat.mod_add_mod, Nat.add_assoc]) (by omega)
        have T0 : Hid (∀ w', Ct w' N0 k0 R0 G1 false → Calls Try.prog 9 #[.pointer (some ⟨N0, 0, none⟩)] w' fun r w'' => r = .returned (.int .u64 (G1 : Nat)) ∧ w'' = w') := fun w' c => ptotal9_any w' N0 k0 R0 G1 false c k00
        have T1 : Hid (∀ w', Ct w' N1 k1 R1 G1 false → Calls Try.prog 9 #[.pointer (some ⟨N1, 0, none⟩)] w' fun r w'' => r = .returned (.int .u64 (G1 : Nat)) ∧ w'' = w') := fun w' c => ptotal9_any w' N1 k1 R1 G1 false c k10
        have NA : Hid (∀ w', WidB w w' b0 b1 f0 f1 (some ⟨N0, 0, none⟩) (some ⟨N1, 0, none⟩) mk0 mk1 → Ct w' N0 k0 R0 G1 false → Ct w' N1 k1 R1 G1 false → WidL w w' b0 b1 f0 f1 N0 N1 k0 k1 g0 g1 mk0 mk1 G1 (q + 1) n) := fun w' b c d =>
          ⟨hq, by omega, by omega, b, by rw [← eR0]; exact c, by rw [← eR1]; exact d⟩
        have D0 := Lib.hid I.out.c1
        have u0 := blk_cell (o := 0) B0.out.pm
        have u1 := blk_cell (o := 1) B0.out.pm
        have u2 := blk_cell (o := 0) B0.out.pc
        have u3 := blk_cell (o := 0) B0.out.pf
        clear I eR0 eR1 hx hG1 xb m0 m1 mb gb k00 k10 HP HD hq h60 M0h M1h
        go_wp2_with fail
        refine RC.out.mono ?_; rintro e w4 ⟨rfl, c4, t4⟩
        have C4 := Lib.hid c4
        have D4 := Lib.hid (t4.ct D0.out (fun h => NE.out h.symm))
        have B4 := Lib.hid (B0.out.turn t4 H0.out)
        have v1 := blk_cell (o := 1) B4.out.pm
        have v2 := blk_cell (o := 1) B4.out.pc
        have v3 := blk_cell (o := 1) B4.out.pf
        clear c4 t4 RC B0 D0 u0 u1 u2 u3
        go_wp2_with fail
        refine (RD.out _ D4.out).mono ?_; rintro e w5 ⟨rfl, c5, t5⟩
        have D5 := Lib.hid c5
        have C5 := Lib.hid (t5.ct C4.out NE.out)
        have B5 := Lib.hid (B4.out.turn t5 H1.out)
        have y1 := blk_cell (o := 0) B5.out.pc
        have y2 := blk_cell (o := 1) B5.out.pc
        have Q0 := Lib.hid (fun j => T0.out (w5.drewN j) (C5.out.below (below_drewN (Below.refl _ _) j)))
        have Q1 := Lib.hid (fun j => T1.out (w5.drewN j) (D5.out.below (below_drewN (Below.refl _ _) j)))
        have NX : Hid (∀ j, WidL w (w5.drewN j) b0 b1 f0 f1 N0 N1 k0 k1 g0 g1 mk0 mk1 G1 (q + 1) n) := fun j => NA.out _ (B5.out.below (below_drewN (Below.refl _ _) j)) (C5.out.below (below_drewN (Below.refl _ _) j)) (D5.out.below (below_drewN (Below.refl _ _) j))
        clear c5 t5 C4 D4 B4 v1 v2 v3 T0 T1 NA RD
        go_wp2_with fail
        go_quiet (first
          | (go_at_call_of 9 N0; exact Calls.quiet_of_same (Q0.out _))
          | (go_at_call_of 9 N1; exact Calls.quiet_of_same (Q1.out _)))
        clear Q0 Q1
        go_wp2
        go_roundw
        case rel => exact ⟨G1, q + 1, rfl, by go_num, NX.out _⟩
        case measure => simp [intOf]; omega

theorem nat_of9 {x : Int} (h : 0 ≤ x) : ∃ n : Nat, x = (n : Int) := ⟨x.toNat, by omega⟩
theorem two_cells {k : IntKind} {C : Array Value} {zs : List Int} (hs : C.size = 2) (hl : C.toList = valsI k zs) (hw : ∀ z ∈ zs, 0 ≤ z) :
    ∃ b0 b1 : Nat, C = #[.int k (b0 : Nat), .int k (b1 : Nat)] ∧ ((b0 : Nat) : Int) ∈ zs ∧ ((b1 : Nat) : Int) ∈ zs := by
  have ln : zs.length = 2 := by
    have e := congrArg List.length hl
    rw [valsI_len, Array.length_toList, hs] at e
    exact e.symm
  match zs, ln with
  | [z0, z1], _ =>
    obtain ⟨b0, rfl⟩ := nat_of9 (hw z0 (by simp))
    obtain ⟨b1, rfl⟩ := nat_of9 (hw z1 (by simp))
    refine ⟨b0, b1, ?_, by simp, by simp⟩
    apply Array.toList_inj.1
    rw [hl]
    rfl

end Go.Proofs.Ytkhhaeoofebjlaa
