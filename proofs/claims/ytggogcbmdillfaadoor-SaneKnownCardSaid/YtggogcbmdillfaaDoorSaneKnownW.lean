/- SaneKnown: the chapter's rows; codes; ends: the walk. (Written by wip/tools/gensaneknown.py.) -/
import Derived.Test.YtggogcbmdillfaaDoorSaneE
import Derived.Deep.Heap
import Derived.Deep.DeepCutAuto
set_option maxRecDepth 100000
namespace Go.Proofs.YtggogcbmdillfaaDoor
open Go.ChangeShapes Go.WideShapes Go.ChangeAt Go.RowKit OctM StampM SaneM

attribute [local go_sem ↓] loadP_eq storeP_eq boxP_eq allocP_eq eqlS_eq

/-- A box is laid anew: what is known behind it. -/
theorem store_box {X : World} {N : Nat} {old : Array Value} (h : Hd) (hg : X.heap[N]? = some (.cells old 27 (0, 0))) (ho : old.size = 17) :
    ∃ X' : World, (storeP (.pointer (some ⟨N, 0, none⟩)) (pkV h Xt.zero)).run Tryd.prog X = .ok () X' ∧ X'.heap[N]? = some (.cells (pkC h Xt.zero) 27 (0, 0)) ∧ (∀ k, k ≠ N → X'.heap[k]? = X.heap[k]?) ∧ X'.heap.size = X.heap.size ∧ ∀ (B : Nat) (a : World), B ≤ N → Below B a X → Below B a X' :=
  ⟨X.setRow N (pkC h Xt.zero), store_pk h Xt.zero hg ho, setRow_heap _ _ _ _ _ _ hg, fun _ hk => setRow_other _ _ _ _ hk, setRow_size _ _ _, fun _ _ hB l => Below.setRow l hB _⟩
theorem zero_size : (pkC Hd.zero Xt.zero).size = 17 := rfl
def ZZ : Obj := .cells (pkC Hd.zero Xt.zero) 27
def GG : Obj := .cells (pkC goodH Xt.zero) 27
/-- two boxes, good ones. -/
theorem two_boxes (w : World) : ∃ X1 X2 : World, (storeP (.pointer (some ⟨w.heap.size, 0, none⟩)) (pkV goodH Xt.zero)).run Tryd.prog ((w.alloc (.cells (pkC Hd.zero Xt.zero) 27)).alloc (.cells (pkC Hd.zero Xt.zero) 27)) = .ok () X1 ∧
    (storeP (.pointer (some ⟨w.heap.size + 1, 0, none⟩)) (pkV goodH Xt.zero)).run Tryd.prog X1 = .ok () X2 ∧ X2.heap[w.heap.size]? = some GG ∧ X2.heap[w.heap.size + 1]? = some GG ∧ Below w.heap.size w X2 ∧ X2.heap.size = w.heap.size + 2 := by
  have b1 := heap_alloc2_old w (.cells (pkC Hd.zero Xt.zero) 27) (.cells (pkC Hd.zero Xt.zero) 27)
  have b2 := heap_alloc2_new w (.cells (pkC Hd.zero Xt.zero) 27) (.cells (pkC Hd.zero Xt.zero) 27)
  have l : Below w.heap.size w ((w.alloc (.cells (pkC Hd.zero Xt.zero) 27)).alloc (.cells (pkC Hd.zero Xt.zero) 27)) := ((Below.refl _ _).alloc (Nat.le_refl _) _).alloc (by simp) _
  have z : ((w.alloc (.cells (pkC Hd.zero Xt.zero) 27)).alloc (.cells (pkC Hd.zero Xt.zero) 27)).heap.size = w.heap.size + 2 := by simp
  obtain ⟨X1, s1, g1, o1, z1, k1⟩ := store_box goodH b1 zero_size
  obtain ⟨X2, s2, g2, o2, z2, k2⟩ := store_box goodH ((o1 _ (by omega)).trans b2) zero_size
  exact ⟨X1, X2, s1, s2, (o2 _ (by omega)).trans g1, g2, k2 _ _ (by omega) (k1 _ _ (by omega) l), by rw [z2, z1, z]⟩
theorem three_boxes (w : World) : ∃ X1 X2 X3 : World, (storeP (.pointer (some ⟨w.heap.size, 0, none⟩)) (pkV goodH Xt.zero)).run Tryd.prog (((w.alloc (.cells (pkC Hd.zero Xt.zero) 27)).alloc (.cells (pkC Hd.zero Xt.zero) 27)).alloc (.cells (pkC Hd.zero Xt.zero) 27)) = .ok () X1 ∧
    (storeP (.pointer (some ⟨w.heap.size + 1, 0, none⟩)) (pkV goodH Xt.zero)).run Tryd.prog X1 = .ok () X2 ∧ (storeP (.pointer (some ⟨w.heap.size + 1 + 1, 0, none⟩)) (pkV goodH Xt.zero)).run Tryd.prog X2 = .ok () X3 ∧
    X3.heap[w.heap.size]? = some GG ∧ X3.heap[w.heap.size + 1]? = some GG ∧ X3.heap[w.heap.size + 1 + 1]? = some GG ∧ Below w.heap.size w X3 := by
  have s0 : (w.alloc (.cells (pkC Hd.zero Xt.zero) 27)).heap.size = w.heap.size + 1 := by simp
  have b1 := heap_alloc2_old w (.cells (pkC Hd.zero Xt.zero) 27) (.cells (pkC Hd.zero Xt.zero) 27)
  have b2 := heap_alloc2_new w (.cells (pkC Hd.zero Xt.zero) 27) (.cells (pkC Hd.zero Xt.zero) 27)
  have b3 := heap_alloc2_new (w.alloc (.cells (pkC Hd.zero Xt.zero) 27)) (.cells (pkC Hd.zero Xt.zero) 27) (.cells (pkC Hd.zero Xt.zero) 27)
  rw [s0] at b3
  have l0 : Below w.heap.size w ((w.alloc (.cells (pkC Hd.zero Xt.zero) 27)).alloc (.cells (pkC Hd.zero Xt.zero) 27)) := ((Below.refl _ _).alloc (Nat.le_refl _) _).alloc (by simp) _
  have z0 : ((w.alloc (.cells (pkC Hd.zero Xt.zero) 27)).alloc (.cells (pkC Hd.zero Xt.zero) 27)).heap.size = w.heap.size + 2 := by simp
  have l1 : Below ((w.alloc (.cells (pkC Hd.zero Xt.zero) 27)).alloc (.cells (pkC Hd.zero Xt.zero) 27)).heap.size ((w.alloc (.cells (pkC Hd.zero Xt.zero) 27)).alloc (.cells (pkC Hd.zero Xt.zero) 27)) (((w.alloc (.cells (pkC Hd.zero Xt.zero) 27)).alloc (.cells (pkC Hd.zero Xt.zero) 27)).alloc (.cells (pkC Hd.zero Xt.zero) 27)) := (Below.refl _ _).alloc (Nat.le_refl _) _
  have l := l0.trans (l1.mono l0.size)
  obtain ⟨X1, s1, g1, o1, z1, k1⟩ := store_box goodH (pk8_keep b1 l1) zero_size
  obtain ⟨X2, s2, g2, o2, z2, k2⟩ := store_box goodH ((o1 _ (by omega)).trans (pk8_keep b2 l1)) zero_size
  obtain ⟨X3, s3, g3, o3, z3, k3⟩ := store_box goodH ((o2 _ (by omega)).trans ((o1 _ (by omega)).trans b3)) zero_size
  exact ⟨X1, X2, X3, s1, s2, s3, (o3 _ (by omega)).trans ((o2 _ (by omega)).trans g1), (o3 _ (by omega)).trans g2, g3, k3 _ _ (by omega) (k2 _ _ (by omega) (k1 _ _ (by omega) l))⟩

def farK : Hd := ⟨0, 0, 4, 1, 0, 0, 0, 1048577, 0, 0, 0, 1, 1⟩
def nearK : Hd := ⟨0, 0, 4, 1, 0, 0, 0, 1048576, 0, 0, 0, 1, 1⟩
def unsetK : Hd := ⟨3, 0, 4, 1, 0, 0, 65536, 32768, 0, 0, 0, 1, 1⟩
def unsentK : Hd := ⟨0, 0, 4, 1, 0, 0, 65536, 32768, 0, 0, 0, 1, 0⟩
def unheardK : Hd := ⟨0, 0, 4, 1, 0, 0, 65536, 32768, 0, 0, 0, 0, 1⟩
def denyK : Hd := ⟨0, 0, 0, 0, 0, 0, 0, 0, 1145392729, 0, 0, 0, 0⟩
def aK : Hd := ⟨0, 0, 0, 0, 0, 0, 0, 0, 1090519040, 0, 0, 0, 0⟩
def deepK : Hd := ⟨0, 0, 0, 255, 0, 0, 0, 0, 1145392729, 0, 0, 0, 0⟩
def oneK : Hd := ⟨0, 0, 0, 0, 0, 0, 1, 0, 0, 0, 0, 0, 0⟩
/-- the five packets of the examples in their boxes. -/
structure Five (N M : Nat) (v : World) : Prop where
  a : v.heap[N]? = some (.cells (pkC farK Xt.zero) 27 (0, 0))
  b : v.heap[N + 1]? = some (.cells (pkC nearK Xt.zero) 27 (0, 0))
  c : v.heap[M]? = some (.cells (pkC unsetK Xt.zero) 27 (0, 0))
  d : v.heap[M + 1]? = some (.cells (pkC unsentK Xt.zero) 27 (0, 0))
  e : v.heap[M + 1 + 1]? = some (.cells (pkC unheardK Xt.zero) 27 (0, 0))
theorem Five.keep {N M : Nat} {v v' : World} (f : Five N M v) (l : Below v.heap.size v v') : Five N M v' := ⟨pk8_keep f.a l, pk8_keep f.b l, pk8_keep f.c l, pk8_keep f.d l, pk8_keep f.e l⟩

theorem t_far : testH farK = 24 := by decide +kernel
theorem t_near : testH nearK = 0 := by decide +kernel
theorem t_unset : testH unsetK = 24 := by decide +kernel
theorem t_unsent : testH unsentK = 24 := by decide +kernel
theorem t_unheard : testH unheardK = 24 := by decide +kernel
theorem r_near : rhoN nearK.de nearK.di = 16000000000 := by decide +kernel
theorem r_one : rhoN oneK.de oneK.di = 7630 := by decide +kernel
theorem k_deny : kissS 0 1145392729 = ⟨#[68, 69, 78, 89]⟩ := by decide +kernel
theorem k_a : kissS 0 1090519040 = ⟨#[65]⟩ := by decide +kernel
theorem k_zero : kissS 0 0 = ⟨#[]⟩ := by decide +kernel
theorem a_deny : actS ⟨#[68, 69, 78, 89]⟩ = 2 := by decide +kernel
theorem a_rstr : actS ⟨#[82, 83, 84, 82]⟩ = 2 := by decide +kernel
theorem a_rate : actS ⟨#[114, 97, 116, 101]⟩ = 0 := by decide +kernel
theorem a_none : actS ⟨#[]⟩ = 0 := by decide +kernel

theorem kiss_code {S : ByteArray} {b : Bool} (h : Hd) (hr : h.ri < 4294967296) (e : kissS h.st h.ri = S) (f : decide (h.st = 0) = b) : ∀ w, Calls Tryd.prog 8 #[pkV h Xt.zero] w fun e w' => e = .returned (.tuple #[.string S, .bool b]) ∧ Below w.heap.size w w' := fun w => by
  have := pkiss8_any w h Xt.zero hr
  rwa [e, f] at this
theorem test_code {n : Nat} (h : Hd) (h1 : h.de < 4294967296) (h2 : h.di < 4294967296) (e : testH h = n) : ∀ w, Calls Tryd.prog 14 #[pkV h Xt.zero] w fun e w' => e = .returned (.int .i64 (n : Nat)) ∧ Below w.heap.size w w' := fun w => e ▸ ptest8_any w h Xt.zero h1 h2
theorem rho_code {n : Nat} (h : Hd) (h1 : h.de < 4294967296) (h2 : h.di < 4294967296) (e : rhoN h.de h.di = n) : ∀ w, Calls Tryd.prog 12 #[pkV h Xt.zero] w fun e w' => e = .returned (.int .i64 (n : Nat)) ∧ Below w.heap.size w w' := fun w => e ▸ prho8_any w h Xt.zero h1 h2
theorem act_code {n : Int} (s : ByteArray) (e : actS s = n) : ∀ w, Calls Tryd.prog 10 #[.string s] w fun e w' => e = .returned (.int .i64 n) ∧ w' = w := fun w => e ▸ pact8_any w s
theorem eql_same (S : ByteArray) (w : World) : (eqlS (.string S) (.string S)).run Tryd.prog w = .ok (.bool true) w := by rw [eql_any, decide_eq_true rfl]

theorem set_de {v : World} {N : Nat} {h : Hd} (d : Nat) (hg : v.heap[N]? = some (.cells (pkC h Xt.zero) 27 (0, 0))) :
    ((v.setCell ⟨N, 6, none⟩ (.int .u32 0)).setCell ⟨N, 7, none⟩ (.int .u32 (d : Nat))).heap[N]? = some (.cells (pkC { h with de := 0, di := d } Xt.zero) 27 (0, 0)) :=
  blk_set (o := 7) (u := .int .u32 (d : Nat)) (blk_set (o := 6) (u := .int .u32 0) hg)
theorem two_far {v : World} {N M : Nat} {a b : Nat} {u u' : Value} {o : Obj} (n : N ≠ M) (hg : v.heap[N]? = some o) : ((v.setCell ⟨M, a, none⟩ u).setCell ⟨M, b, none⟩ u').heap[N]? = some o := by
  rw [Go.Deep.blk_setCell_other _ _ _ _ n, Go.Deep.blk_setCell_other _ _ _ _ n]; exact hg
theorem one_far {v : World} {N M : Nat} {a : Nat} {u : Value} {o : Obj} (n : N ≠ M) (hg : v.heap[N]? = some o) : (v.setCell ⟨M, a, none⟩ u).heap[N]? = some o := by
  rw [Go.Deep.blk_setCell_other _ _ _ _ n]; exact hg

set_option maxHeartbeats 4000000 in
theorem known8_walk (w : World) : Calls Tryd.prog 7 #[] w fun e w' => e = .returned (.bool true) ∧ Below w.heap.size w w' := by
  obtain ⟨B, hB⟩ : ∃ B, w.heap.size = B := ⟨_, rfl⟩
  rw [hB]
  replace hB := Lib.hid hB
  have az := alloc_pk
  have K1 := Lib.hid (kiss_code denyK (by decide) k_deny rfl)
  have K2 := Lib.hid (kiss_code aK (by decide) k_a rfl)
  have K3 := Lib.hid (kiss_code Hd.zero (by decide) k_zero rfl)
  have K4 := Lib.hid (kiss_code deepK (by decide) (S := ⟨#[]⟩) (b := false) rfl rfl)
  have T1 := Lib.hid (test_code farK (by decide) (by decide) t_far)
  have T2 := Lib.hid (test_code nearK (by decide) (by decide) t_near)
  have T3 := Lib.hid (rho_code nearK (by decide) (by decide) r_near)
  have T4 := Lib.hid (test_code unsetK (by decide) (by decide) t_unset)
  have T5 := Lib.hid (test_code unsentK (by decide) (by decide) t_unsent)
  have T6 := Lib.hid (test_code unheardK (by decide) (by decide) t_unheard)
  have A1 := Lib.hid (act_code ⟨#[68, 69, 78, 89]⟩ a_deny)
  have A2 := Lib.hid (act_code ⟨#[82, 83, 84, 82]⟩ a_rstr)
  have A3 := Lib.hid (act_code ⟨#[114, 97, 116, 101]⟩ a_rate)
  have A4 := Lib.hid (act_code ⟨#[]⟩ a_none)
  have R1 := Lib.hid (rho_code oneK (by decide) (by decide) r_one)
  have Q1 := eql_same ⟨#[68, 69, 78, 89]⟩
  have Q2 := eql_same ⟨#[65]⟩
  have Q3 := eql_same ⟨#[]⟩
  go_enter Tryd.func7, Tryd.ntmps7
  go_wp2_with fail
  refine (good8_any _).mono ?_; rintro e w1 ⟨rfl, l1⟩
  have L1 : Hid (Below B w w1) := hB.out ▸ l1
  clear l1
  go_wp2_with fail
  refine (good8_any _).mono ?_; rintro e w2 ⟨rfl, l2⟩
  have L2 := Lib.hid (low_call hB.out L1.out l2)
  clear l2 L1
  obtain ⟨x1, x2, s1, s2, g1, g2, l3, z3⟩ := two_boxes w2
  have G1 := Lib.hid g1
  have G2 := Lib.hid g2
  have L3 := Lib.hid (low_call hB.out L2.out l3)
  have N0 := Lib.hid (low_size hB.out L2.out)
  have Z3 := Lib.hid z3
  clear g1 g2 l3 z3 L2
  go_upto_region 2 with fail
  generalize w2.heap.size = N at *
  have g6 := pk8_cell (v := .int .u32 65536) G1.out 6 rfl
  have g7 := pk8_cell (v := .int .u32 32768) G1.out 7 rfl
  have f6 := blk_free (o := 6) (show x2.heap[N]? = some (.cells (pkC goodH Xt.zero) 27 (0, 0)) from G1.out)
  have f7 := blk_free (o := 7) (show x2.heap[N]? = some (.cells (pkC goodH Xt.zero) 27 (0, 0)) from G1.out)
  have A4 : Hid (((x2.setCell ⟨N, 6, none⟩ (.int .u32 0)).setCell ⟨N, 7, none⟩ (.int .u32 1048577)).heap[N]? = some (.cells (pkC farK Xt.zero) 27 (0, 0))) := set_de 1048577 G1.out
  have B4 : Hid (((x2.setCell ⟨N, 6, none⟩ (.int .u32 0)).setCell ⟨N, 7, none⟩ (.int .u32 1048577)).heap[N + 1]? = some (.cells (pkC goodH Xt.zero) 27 (0, 0))) := two_far (by omega) G2.out
  have L4 : Hid (Below B w ((x2.setCell ⟨N, 6, none⟩ (.int .u32 0)).setCell ⟨N, 7, none⟩ (.int .u32 1048577))) := (L3.out.setCell N0.out _).setCell N0.out _
  have Z4 : Hid (((x2.setCell ⟨N, 6, none⟩ (.int .u32 0)).setCell ⟨N, 7, none⟩ (.int .u32 1048577)).heap.size = N + 2) := by unfold Hid; simp; exact Z3.out
  go_upto_region 3 with fail
  generalize (x2.setCell ⟨N, 6, none⟩ (.int .u32 0)).setCell ⟨N, 7, none⟩ (.int .u32 1048577) = y1 at *
  clear G1 G2 L3 Z3 g6 g7 f6 f7 s1 s2
  have g6 := pk8_cell (v := .int .u32 65536) B4.out 6 rfl
  have g7 := pk8_cell (v := .int .u32 32768) B4.out 7 rfl
  have f6 := blk_free (o := 6) B4.out
  have f7 := blk_free (o := 7) B4.out
  have B5 : Hid (((y1.setCell ⟨N + 1, 6, none⟩ (.int .u32 0)).setCell ⟨N + 1, 7, none⟩ (.int .u32 1048576)).heap[N + 1]? = some (.cells (pkC nearK Xt.zero) 27 (0, 0))) := set_de 1048576 B4.out
  have A5 : Hid (((y1.setCell ⟨N + 1, 6, none⟩ (.int .u32 0)).setCell ⟨N + 1, 7, none⟩ (.int .u32 1048576)).heap[N]? = some (.cells (pkC farK Xt.zero) 27 (0, 0))) := two_far (by omega) A4.out
  have L5 : Hid (Below B w ((y1.setCell ⟨N + 1, 6, none⟩ (.int .u32 0)).setCell ⟨N + 1, 7, none⟩ (.int .u32 1048576))) := (L4.out.setCell (Nat.le_succ_of_le N0.out) _).setCell (Nat.le_succ_of_le N0.out) _
  have Z5 : Hid (((y1.setCell ⟨N + 1, 6, none⟩ (.int .u32 0)).setCell ⟨N + 1, 7, none⟩ (.int .u32 1048576)).heap.size = N + 2) := by unfold Hid; simp; exact Z4.out
  go_upto_region 4 with fail
  generalize (y1.setCell ⟨N + 1, 6, none⟩ (.int .u32 0)).setCell ⟨N + 1, 7, none⟩ (.int .u32 1048576) = y2 at *
  clear A4 B4 L4 Z4 g6 g7 f6 f7
  go_wp2_with fail
  refine (good8_any _).mono ?_; rintro e w3 ⟨rfl, l3⟩
  go_wp2_with fail
  refine (good8_any _).mono ?_; rintro e w4 ⟨rfl, l4⟩
  go_wp2_with fail
  refine (good8_any _).mono ?_; rintro e w5 ⟨rfl, l5⟩
  have l35 := l3.trans ((l4.trans (l5.mono l4.size)).mono l3.size)
  have A6 := pk8_keep A5.out l35
  have B6 := pk8_keep B5.out l35
  have Z6 : N + 2 ≤ w5.heap.size := by have := l35.size; have := Z5.out; omega
  have L6 := Lib.hid (low_call hB.out L5.out l35)
  obtain ⟨x3, x4, x5, s1, s2, s3, g1, g2, g3, lx⟩ := three_boxes w5
  have A7 := Lib.hid (pk8_keep A6 lx)
  have B7 := Lib.hid (pk8_keep B6 lx)
  have L7 := Lib.hid (low_call hB.out L6.out lx)
  have C7 : Hid (x5.heap[w5.heap.size]? = some (.cells (pkC goodH Xt.zero) 27 (0, 0))) := g1
  have D7 : Hid (x5.heap[w5.heap.size + 1]? = some (.cells (pkC goodH Xt.zero) 27 (0, 0))) := g2
  have E7 : Hid (x5.heap[w5.heap.size + 1 + 1]? = some (.cells (pkC goodH Xt.zero) 27 (0, 0))) := g3
  have M7 := Lib.hid Z6
  clear l3 l4 l5 l35 A6 B6 Z6 L6 g1 g2 g3 lx A5 B5 L5 Z5
  go_upto_region 5 with fail
  generalize w5.heap.size = M at *
  clear s1 s2 s3
  have n0 : N ≠ M := by have := M7.out; omega
  have n1 : N ≠ M + 1 := by have := M7.out; omega
  have n2 : N ≠ M + 1 + 1 := by have := M7.out; omega
  have n3 : N + 1 ≠ M := by have := M7.out; omega
  have n4 : N + 1 ≠ M + 1 := by have := M7.out; omega
  have n5 : N + 1 ≠ M + 1 + 1 := by have := M7.out; omega
  have u0 := pk8_cell (v := .int .u8 0) C7.out 0 rfl
  have f0 := blk_free (o := 0) C7.out
  have v0 := pk8_cell (v := .int .u64 1) D7.out 12 rfl
  have f1 := blk_free (o := 12) D7.out
  have t0 := pk8_cell (v := .int .u64 1) E7.out 11 rfl
  have f2 := blk_free (o := 11) E7.out
  have ML : Hid (B ≤ M) := by have := M7.out; have := N0.out; unfold Hid; omega
  have FV : Hid (Five N M (((x5.setCell ⟨M, 0, none⟩ (.int .u8 3)).setCell ⟨M + 1, 12, none⟩ (.int .u64 0)).setCell ⟨M + 1 + 1, 11, none⟩ (.int .u64 0))) := by
    refine ⟨one_far n2 (one_far n1 (one_far n0 A7.out)), one_far n5 (one_far n4 (one_far n3 B7.out)), one_far (by omega) (one_far (by omega) ?_), one_far (by omega) ?_, ?_⟩
    · exact blk_set (o := 0) (u := .int .u8 3) C7.out
    · exact blk_set (o := 12) (u := .int .u64 0) (one_far (by omega) D7.out)
    · exact blk_set (o := 11) (u := .int .u64 0) (one_far (by omega) (one_far (by omega) E7.out))
  have L8 : Hid (Below B w (((x5.setCell ⟨M, 0, none⟩ (.int .u8 3)).setCell ⟨M + 1, 12, none⟩ (.int .u64 0)).setCell ⟨M + 1 + 1, 11, none⟩ (.int .u64 0))) := ((L7.out.setCell ML.out _).setCell (Nat.le_succ_of_le ML.out) _).setCell (Nat.le_succ_of_le (Nat.le_succ_of_le ML.out)) _
  clear n0 n1 n2 n3 n4 n5 A7 B7 C7 D7 E7 L7
  go_upto_region 6 with fail
  generalize ((x5.setCell ⟨M, 0, none⟩ (.int .u8 3)).setCell ⟨M + 1, 12, none⟩ (.int .u64 0)).setCell ⟨M + 1 + 1, 11, none⟩ (.int .u64 0) = y3 at *
  clear u0 v0 t0 f0 f1 f2 ML M7 N0
  go_wp2_with fail
  refine (K1.out _).mono ?_; rintro e y4 ⟨rfl, l4⟩
  have FV := Lib.hid (FV.out.keep l4)
  have L8 := Lib.hid (low_call hB.out L8.out l4)
  clear l4 K1
  go_wp2_with fail
  refine (K2.out _).mono ?_; rintro e y4 ⟨rfl, l4⟩
  have FV := Lib.hid (FV.out.keep l4)
  have L8 := Lib.hid (low_call hB.out L8.out l4)
  clear l4 K2
  go_wp2_with fail
  refine (K3.out _).mono ?_; rintro e y4 ⟨rfl, l4⟩
  have FV := Lib.hid (FV.out.keep l4)
  have L8 := Lib.hid (low_call hB.out L8.out l4)
  clear l4 K3
  go_wp2_with fail
  refine (K4.out _).mono ?_; rintro e y4 ⟨rfl, l4⟩
  have FV := Lib.hid (FV.out.keep l4)
  have L8 := Lib.hid (low_call hB.out L8.out l4)
  have LD := load_pk FV.out.a
  clear l4 K4
  go_wp2_with fail
  refine (T1.out _).mono ?_; rintro e y4 ⟨rfl, l4⟩
  clear LD
  have FV := Lib.hid (FV.out.keep l4)
  have L8 := Lib.hid (low_call hB.out L8.out l4)
  have LD := load_pk FV.out.b
  clear l4 T1
  go_wp2_with fail
  refine (T2.out _).mono ?_; rintro e y4 ⟨rfl, l4⟩
  clear LD
  have FV := Lib.hid (FV.out.keep l4)
  have L8 := Lib.hid (low_call hB.out L8.out l4)
  have LD := load_pk FV.out.b
  clear l4 T2
  go_wp2_with fail
  refine (T3.out _).mono ?_; rintro e y4 ⟨rfl, l4⟩
  clear LD
  have FV := Lib.hid (FV.out.keep l4)
  have L8 := Lib.hid (low_call hB.out L8.out l4)
  have LD := load_pk FV.out.c
  clear l4 T3
  go_wp2_with fail
  refine (T4.out _).mono ?_; rintro e y4 ⟨rfl, l4⟩
  clear LD
  have FV := Lib.hid (FV.out.keep l4)
  have L8 := Lib.hid (low_call hB.out L8.out l4)
  have LD := load_pk FV.out.d
  clear l4 T4
  go_wp2_with fail
  refine (T5.out _).mono ?_; rintro e y4 ⟨rfl, l4⟩
  clear LD
  have FV := Lib.hid (FV.out.keep l4)
  have L8 := Lib.hid (low_call hB.out L8.out l4)
  have LD := load_pk FV.out.e
  clear l4 T5
  go_wp2_with fail
  refine (T6.out _).mono ?_; rintro e y4 ⟨rfl, l4⟩
  clear LD
  have FV := Lib.hid (FV.out.keep l4)
  have L8 := Lib.hid (low_call hB.out L8.out l4)
  clear l4 T6
  go_wp2_with fail
  refine (A1.out _).mono ?_; rintro e y5 ⟨rfl, rfl⟩
  clear A1
  go_wp2_with fail
  refine (A2.out _).mono ?_; rintro e y5 ⟨rfl, rfl⟩
  clear A2
  go_wp2_with fail
  refine (A3.out _).mono ?_; rintro e y5 ⟨rfl, rfl⟩
  clear A3
  go_wp2_with fail
  refine (A4.out _).mono ?_; rintro e y5 ⟨rfl, rfl⟩
  clear A4
  go_wp2_with fail
  refine (R1.out _).mono ?_; rintro e y4 ⟨rfl, l4⟩
  have L8 := Lib.hid (low_call hB.out L8.out l4)
  clear l4 R1
  go_wp2_with fail
  refine (alive8_any _).mono ?_; rintro e y4 ⟨rfl, l4⟩
  have L8 := Lib.hid (low_call hB.out L8.out l4)
  clear l4
  go_wp2
  go_ret
  exact ⟨rfl, L8.out⟩
end Go.Proofs.YtggogcbmdillfaaDoor
