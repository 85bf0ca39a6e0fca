/- SaneFar: with a greater Delay, or Disp, the root distance is not less: the walk. -/
import Derived.Test.YtggogcbmdillfaaDoorSaneE
import Derived.Deep.RegionHeld3
import Derived.Deep.RegionWith
import Derived.Deep.DeepCutAuto
import Derived.Deep.Heap
set_option maxRecDepth 100000
namespace Go.Proofs.YtggogcbmdillfaaDoor
open Go.ChangeShapes Go.WideShapes Go.ChangeAt Go.RowKit OctM StampM SaneM

attribute [local go_sem ↓] loadP_eq storeP_eq boxP_eq allocP_eq eqlS_eq

def Hd.far (h : Hd) (de di : Nat) : Hd := { h with de := de, di := di }
theorem set_far8 {v : World} {N : Nat} {h : Hd} {x : Xt} (a b : Nat) (hg : v.heap[N]? = some (.cells (pkC h x) 27 (0, 0))) :
    ((v.setCell ⟨N, 6, none⟩ (.int .u32 (a : Nat))).setCell ⟨N, 7, none⟩ (.int .u32 (b : Nat))).heap[N]? = some (.cells (pkC (h.far a b) x) 27 (0, 0)) :=
  blk_set (o := 7) (u := .int .u32 (b : Nat)) (blk_set (o := 6) (u := .int .u32 (a : Nat)) hg)

theorem far_test (h : Hd) {a b c d : Nat} (R : rhoN a b ≤ rhoN c d) : testH (h.far a b) ≠ 0 → testH ((h.far a b).far c d) ≠ 0 := by
  show testN h.lp h.mo h.st h.rc h.xm (rhoN a b) ≠ 0 → testN h.lp h.mo h.st h.rc h.xm (rhoN c d) ≠ 0
  unfold testN
  split
  · intro _; decide
  · split
    · intro _; decide
    · split
      · rename_i k
        intro _
        rw [if_pos (show deaf h.lp h.st h.rc h.xm (rhoN c d) by unfold deaf at *; omega)]
        decide
      · intro k; exact absurd rfl k

set_option maxHeartbeats 4000000 in
theorem far8_walk (w : World) (h : Hd) (x : Xt) (d1 d2 : Nat) (k1 : d1 < 4294967296) (k2 : d2 < 4294967296) :
    Calls Tryd.prog 6 #[pkV h x, .int .u32 (d1 : Nat), .int .u32 (d2 : Nat)] w fun e w' => e = .returned (.bool true) ∧ Below w.heap.size w w' := by
  obtain ⟨N, hN⟩ : ∃ N, w.heap.size = N := ⟨_, rfl⟩
  have az := alloc_pk
  have bx := box_pk h x w
  have B0 : Hid ((w.alloc (.cells (pkC h x) 27)).heap[w.heap.size]? = some (.cells (pkC h x) 27 (0, 0))) := heap_alloc_new w _
  have NB : Hid (w.heap.size < (w.alloc (.cells (pkC h x) 27)).heap.size) := by unfold Hid; simp
  have L0 : Hid (Below w.heap.size w (w.alloc (.cells (pkC h x) 27))) := (Below.refl _ _).alloc (Nat.le_refl _) _
  rw [hN] at bx B0 NB L0 ⊢
  have HN := Lib.hid hN
  clear hN
  have c6 := pk8_cell (v := .int .u32 (h.de : Nat)) B0.out 6 rfl
  have c7 := pk8_cell (v := .int .u32 (h.di : Nat)) B0.out 7 rfl
  have f6 := blk_free (o := 6) B0.out
  have f7 := blk_free (o := 7) B0.out
  obtain ⟨a, ea⟩ : ∃ a : Nat, (h.de : Int) % 16777216 = (a : Int) := ⟨h.de % 16777216, by omega⟩
  obtain ⟨b, eb⟩ : ∃ b : Nat, (h.di : Int) % 16777216 = (b : Int) := ⟨h.di % 16777216, by omega⟩
  have ab : a < 16777216 := by omega
  have bb : b < 16777216 := by omega
  have B1 := Lib.hid (set_far8 a b B0.out)

  go_enter Tryd.func6, Tryd.ntmps6
  go_upto_region 1 with fail
  generalize w.alloc (.cells (pkC h x) 27) = v at *
  go_upto_region 2 with fail
  have L1 : Hid (Below N w ((v.setCell ⟨N, 6, none⟩ (.int .u32 (a : Nat))).setCell ⟨N, 7, none⟩ (.int .u32 (b : Nat)))) := (L0.out.setCell (Nat.le_refl _) _).setCell (Nat.le_refl _) _
  have S1 : Hid (N < ((v.setCell ⟨N, 6, none⟩ (.int .u32 (a : Nat))).setCell ⟨N, 7, none⟩ (.int .u32 (b : Nat))).heap.size) := by unfold Hid; simp; exact NB.out
  generalize (v.setCell ⟨N, 6, none⟩ (.int .u32 (a : Nat))).setCell ⟨N, 7, none⟩ (.int .u32 (b : Nat)) = v2 at *
  clear B0 L0 c6 c7 f6 f7 NB bx
  have LD2 := load_pk B1.out
  have SN := store_new v2 (pkC Hd.zero Xt.zero) (h.far a b) x rfl
  have AL : Below v2.heap.size v2 (v2.alloc (.cells (pkC (h.far a b) x) 27)) := (Below.refl _ _).alloc (Nat.le_refl _) _
  have P3 := Lib.hid (pk8_keep B1.out AL)
  have Q3 : Hid ((v2.alloc (.cells (pkC (h.far a b) x) 27)).heap[v2.heap.size]? = some (.cells (pkC (h.far a b) x) 27 (0, 0))) := heap_alloc_new v2 _
  have L3 : Hid (Below N w (v2.alloc (.cells (pkC (h.far a b) x) 27))) := low_alloc HN.out L1.out _
  have NM := S1.out
  have S3 : Hid (v2.heap.size < (v2.alloc (.cells (pkC (h.far a b) x) 27)).heap.size) := by unfold Hid; simp
  go_upto_region 3 with fail
  generalize v2.alloc (.cells (pkC (h.far a b) x) 27) = v3 at *
  generalize v2.heap.size = M at *
  clear AL B1 LD2 SN L1 S1
  have n1 : ¬ N = M := by omega
  have n2 : ¬ M = N := by omega
  have p6 := pk8_cell (v := .int .u32 (a : Nat)) P3.out 6 rfl
  have p7 := pk8_cell (v := .int .u32 (b : Nat)) P3.out 7 rfl
  have q6 := pk8_cell (v := .int .u32 (a : Nat)) Q3.out 6 rfl
  have q7 := pk8_cell (v := .int .u32 (b : Nat)) Q3.out 7 rfl
  have f6 := blk_free (o := 6) Q3.out
  have f7 := blk_free (o := 7) Q3.out
  obtain ⟨e1, i1⟩ : ∃ a : Nat, (d1 : Int) % 16777216 = (a : Int) := ⟨d1 % 16777216, by omega⟩
  obtain ⟨e2, i2⟩ : ∃ a : Nat, (d2 : Int) % 16777216 = (a : Int) := ⟨d2 % 16777216, by omega⟩
  obtain ⟨c, ec⟩ : ∃ c : Nat, (a : Int) + (e1 : Int) = (c : Int) := ⟨a + e1, by omega⟩
  obtain ⟨d, ed⟩ : ∃ c : Nat, (b : Int) + (e2 : Int) = (c : Int) := ⟨b + e2, by omega⟩
  have w1 : IntKind.u32.wrap (c : Int) = (c : Int) := by rw [IntKind.wrap_u32]; omega
  have w2 : IntKind.u32.wrap (d : Int) = (d : Int) := by rw [IntKind.wrap_u32]; omega
  have ac : Hid (a ≤ c ∧ c < 33554432) := ⟨by omega, by omega⟩
  have bd : Hid (b ≤ d ∧ d < 33554432) := ⟨by omega, by omega⟩
  have Q4 := Lib.hid (set_far8 c d Q3.out)
  go_region
  have L4 : Hid (Below N w ((v3.setCell ⟨M, 6, none⟩ (.int .u32 (c : Nat))).setCell ⟨M, 7, none⟩ (.int .u32 (d : Nat)))) := (L3.out.setCell (Nat.le_of_lt NM) _).setCell (Nat.le_of_lt NM) _
  have P4 : Hid (((v3.setCell ⟨M, 6, none⟩ (.int .u32 (c : Nat))).setCell ⟨M, 7, none⟩ (.int .u32 (d : Nat))).heap[N]? = some (.cells (pkC (h.far a b) x) 27 (0, 0))) := by
    unfold Hid
    rw [Go.Deep.blk_setCell_other _ _ _ _ n1, Go.Deep.blk_setCell_other _ _ _ _ n1]
    exact P3.out
  generalize (v3.setCell ⟨M, 6, none⟩ (.int .u32 (c : Nat))).setCell ⟨M, 7, none⟩ (.int .u32 (d : Nat)) = v4 at *
  clear P3 Q3 L3 p6 p7 q6 q7 f6 f7
  have R1 : Hid (∀ w, Calls Tryd.prog 12 #[pkV (h.far a b) x] w fun e w' => e = .returned (.int .i64 (rhoN a b : Nat)) ∧ Below w.heap.size w w') := fun w => prho8_any w (h.far a b) x (show a < 4294967296 by omega) (show b < 4294967296 by omega)
  have R2 : Hid (∀ w, Calls Tryd.prog 12 #[pkV ((h.far a b).far c d) x] w fun e w' => e = .returned (.int .i64 (rhoN c d : Nat)) ∧ Below w.heap.size w w') := fun w => prho8_any w ((h.far a b).far c d) x (show c < 4294967296 by have := ac.out; omega) (show d < 4294967296 by have := bd.out; omega)
  obtain ⟨b2, j2⟩ : ∃ n : Nat, (b : Int) + 65536 = (n : Int) := ⟨b + 65536, by omega⟩
  obtain ⟨a2, j1⟩ : ∃ n : Nat, (a : Int) + 131072 = (n : Int) := ⟨a + 131072, by omega⟩
  have w3 : IntKind.u32.wrap (b2 : Int) = (b2 : Int) := by rw [IntKind.wrap_u32]; omega
  have w4 : IntKind.u32.wrap (a2 : Int) = (a2 : Int) := by rw [IntKind.wrap_u32]; omega
  have R3 : Hid (∀ w, Calls Tryd.prog 12 #[pkV ((h.far a b).far a b2) x] w fun e w' => e = .returned (.int .i64 (rhoN a b2 : Nat)) ∧ Below w.heap.size w w') := fun w => prho8_any w ((h.far a b).far a b2) x (show a < 4294967296 by omega) (show b2 < 4294967296 by omega)
  have R4 : Hid (∀ w, Calls Tryd.prog 12 #[pkV ((h.far a b).far a2 b) x] w fun e w' => e = .returned (.int .i64 (rhoN a2 b : Nat)) ∧ Below w.heap.size w w') := fun w => prho8_any w ((h.far a b).far a2 b) x (show a2 < 4294967296 by omega) (show b < 4294967296 by omega)
  obtain ⟨R9, j9⟩ : ∃ n : Nat, (rhoN a b : Int) + 1000000000 = (n : Int) := ⟨rhoN a b + 1000000000, by omega⟩
  rw [show b2 = b + 65536 by omega, rho_disp, show rhoN a b + 1000000000 = R9 by omega] at R3
  rw [show a2 = a + 131072 by omega, rho_delay, show rhoN a b + 1000000000 = R9 by omega] at R4
  rw [show b + 65536 = b2 by omega] at R3
  rw [show a + 131072 = a2 by omega] at R4
  have T1 := Lib.hid (fun w => ptest8_any w (h.far a b) x (show a < 4294967296 by omega) (show b < 4294967296 by omega))
  have T2 := Lib.hid (fun w => ptest8_any w ((h.far a b).far c d) x (show c < 4294967296 by have := ac.out; omega) (show d < 4294967296 by have := bd.out; omega))
  have RM : rhoN a b ≤ rhoN c d := rho_mono ac.out.1 bd.out.1
  have RL : rhoN a b ≤ 98303999977114 := rho_lt (by omega) (by omega)
  have TT : Hid (testH (h.far a b) ≠ 0 → testH ((h.far a b).far c d) ≠ 0) := far_test h RM
  generalize rhoN a b = R at *
  generalize rhoN c d = R' at *
  generalize testH (h.far a b) = T at *
  generalize testH ((h.far a b).far c d) = T' at *
  have i9 : decide (R' < R) = false := decide_eq_false (by omega)
  have i8 : decide ((R' : Int) < (R : Int)) = false := decide_eq_false (by omega)
  have P5 : Hid (v4.drew.heap[N]? = some (.cells (pkC (h.far a b) x) 27 (0, 0))) := P4.out
  have Q5 : Hid (v4.drew.heap[M]? = some (.cells (pkC ((h.far a b).far c d) x) 27 (0, 0))) := Q4.out
  have L5 : Hid (Below N w v4.drew) := L4.out.drew
  generalize v4.drew = v5 at *
  clear P4 Q4 L4
  have HB0 : Below v5.heap.size v5 v5.drew := (Below.refl _ _).drew
  have K : Hid (∀ w', Below v5.heap.size v5 w' → (loadP (.pointer (some ⟨N, 0, none⟩))).run Tryd.prog w' = .ok (pkV (h.far a b) x) w' ∧ (loadP (.pointer (some ⟨M, 0, none⟩))).run Tryd.prog w' = .ok (pkV ((h.far a b).far c d) x) w') := fun w' k => ⟨load_pk (pk8_keep P5.out k), load_pk (pk8_keep Q5.out k)⟩
  go_wp2_with fail
  go_region_held3 (fun w' => (loadP (.pointer (some ⟨N, 0, none⟩))).run Tryd.prog w' = .ok (pkV (h.far a b) x) w' ∧ (loadP (.pointer (some ⟨M, 0, none⟩))).run Tryd.prog w' = .ok (pkV ((h.far a b).far c d) x) w')
    (first | exact K.out _ HB0)
    (first
      | (go_at_call_of 12 c; refine (R2.out _).mono ?_; rintro e w4 ⟨rfl, o4⟩; have HB0 := HB0.trans (o4.mono HB0.size); clear o4)
      | (go_at_call 12; refine (R1.out _).mono ?_; rintro e w4 ⟨rfl, o4⟩; have HB0 := HB0.trans (o4.mono HB0.size); clear o4))
  rename World => v6
  have P6 := Lib.hid (pk8_keep P5.out HB0)
  have Q6 := Lib.hid (pk8_keep Q5.out HB0)
  have L6 := Lib.hid (low_call HN.out L5.out HB0)
  have LDP := load_pk P6.out
  clear HB0 K P5 Q5 L5 R1 R2
  by_cases t0 : T = 0
  · subst t0
    clear TT
    go_wp2_with fail
    refine (T1.out _).mono ?_; rintro e v6 ⟨rfl, l5⟩
    have P6 := Lib.hid (pk8_keep P6.out l5)
    have L6 := Lib.hid (low_call HN.out L6.out l5)
    clear l5 LDP Q6 T1 T2
    have LDN := load_pk P6.out
    have SN := store_new v6 (pkC Hd.zero Xt.zero) (h.far a b) x rfl
    have AL : Below v6.heap.size v6 (v6.alloc (.cells (pkC (h.far a b) x) 27)) := (Below.refl _ _).alloc (Nat.le_refl _) _
    have P7 := Lib.hid (pk8_keep P6.out AL)
    have Q7 : Hid ((v6.alloc (.cells (pkC (h.far a b) x) 27)).heap[v6.heap.size]? = some (.cells (pkC (h.far a b) x) 27 (0, 0))) := heap_alloc_new v6 _
    have L7 := Lib.hid (low_alloc HN.out L6.out (.cells (pkC (h.far a b) x) 27))
    have NK : N < v6.heap.size := by have := (Array.getElem?_eq_some_iff.1 P6.out).1; omega
    have SZ : Hid ((v6.alloc (.cells (pkC (h.far a b) x) 27)).heap.size = v6.heap.size + 1) := by unfold Hid; simp
    go_upto_region 8 with fail
    generalize v6.alloc (.cells (pkC (h.far a b) x) 27) = v7 at *
    generalize v6.heap.size = K at *
    have q7 := pk8_cell (v := .int .u32 (b : Nat)) Q7.out 7 rfl
    have f7 := blk_free (o := 7) Q7.out
    have n3 : ¬ N = K := by omega
    have n4 : ¬ K = N := by omega
    have Q8 : Hid ((v7.setCell ⟨K, 7, none⟩ (.int .u32 (b2 : Int))).heap[K]? = some (.cells (pkC ((h.far a b).far a b2) x) 27 (0, 0))) := blk_set (o := 7) (u := .int .u32 (b2 : Int)) Q7.out
    have P8 : Hid ((v7.setCell ⟨K, 7, none⟩ (.int .u32 (b2 : Int))).heap[N]? = some (.cells (pkC (h.far a b) x) 27 (0, 0))) := by
      unfold Hid
      rw [Go.Deep.blk_setCell_other _ _ _ _ n3]
      exact P7.out
    have L8 : Hid (Below N w (v7.setCell ⟨K, 7, none⟩ (.int .u32 (b2 : Int)))) := L7.out.setCell (Nat.le_of_lt NK) _
    have S8 : Hid ((v7.setCell ⟨K, 7, none⟩ (.int .u32 (b2 : Int))).heap.size = K + 1) := by unfold Hid; simp; exact SZ.out
    clear AL SN LDN P6 L6 P7 L7 SZ
    go_upto_region 9 with fail
    generalize v7.setCell ⟨K, 7, none⟩ (.int .u32 (b2 : Int)) = v8 at *
    clear Q7 q7 f7
    have LDN := load_pk P8.out
    have SN := store_new v8 (pkC Hd.zero Xt.zero) (h.far a b) x rfl
    have AL : Below v8.heap.size v8 (v8.alloc (.cells (pkC (h.far a b) x) 27)) := (Below.refl _ _).alloc (Nat.le_refl _) _
    have Q9 := Lib.hid (pk8_keep Q8.out AL)
    have H9 : Hid ((v8.alloc (.cells (pkC (h.far a b) x) 27)).heap[v8.heap.size]? = some (.cells (pkC (h.far a b) x) 27 (0, 0))) := heap_alloc_new v8 _
    have L9 := Lib.hid (low_alloc HN.out L8.out (.cells (pkC (h.far a b) x) 27))
    go_upto_region 10 with fail
    generalize v8.alloc (.cells (pkC (h.far a b) x) 27) = v9 at *
    generalize v8.heap.size = J at *
    have SK := S8.out
    have n5 : ¬ J = K := by omega
    have n6 : ¬ K = J := by omega
    have q6 := pk8_cell (v := .int .u32 (a : Nat)) H9.out 6 rfl
    have f6 := blk_free (o := 6) H9.out
    have HA : Hid ((v9.setCell ⟨J, 6, none⟩ (.int .u32 (a2 : Int))).heap[J]? = some (.cells (pkC ((h.far a b).far a2 b) x) 27 (0, 0))) := blk_set (o := 6) (u := .int .u32 (a2 : Int)) H9.out
    have QA : Hid ((v9.setCell ⟨J, 6, none⟩ (.int .u32 (a2 : Int))).heap[K]? = some (.cells (pkC ((h.far a b).far a b2) x) 27 (0, 0))) := by
      unfold Hid
      rw [Go.Deep.blk_setCell_other _ _ _ _ n6]
      exact Q9.out
    have LA : Hid (Below N w (v9.setCell ⟨J, 6, none⟩ (.int .u32 (a2 : Int)))) := L9.out.setCell (by show N ≤ J; omega) _
    clear AL SN LDN P8 L8 Q8 Q9 L9 S8 SK
    go_upto_region 11 with fail
    generalize v9.setCell ⟨J, 6, none⟩ (.int .u32 (a2 : Int)) = va at *
    clear H9 q6 f6
    have LDK := load_pk QA.out
    go_wp2_with fail
    refine (R3.out _).mono ?_; rintro e vb ⟨rfl, lb⟩
    have HB := Lib.hid (pk8_keep HA.out lb)
    have LB := Lib.hid (low_call HN.out LA.out lb)
    have LDJ := load_pk HB.out
    clear lb LDK QA HA LA
    go_wp2_with fail
    refine (R4.out _).mono ?_; rintro e vc ⟨rfl, lc⟩
    have LC := Lib.hid (low_call HN.out LB.out lc)
    clear lc LDJ HB LB
    go_wp2_with fail
    refine (alive8_any _).mono ?_; rintro e vd ⟨rfl, ld⟩
    have LD := Lib.hid (low_call HN.out LC.out ld)
    clear ld
    go_wp2
    go_ret
    exact ⟨rfl, LD.out⟩
  · have t1 : ¬ (T : Int) = 0 := by omega
    have t2 : ¬ (T' : Int) = 0 := by have := TT.out t0; omega
    have t3 : ((T' : Int) == 0) = false := by simpa using t2
    have t4 : ((T : Int) != 0) = true := by simpa using t1
    clear TT t0
    go_wp2_with fail
    refine (T1.out _).mono ?_; rintro e v5 ⟨rfl, l5⟩
    have P5 := Lib.hid (pk8_keep P6.out l5)
    have Q5 := Lib.hid (pk8_keep Q6.out l5)
    have L5 := Lib.hid (low_call HN.out L6.out l5)
    have LDQ := load_pk Q5.out
    clear l5 LDP P6 Q6 L6 T1
    go_wp2_with fail
    refine (T2.out _).mono ?_; rintro e v6 ⟨rfl, l6⟩
    have P6 := Lib.hid (pk8_keep P5.out l6)
    have L6 := Lib.hid (low_call HN.out L5.out l6)
    clear l6 LDQ P5 Q5 L5 T2
    have LDN := load_pk P6.out
    have SN := store_new v6 (pkC Hd.zero Xt.zero) (h.far a b) x rfl
    have AL : Below v6.heap.size v6 (v6.alloc (.cells (pkC (h.far a b) x) 27)) := (Below.refl _ _).alloc (Nat.le_refl _) _
    have P7 := Lib.hid (pk8_keep P6.out AL)
    have Q7 : Hid ((v6.alloc (.cells (pkC (h.far a b) x) 27)).heap[v6.heap.size]? = some (.cells (pkC (h.far a b) x) 27 (0, 0))) := heap_alloc_new v6 _
    have L7 := Lib.hid (low_alloc HN.out L6.out (.cells (pkC (h.far a b) x) 27))
    have NK : N < v6.heap.size := by have := (Array.getElem?_eq_some_iff.1 P6.out).1; omega
    have SZ : Hid ((v6.alloc (.cells (pkC (h.far a b) x) 27)).heap.size = v6.heap.size + 1) := by unfold Hid; simp
    go_upto_region 8 with fail
    generalize v6.alloc (.cells (pkC (h.far a b) x) 27) = v7 at *
    generalize v6.heap.size = K at *
    have q7 := pk8_cell (v := .int .u32 (b : Nat)) Q7.out 7 rfl
    have f7 := blk_free (o := 7) Q7.out
    have n3 : ¬ N = K := by omega
    have n4 : ¬ K = N := by omega
    have Q8 : Hid ((v7.setCell ⟨K, 7, none⟩ (.int .u32 (b2 : Int))).heap[K]? = some (.cells (pkC ((h.far a b).far a b2) x) 27 (0, 0))) := blk_set (o := 7) (u := .int .u32 (b2 : Int)) Q7.out
    have P8 : Hid ((v7.setCell ⟨K, 7, none⟩ (.int .u32 (b2 : Int))).heap[N]? = some (.cells (pkC (h.far a b) x) 27 (0, 0))) := by
      unfold Hid
      rw [Go.Deep.blk_setCell_other _ _ _ _ n3]
      exact P7.out
    have L8 : Hid (Below N w (v7.setCell ⟨K, 7, none⟩ (.int .u32 (b2 : Int)))) := L7.out.setCell (Nat.le_of_lt NK) _
    have S8 : Hid ((v7.setCell ⟨K, 7, none⟩ (.int .u32 (b2 : Int))).heap.size = K + 1) := by unfold Hid; simp; exact SZ.out
    clear AL SN LDN P6 L6 P7 L7 SZ
    go_upto_region 9 with fail
    generalize v7.setCell ⟨K, 7, none⟩ (.int .u32 (b2 : Int)) = v8 at *
    clear Q7 q7 f7
    have LDN := load_pk P8.out
    have SN := store_new v8 (pkC Hd.zero Xt.zero) (h.far a b) x rfl
    have AL : Below v8.heap.size v8 (v8.alloc (.cells (pkC (h.far a b) x) 27)) := (Below.refl _ _).alloc (Nat.le_refl _) _
    have Q9 := Lib.hid (pk8_keep Q8.out AL)
    have H9 : Hid ((v8.alloc (.cells (pkC (h.far a b) x) 27)).heap[v8.heap.size]? = some (.cells (pkC (h.far a b) x) 27 (0, 0))) := heap_alloc_new v8 _
    have L9 := Lib.hid (low_alloc HN.out L8.out (.cells (pkC (h.far a b) x) 27))
    go_upto_region 10 with fail
    generalize v8.alloc (.cells (pkC (h.far a b) x) 27) = v9 at *
    generalize v8.heap.size = J at *
    have SK := S8.out
    have n5 : ¬ J = K := by omega
    have n6 : ¬ K = J := by omega
    have q6 := pk8_cell (v := .int .u32 (a : Nat)) H9.out 6 rfl
    have f6 := blk_free (o := 6) H9.out
    have HA : Hid ((v9.setCell ⟨J, 6, none⟩ (.int .u32 (a2 : Int))).heap[J]? = some (.cells (pkC ((h.far a b).far a2 b) x) 27 (0, 0))) := blk_set (o := 6) (u := .int .u32 (a2 : Int)) H9.out
    have QA : Hid ((v9.setCell ⟨J, 6, none⟩ (.int .u32 (a2 : Int))).heap[K]? = some (.cells (pkC ((h.far a b).far a b2) x) 27 (0, 0))) := by
      unfold Hid
      rw [Go.Deep.blk_setCell_other _ _ _ _ n6]
      exact Q9.out
    have LA : Hid (Below N w (v9.setCell ⟨J, 6, none⟩ (.int .u32 (a2 : Int)))) := L9.out.setCell (by show N ≤ J; omega) _
    clear AL SN LDN P8 L8 Q8 Q9 L9 S8 SK
    go_upto_region 11 with fail
    generalize v9.setCell ⟨J, 6, none⟩ (.int .u32 (a2 : Int)) = va at *
    clear H9 q6 f6
    have LDK := load_pk QA.out
    go_wp2_with fail
    refine (R3.out _).mono ?_; rintro e vb ⟨rfl, lb⟩
    have HB := Lib.hid (pk8_keep HA.out lb)
    have LB := Lib.hid (low_call HN.out LA.out lb)
    have LDJ := load_pk HB.out
    clear lb LDK QA HA LA
    go_wp2_with fail
    refine (R4.out _).mono ?_; rintro e vc ⟨rfl, lc⟩
    have LC := Lib.hid (low_call HN.out LB.out lc)
    clear lc LDJ HB LB
    go_wp2_with fail
    refine (alive8_any _).mono ?_; rintro e vd ⟨rfl, ld⟩
    have LD := Lib.hid (low_call HN.out LC.out ld)
    clear ld
    go_wp2
    go_ret
    exact ⟨rfl, LD.out⟩
end Go.Proofs.YtggogcbmdillfaaDoor
