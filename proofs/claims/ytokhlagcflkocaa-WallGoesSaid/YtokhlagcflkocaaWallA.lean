/- Layer 12 (wall): the program's closures, times and rates that a number counts as; what a wall holds; At. -/
import Derived.Test.YtokhlagcflkocaaWallM
import Derived.Test.YtokhlagcflkocaaFixS
import Derived.Test.YtokhlagcflkocaaSlice
import Derived.Test.YtokhlagcflkocaaTurn
import Derived.Laws.StructEq
import Derived.LoopTactic
import Derived.BigQuiet
import Derived.Deep.RegionHeld3
import Derived.Deep.RegionWith
import Derived.Deep.DeepCutAuto
import Derived.Deep.Heap
set_option maxRecDepth 100000
namespace Go.Proofs.Ytokhlagcflkocaa
open Go.ChangeShapes Go.WideShapes Go.ChangeAt Go.RowKit WallM

theorem two_blocks (w : World) (c d : Array Value) (T U : TypeId) :
    Below w.heap.size w ((w.alloc (.cells c T)).alloc (.cells d U)) ∧ ((w.alloc (.cells c T)).alloc (.cells d U)).heap[w.heap.size]? = some (.cells c T (0, 0)) ∧ ((w.alloc (.cells c T)).alloc (.cells d U)).heap[w.heap.size + 1]? = some (.cells d U (0, 0)) ∧ ((w.alloc (.cells c T)).alloc (.cells d U)).heap.size = w.heap.size + 1 + 1 := by
  have B1 : Below w.heap.size w (w.alloc (.cells c T)) := (Below.refl _ _).alloc (Nat.le_refl _) _
  have C1 : (w.alloc (.cells c T)).heap[w.heap.size]? = some (.cells c T (0, 0)) := heap_alloc_new w _
  have s1 : (w.alloc (.cells c T)).heap.size = w.heap.size + 1 := by simp
  generalize w.alloc (.cells c T) = u at *
  have C2 := heap_alloc_new u (.cells d U)
  rw [s1] at C2
  have B2 : Below u.heap.size u (u.alloc (.cells d U)) := (Below.refl _ _).alloc (Nat.le_refl _) _
  exact ⟨B1.trans (B2.mono B1.size), (B2.block _ (by omega)).trans C1, C2, by simp [s1]⟩

theorem pclamp12_any (n lo hi : Int) (w : World) :
    Calls Try.prog 43 #[.int .i64 n, .int .i64 lo, .int .i64 hi] w fun e w' => e = .returned (.int .i64 (cl n lo hi)) ∧ w = w' := by
  by_cases h : n < lo
  · rw [cl_lo h]; exact clamp_lo n lo hi h w
  · by_cases h' : hi < n
    · rw [cl_hi (by omega) h']; exact clamp_hi n lo hi (by omega) h' w
    · rw [cl_mid (by omega) (by omega)]; exact clamp_mid n lo hi (by omega) (by omega) w

theorem pcl12_any (w : World) (N M : Nat) (n lo hi : Int) (c1 : w.cell? ⟨N, 0, none⟩ = some (.int .i64 lo)) (c2 : w.cell? ⟨M, 0, none⟩ = some (.int .i64 hi)) :
    Calls Try.prog 42 #[.int .i64 n, .pointer (some ⟨N, 0, none⟩), .pointer (some ⟨M, 0, none⟩)] w fun e w' => e = .returned (.int .i64 (cl n lo hi)) ∧ w = w' := by
  have CL := Lib.hid (pclamp12_any n lo hi w)
  go_enter Try.func42, Try.ntmps42
  go_wp2_with (go_at_call 43; refine CL.out.mono ?_; rintro e w' ⟨rfl, rfl⟩)
  go_ret
  exact ⟨rfl, rfl⟩

/-- The closure that tells what is between two numbers. -/
def BetwP (w : World) (lo hi : Int) (e : Ending) (w' : World) : Prop :=
  ∃ N M, e = .returned (.func (.func 42) #[] #[.pointer (some ⟨N, 0, none⟩), .pointer (some ⟨M, 0, none⟩)]) ∧ w'.cell? ⟨N, 0, none⟩ = some (.int .i64 lo) ∧ w'.cell? ⟨M, 0, none⟩ = some (.int .i64 hi) ∧ Below w.heap.size w w'
theorem pbetween12_any (w : World) (lo hi : Int) : Calls Try.prog 27 #[.int .i64 lo, .int .i64 hi] w (BetwP w lo hi) := by
  obtain ⟨l, a, b, -⟩ := two_blocks w #[.int .i64 lo] #[.int .i64 hi] 2 2
  have F : Hid (BetwP w lo hi (.returned (.func (.func 42) #[] #[.pointer (some ⟨w.heap.size, 0, none⟩), .pointer (some ⟨w.heap.size + 1, 0, none⟩)])) ((w.alloc (.cells #[.int .i64 lo] 2)).alloc (.cells #[.int .i64 hi] 2))) :=
    ⟨_, _, rfl, blk_cell (o := 0) a, blk_cell (o := 0) b, l⟩
  clear l a b
  go_enter Try.func27, Try.ntmps27
  go_wp2
  go_ret
  exact F.out

/-- A call that tells a whole number, and lays new blocks alone. -/
def IntB (w : World) (n : Int) (e : Ending) (w' : World) : Prop := e = .returned (.int .i64 n) ∧ Below w.heap.size w w'

theorem pinst12_any (w : World) (n : Int) : Calls Try.prog 24 #[.int .i64 n] w (IntB w (inst n)) := by
  have BE := Lib.hid (pbetween12_any w 0 4611686018427387904)
  have F : Hid (∀ w', Below w.heap.size w w' → IntB w (inst n) (.returned (.int .i64 (cl n 0 4611686018427387904))) w') := fun w' l => ⟨rfl, l⟩
  go_enter Try.func24, Try.ntmps24
  go_wp2_with fail
  refine BE.out.mono ?_; rintro e w1 ⟨N, M, rfl, c1, c2, l⟩
  have C := Lib.hid (pcl12_any w1 N M n _ _ c1 c2)
  have L := Lib.hid l
  clear c1 c2 l
  go_wp2_with fail
  refine C.out.mono ?_; rintro e w2 ⟨rfl, rfl⟩
  go_wp2
  go_ret
  exact F.out _ L.out
theorem pbounded12_any (w : World) (n : Int) : Calls Try.prog 37 #[.int .i64 n] w (IntB w (bnd n)) := by
  have BE := Lib.hid (pbetween12_any w (-500000) 500000)
  have F : Hid (∀ w', Below w.heap.size w w' → IntB w (bnd n) (.returned (.int .i64 (cl n (-500000) 500000))) w') := fun w' l => ⟨rfl, l⟩
  go_enter Try.func37, Try.ntmps37
  go_wp2_with fail
  refine BE.out.mono ?_; rintro e w1 ⟨N, M, rfl, c1, c2, l⟩
  have C := Lib.hid (pcl12_any w1 N M n _ _ c1 c2)
  have L := Lib.hid l
  clear c1 c2 l
  go_wp2_with fail
  refine C.out.mono ?_; rintro e w2 ⟨rfl, rfl⟩
  go_wp2
  go_ret
  exact F.out _ L.out

/-- A wall's numbers. -/
structure Wl where
  base : Int
  steps : Int
structure Wl.Ok (x : Wl) : Prop where
  b0 : -4611686018427387904 ≤ x.base
  b1 : x.base ≤ 4611686018427387904
def waV (x : Wl) : Value := .agg #[.bool true, .int .i64 x.base, .int .i64 x.steps]
/-- In a block lies a wall. -/
def Wal (w : World) (N : Nat) (x : Wl) : Prop := w.heap[N]? = some (.cells #[.bool true, .int .i64 x.base, .int .i64 x.steps] 46 (0, 0))
theorem Wal.lt {w : World} {N : Nat} {x : Wl} (c : Wal w N x) : N < w.heap.size := by
  unfold Wal at c
  exact (Array.getElem?_eq_some_iff.1 c).1
theorem Wal.below {w w' : World} {N : Nat} {x : Wl} (c : Wal w N x) (b : Below w.heap.size w w') : Wal w' N x := by
  have := c.lt
  unfold Wal at c ⊢
  rw [b.block N this]
  exact c
theorem Turn.wal {N M : Nat} {x : Wl} {w w' : World} (t : Turn N w w') (c : Wal w M x) (ne : M ≠ N) : Wal w' M x := by
  have := c.lt
  unfold Wal at c ⊢
  rw [t.keep M ne this]
  exact c

theorem field12_0 (a b c : Value) (w : World) : (Instr.field 46 (.agg #[a, b, c]) 0).run Try.prog w = .ok a w := rfl
theorem field12_1 (a b c : Value) (w : World) : (Instr.field 46 (.agg #[a, b, c]) 1).run Try.prog w = .ok b w := rfl
theorem field12_2 (a b c : Value) (w : World) : (Instr.field 46 (.agg #[a, b, c]) 2).run Try.prog w = .ok c w := rfl

/-- What a wall holds; one that New did not make holds nothing, as none. -/
theorem pheld12_cells (w : World) (N : Nat) (made : Bool) (b s : Int) (c : w.heap[N]? = some (.cells #[.bool made, .int .i64 b, .int .i64 s] 46 (0, 0))) :
    Calls Try.prog 25 #[.pointer (some ⟨N, 0, none⟩)] w fun e w' => e = .returned (.agg #[.bool made, .int .i64 b, .int .i64 s]) ∧ Below w.heap.size w w' := by
  have C0 := blk_cell (o := 0) c
  have C1 := blk_cell (o := 1) c
  have C2 := blk_cell (o := 2) c
  simp only [List.getElem?_toArray, List.getElem?_cons_zero, List.getElem?_cons_succ] at C0 C1 C2
  have NE : N ≠ w.heap.size := by have := (Array.getElem?_eq_some_iff.1 c).1; omega
  have L : Hid (Below w.heap.size w (w.alloc (.cells #[.bool made, .int .i64 b, .int .i64 s] 46))) := (Below.refl _ _).alloc (Nat.le_refl _) _
  have R : Hid ((w.alloc (.cells #[.bool made, .int .i64 b, .int .i64 s] 46)).heap[w.heap.size]? = some (.cells #[.bool made, .int .i64 b, .int .i64 s] 46 (0, 0))) := heap_alloc_new _ _
  have Z : ∀ o v, w.cell? ⟨N, o, none⟩ = some v → (w.alloc (.cells #[.bool false, .int .i64 0, .int .i64 0] 46)).cell? ⟨N, o, none⟩ = some v := fun o v h => by
    have b : Below w.heap.size w (w.alloc (.cells #[.bool false, .int .i64 0, .int .i64 0] 46)) := (Below.refl _ _).alloc (Nat.le_refl _) _
    exact (b.cell (World.block_lt_of_cell? _ _ h)).trans h
  have D0 := Z _ _ C0
  have D1 := Z _ _ C1
  have D2 := Z _ _ C2
  clear c Z
  go_enter Try.func25, Try.ntmps25
  go_wp2
  refine bodyPost_ret (results_cell_row rfl _ _ w.heap.size _ _ (0, 0) _ rfl R.out Try.underlying46 rfl (by kernel_rfl)) rfl ?_
  exact ⟨rfl, L.out⟩
theorem pheld12_any (w : World) (N : Nat) (x : Wl) (c : Wal w N x) :
    Calls Try.prog 25 #[.pointer (some ⟨N, 0, none⟩)] w fun e w' => e = .returned (.agg #[.bool true, .int .i64 x.base, .int .i64 x.steps]) ∧ Below w.heap.size w w' := pheld12_cells w N true x.base x.steps c
theorem pheld12_none (w : World) :
    Calls Try.prog 25 #[.pointer none] w fun e w' => e = .returned (.agg #[.bool false, .int .i64 0, .int .i64 0]) ∧ Below w.heap.size w w' := by
  have L : Hid (Below w.heap.size w (w.alloc (.cells #[.bool false, .int .i64 0, .int .i64 0] 46))) := (Below.refl _ _).alloc (Nat.le_refl _) _
  have R : Hid ((w.alloc (.cells #[.bool false, .int .i64 0, .int .i64 0] 46)).heap[w.heap.size]? = some (.cells #[.bool false, .int .i64 0, .int .i64 0] 46 (0, 0))) := heap_alloc_new _ _
  go_enter Try.func25, Try.ntmps25
  go_wp2
  refine bodyPost_ret (results_cell_row rfl _ _ w.heap.size _ _ (0, 0) _ rfl R.out Try.underlying46 rfl (by kernel_rfl)) rfl ?_
  exact ⟨rfl, L.out⟩

/-- A sum that is not too small, or the greatest number. -/
theorem paddcap12 (a b : Int) (ha : I64 a) (hb : I64 b) (h : -9223372036854775808 ≤ a + b) (w : World) :
    Calls Try.prog 26 #[.int .i64 a, .int .i64 b] w fun e w' => e = .returned (.int .i64 (min (a + b) 9223372036854775807)) ∧ w = w' := by
  by_cases g : a + b ≤ 9223372036854775807
  · rw [show min (a + b) 9223372036854775807 = a + b by omega]
    exact addsat_ok a b ha hb ⟨h, g⟩ w
  · rw [show min (a + b) 9223372036854775807 = 9223372036854775807 by omega]
    exact addsat_hi a b ha hb (by omega) w

set_option maxHeartbeats 1000000 in
theorem pat12_any (w : World) (b s m : Int) (b0 : -4611686018427387904 ≤ b) (b1 : b ≤ 4611686018427387904) :
    Calls Try.prog 29 #[.agg #[.bool true, .int .i64 b, .int .i64 s], .int .i64 m] w (IntB w (atW b m)) := by
  have i := inst_in m
  have PI := Lib.hid (fun W w' (hb : Below W.heap.size W w') n => show Calls Try.prog 24 #[.int .i64 n] w' fun e w'' => e = .returned (.int .i64 (inst n)) ∧ Below W.heap.size W w'' from
    (pinst12_any w' n).mono fun e w'' ⟨a, c⟩ => ⟨a, hb.trans (c.mono hb.size)⟩)
  have AD := Lib.hid (fun w => paddcap12 (inst m) b ⟨by omega, by omega⟩ ⟨by omega, by omega⟩ (by omega) w)
  have E : Hid (inst (min (inst m + b) 9223372036854775807) = atW b m) := by
    unfold Hid atW
    by_cases g : inst m + b ≤ 9223372036854775807
    · rw [show min (inst m + b) 9223372036854775807 = inst m + b by omega]
    · rw [show min (inst m + b) 9223372036854775807 = 9223372036854775807 by omega, inst_hi (by omega), inst_hi (by omega)]
  obtain ⟨k, hk⟩ : ∃ k, inst m = k := ⟨_, rfl⟩
  rw [hk] at AD E
  have PM : Hid (∀ W w', Below W.heap.size W w' → Calls Try.prog 24 #[.int .i64 m] w' fun e w'' => e = .returned (.int .i64 k) ∧ Below W.heap.size W w'') := fun W w' hb => by
    rw [← hk]; exact PI.out W w' hb m
  obtain ⟨t, ht⟩ : ∃ t, min (k + b) 9223372036854775807 = t := ⟨_, rfl⟩
  rw [ht] at AD E
  have KK : Hid (∀ w', Below (w.alloc (.cells #[.bool true, .int .i64 b, .int .i64 s] 46)).heap.size (w.alloc (.cells #[.bool true, .int .i64 b, .int .i64 s] 46)) w' → w'.cell? ⟨w.heap.size, 1, none⟩ = some (.int .i64 b)) := fun w' l => by
    have e := heap_alloc_new w (.cells #[.bool true, .int .i64 b, .int .i64 s] 46)
    exact blk_cell (o := 1) ((l.block _ (Array.getElem?_eq_some_iff.1 e).1).trans e)
  have FF : Hid (∀ w', Below (w.alloc (.cells #[.bool true, .int .i64 b, .int .i64 s] 46)).heap.size (w.alloc (.cells #[.bool true, .int .i64 b, .int .i64 s] 46)) w' → IntB w (atW b m) (.returned (.int .i64 (inst t))) w') := fun w' l => by
    rw [E.out]
    have g : Below w.heap.size w (w.alloc (.cells #[.bool true, .int .i64 b, .int .i64 s] 46)) := (Below.refl _ _).alloc (Nat.le_refl _) _
    exact ⟨rfl, g.trans (l.mono g.size)⟩
  clear i b0 b1 hk ht E
  go_enter Try.func29, Try.ntmps29
  go_wp2_with fail
  obtain ⟨v, hv⟩ : ∃ v, w.alloc (.cells #[.bool true, .int .i64 b, .int .i64 s] 46) = v := ⟨_, rfl⟩
  rw [hv] at KK FF ⊢
  clear hv
  have HB0 : Below v.heap.size v v := Below.refl _ _
  go_region_held3 (fun w' => w'.cell? ⟨w.heap.size, 1, none⟩ = some (.int .i64 b))
    (first | exact KK.out _ HB0 | exact KK.out _ HB0.drew)
    (first
      | (go_at_call_of 24 m; refine (PM.out v _ (by first | exact HB0 | exact HB0.drew)).mono ?_; rintro e w4 ⟨rfl, HB0⟩)
      | (go_at_call 26; refine (AD.out _).mono ?_; rintro e w5 ⟨rfl, rfl⟩)
      | (go_at_call_of 24 t; refine (PI.out v _ (by first | exact HB0 | exact HB0.drew) t).mono ?_; rintro e w6 ⟨rfl, HB0⟩))
  all_goals
    go_wp2
    go_ret
    exact FF.out _ (by first | exact HB0 | exact HB0.drew)
end Go.Proofs.Ytokhlagcflkocaa
