/- Layer 9 (count): Read; Total, Last, Full, Copy. -/
import Derived.Test.YtkhhaeoofebjlaaCountC
set_option maxRecDepth 100000
namespace Go.Proofs.Ytkhhaeoofebjlaa
open Go.ChangeShapes Go.WideShapes Go.ChangeAt Go.RowKit

/-- Of all that was there, one block alone has turned. -/
structure Turn (N : Nat) (w w' : World) : Prop where
  keep : ∀ M, M ≠ N → M < w.heap.size → w'.heap[M]? = w.heap[M]?
  low : ∀ B, B ≤ N → B ≤ w.heap.size → Below B w w'
theorem Turn.of_below {N : Nat} {w w' : World} (h : Below w.heap.size w w') : Turn N w w' := ⟨fun M _ hM => h.block M hM, fun _ _ hB => h.mono hB⟩
theorem Turn.size {N : Nat} {w w' : World} (h : Turn N w w') : w.heap.size ≤ w'.heap.size := (h.low 0 (Nat.zero_le _) (Nat.zero_le _)).size
theorem Turn.set {N o : Nat} {w w' : World} (h : Turn N w w') (v : Value) : Turn N w (w'.setCell ⟨N, o, none⟩ v) :=
  ⟨fun M hM hl => (Below.heap_setCell w' ⟨N, o, none⟩ v M hM).trans (h.keep M hM hl), fun B hB hB' => (h.low B hB hB').setCell hB v⟩
theorem Turn.drew {N : Nat} {w w' : World} (h : Turn N w w') : Turn N w w'.drew := ⟨h.keep, fun B hB hB' => (h.low B hB hB').drew⟩
theorem Turn.drewN {N : Nat} {w w' : World} (h : Turn N w w') (n : Nat) : Turn N w (w'.drewN n) := ⟨fun M hM hl => ((below_drewN (Below.refl (M + 1) w') n).block M (by omega)).trans (h.keep M hM hl), fun B hB hB' => below_drewN (h.low B hB hB') n⟩
theorem Turn.ct {N M k l t : Nat} {f : Bool} {w w' : World} (h : Turn N w w') (c : Ct w M k l t f) (ne : M ≠ N) : Ct w' M k l t f := by
  have := c.lt
  unfold Ct at c ⊢
  rw [h.keep M ne this]
  exact c
/-- A call that turns a counter of one's own alone. -/
theorem Turn.below {N : Nat} {W w w' : World} (h : Turn N w w') (b : Below W.heap.size W w) (hN : W.heap.size ≤ N) : Below W.heap.size W w' := b.trans (h.low _ hN b.size)

def ReadP (w : World) (N k x t y : Nat) (r : Ending) (w' : World) : Prop := r = .returned (.tuple #[.int .u64 (y : Nat), .int .i64 0]) ∧ Ct w' N k x t false ∧ Turn N w w'

/-- What a Read lays ahead: its own two boxes, and its three closures. -/
def readC (a : Nat) : Array Value := #[.func (.func 18) #[] #[.pointer (some ⟨a, 0, none⟩)], .func (.func 20) #[] #[.pointer (some ⟨a + 1, 0, none⟩), .pointer (some ⟨a, 0, none⟩)],
  .func (.func 21) #[] #[.pointer (some ⟨a, 0, none⟩), .pointer (some ⟨a + 1, 0, none⟩)]]
def readW (w : World) (p : Option Addr) (x : Nat) : World := ((w.alloc (.cells #[.pointer p] 24)).alloc (.cells #[.int .u64 (x : Nat)] 22)).alloc (.cells (readC w.heap.size) 40)

theorem readW_laid (w : World) (p : Option Addr) (x : Nat) :
    Below w.heap.size w (readW w p x) ∧ (readW w p x).heap.size = w.heap.size + 1 + 1 + 1 ∧ (readW w p x).cell? ⟨w.heap.size, 0, none⟩ = some (.pointer p) ∧ (readW w p x).cell? ⟨w.heap.size + 1, 0, none⟩ = some (.int .u64 (x : Nat)) ∧
      (readW w p x).heap[w.heap.size + 1 + 1]? = some (.cells (readC w.heap.size) 40 (0, 0)) := by
  unfold readW
  have B1 : Below w.heap.size w (w.alloc (.cells #[.pointer p] 24)) := (Below.refl _ _).alloc (Nat.le_refl _) _
  have C1 : (w.alloc (.cells #[.pointer p] 24)).cell? ⟨w.heap.size, 0, none⟩ = some (.pointer p) := blk_cell (blk_alloc w _ _)
  have s1 : (w.alloc (.cells #[.pointer p] 24)).heap.size = w.heap.size + 1 := by simp
  generalize w.alloc (.cells #[.pointer p] 24) = u at *
  have C2 : (u.alloc (.cells #[.int .u64 (x : Nat)] 22)).cell? ⟨w.heap.size + 1, 0, none⟩ = some (.int .u64 (x : Nat)) := by
    have := blk_alloc u #[.int .u64 (x : Nat)] 22
    rw [s1] at this
    exact blk_cell this
  have AB2 : Below u.heap.size u (u.alloc (.cells #[.int .u64 (x : Nat)] 22)) := (Below.refl _ _).alloc (Nat.le_refl _) _
  have s2 : (u.alloc (.cells #[.int .u64 (x : Nat)] 22)).heap.size = w.heap.size + 1 + 1 := by simp [s1]
  have D1 : (u.alloc (.cells #[.int .u64 (x : Nat)] 22)).cell? ⟨w.heap.size, 0, none⟩ = some (.pointer p) := by
    rw [AB2.cell (by rw [s1]; exact Nat.lt_succ_self _)]
    exact C1
  have B2 := B1.trans (AB2.mono B1.size)
  generalize u.alloc (.cells #[.int .u64 (x : Nat)] 22) = v at *
  have AB3 : Below v.heap.size v (v.alloc (.cells (readC w.heap.size) 40)) := (Below.refl _ _).alloc (Nat.le_refl _) _
  refine ⟨B2.trans (AB3.mono B2.size), by simp [s2], ?_, ?_, ?_⟩
  · rw [AB3.cell (by rw [s2]; show w.heap.size < _; omega)]; exact D1
  · rw [AB3.cell (by rw [s2]; exact Nat.lt_succ_self _)]; exact C2
  · have := blk_alloc v (readC w.heap.size) 40
    rw [s2] at this
    exact this

set_option maxHeartbeats 2000000 in
theorem pread9_ok (w : World) (N k l t x y : Nat) (h : Ct w N k l t false) (h0 : 0 < k) (hk : k ≤ 64) (hl : l < 2 ^ k) (hy : y < 2 ^ k) (hx : x = (l + y) % 2 ^ k) (ht : t + y ≤ 9223372036854775807) :
    Calls Try.prog 8 #[.pointer (some ⟨N, 0, none⟩), .int .u64 (x : Nat)] w (ReadP w N k x (t + y) y) := by
  obtain ⟨B0, sz, E1, E2, E3⟩ := readW_laid w (some ⟨N, 0, none⟩) x
  have xk : x < 2 ^ k := by rw [hx]; exact Nat.mod_lt _ (Nat.two_pow_pos k)
  have HN := h.lt
  have FT := pfault3 (readW w (some ⟨N, 0, none⟩) x) (w.heap.size + 1 + 1) 18 20 21 #[.pointer (some ⟨w.heap.size, 0, none⟩)] #[.pointer (some ⟨w.heap.size + 1, 0, none⟩), .pointer (some ⟨w.heap.size, 0, none⟩)] #[.pointer (some ⟨w.heap.size, 0, none⟩), .pointer (some ⟨w.heap.size + 1, 0, none⟩)] 0 0 0 0
    ((blk_cell E3).trans rfl) ((blk_cell E3).trans rfl) ((blk_cell E3).trans rfl) (enters_of Try.func18 (by kernel_rfl) rfl) (enters_of Try.func20 (by kernel_rfl) rfl) (enters_of Try.func21 (by kernel_rfl) rfl)
    (fun w' bb => pr1_any w' _ N k l t false (by rw [bb.cell (by rw [sz]; show w.heap.size < _; omega)]; exact E1) ((h.below B0).below bb) h0)
    (fun _ w' bb => pr2_any w' _ _ N k l t x false 0 (by rw [bb.cell (by rw [sz]; show w.heap.size + 1 < _; omega)]; exact E2) (by rw [bb.cell (by rw [sz]; show w.heap.size < _; omega)]; exact E1) ((h.below B0).below bb) hk (.inl ⟨rfl, xk⟩))
    (fun _ _ w' bb => pr3_any w' _ _ N k l t x y (by rw [bb.cell (by rw [sz]; show w.heap.size < _; omega)]; exact E1) (by rw [bb.cell (by rw [sz]; show w.heap.size + 1 < _; omega)]; exact E2) ((h.below B0).below bb) hk hl hy hx ht)
    (.inr (.inr ⟨rfl, rfl, rfl⟩))
  replace FT := Lib.hid FT
  have H0 := Lib.hid (h.below B0)
  have HWY := Lib.hid (fun w' (c : Ct w' N k l t false) => pway9_any w' N k l t x y false c hk hl hy hx)
  have RW : Hid (((w.alloc (.cells #[.pointer (some ⟨N, 0, none⟩)] 24)).alloc (.cells #[.int .u64 (x : Nat)] 22)).alloc (.cells #[.func (.func 18) #[] #[.pointer (some ⟨w.heap.size, 0, none⟩)], .func (.func 20) #[] #[.pointer (some ⟨w.heap.size + 1, 0, none⟩), .pointer (some ⟨w.heap.size, 0, none⟩)],
  .func (.func 21) #[] #[.pointer (some ⟨w.heap.size, 0, none⟩), .pointer (some ⟨w.heap.size + 1, 0, none⟩)]] 40) = readW w (some ⟨N, 0, none⟩) x) := rfl
  have L0 := Lib.hid B0
  have F1 := Lib.hid E1
  have F2 := Lib.hid E2
  have SZ := Lib.hid sz
  have NN := Lib.hid HN
  obtain ⟨s, hs⟩ : ∃ s : Nat, t + y = s := ⟨_, rfl⟩
  have TS : (t : Int) + (y : Int) = (s : Int) := by omega
  have WS : IntKind.u64.wrap (s : Int) = (s : Int) := by rw [IntKind.wrap_u64]; omega
  rw [hs]
  clear E1 E2 E3 sz HN B0 h h0 hk hl hy hx ht xk hs
  go_enter Try.func8, Try.ntmps8
  go_wp2_with fail
  rw [RW.out]
  refine FT.out.mono ?_; rintro e w1 ⟨rfl, l1⟩
  have L1 : Hid (Below w.heap.size w w1) := L0.out.trans (l1.mono L0.out.size)
  have g1 : w1.cell? ⟨w.heap.size, 0, none⟩ = some (.pointer (some ⟨N, 0, none⟩)) := by rw [l1.cell (by rw [SZ.out]; show w.heap.size < _; omega)]; exact F1.out
  have g2 : w1.cell? ⟨w.heap.size + 1, 0, none⟩ = some (.int .u64 (x : Nat)) := by rw [l1.cell (by rw [SZ.out]; show w.heap.size + 1 < _; omega)]; exact F2.out
  have H1 := Lib.hid (H0.out.below l1)
  clear F1 F2 FT L0 SZ RW l1 H0
  go_wp2_with fail
  refine (HWY.out _ H1.out).mono ?_; rintro e w2 ⟨rfl, rfl⟩
  have c2 := H1.out.at.2.2.1
  have f1 : w2.frozen? ⟨N, 1, none⟩ = false := blk_free H1.out
  have f2 : w2.frozen? ⟨N, 2, none⟩ = false := blk_free H1.out
  have c1 := H1.out.at.2.1
  have b1 : (w2.setCell ⟨N, 1, none⟩ (.int .u64 (x : Nat))).heap[N]? = some (.cells #[.int .i64 (k : Nat), .int .u64 (x : Nat), .int .u64 (t : Nat), .bool false] 43 (0, 0)) := blk_set H1.out
  have b2 : ((w2.setCell ⟨N, 1, none⟩ (.int .u64 (x : Nat))).setCell ⟨N, 2, none⟩ (.int .u64 (s : Nat))).heap[N]? = some (.cells #[.int .i64 (k : Nat), .int .u64 (x : Nat), .int .u64 (s : Nat), .bool false] 43 (0, 0)) := blk_set b1
  have k1 : (w2.setCell ⟨N, 1, none⟩ (.int .u64 (x : Nat))).cell? ⟨w.heap.size, 0, none⟩ = some (.pointer (some ⟨N, 0, none⟩)) := (World.cell?_of_block (Below.heap_setCell w2 ⟨N, 1, none⟩ _ _ (by show w.heap.size ≠ N; have := NN.out; omega))).trans g1
  have k2 : (w2.setCell ⟨N, 1, none⟩ (.int .u64 (x : Nat))).cell? ⟨w.heap.size + 1, 0, none⟩ = some (.int .u64 (x : Nat)) := (World.cell?_of_block (Below.heap_setCell w2 ⟨N, 1, none⟩ _ _ (by show w.heap.size + 1 ≠ N; have := NN.out; omega))).trans g2
  have k3 : (w2.setCell ⟨N, 1, none⟩ (.int .u64 (x : Nat))).cell? ⟨N, 2, none⟩ = some (.int .u64 (t : Nat)) := blk_cell b1
  have k4 : (w2.setCell ⟨N, 1, none⟩ (.int .u64 (x : Nat))).frozen? ⟨N, 2, none⟩ = false := blk_free b1
  have FIN : Hid (ReadP w N k x s y (.returned (.tuple #[.int .u64 (y : Nat), .int .i64 0])) ((w2.setCell ⟨N, 1, none⟩ (.int .u64 (x : Nat))).setCell ⟨N, 2, none⟩ (.int .u64 (s : Nat))).drew) :=
    ⟨rfl, b2, (((Turn.of_below L1.out).set _).set _).drew⟩
  clear b1 b2 L1 H1 HWY NN
  go_wp2_with fail
  go_region
  go_wp2
  go_ret2
  exact FIN.out

/-- A reading that is refused leaves all as it was. -/
def ReadE (w : World) (z : Int) (r : Ending) (w' : World) : Prop := r = .returned (.tuple #[.int .u64 0, .int .i64 z]) ∧ Below w.heap.size w w'

set_option maxHeartbeats 2000000 in
theorem pread9_core (w : World) (p : Option Addr) (x : Nat) (z : Int) (hz : z = 1 ∨ z = 2)
    (ft : Calls Try.prog 13 #[.slice (some ⟨w.heap.size + 1 + 1, 0, none⟩) 3 3] (readW w p x) (TellE (readW w p x) z)) :
    Calls Try.prog 8 #[.pointer p, .int .u64 (x : Nat)] w (ReadE w z) := by
  obtain ⟨B0, -, -, -, -⟩ := readW_laid w p x
  have FT := Lib.hid ft
  have RW : Hid (((w.alloc (.cells #[.pointer p] 24)).alloc (.cells #[.int .u64 (x : Nat)] 22)).alloc (.cells #[.func (.func 18) #[] #[.pointer (some ⟨w.heap.size, 0, none⟩)], .func (.func 20) #[] #[.pointer (some ⟨w.heap.size + 1, 0, none⟩), .pointer (some ⟨w.heap.size, 0, none⟩)],
  .func (.func 21) #[] #[.pointer (some ⟨w.heap.size, 0, none⟩), .pointer (some ⟨w.heap.size + 1, 0, none⟩)]] 40) = readW w p x) := rfl
  have L0 := Lib.hid B0
  clear ft B0
  rcases hz with rfl | rfl
  all_goals
    go_enter Try.func8, Try.ntmps8
    go_wp2_with fail
    rw [RW.out]
    refine FT.out.mono ?_; rintro e w1 ⟨rfl, l1⟩
    have L1 := Lib.hid (L0.out.trans (l1.mono L0.out.size))
    clear L0 l1 RW
    go_wp2
    go_ret2
    exact ⟨rfl, L1.out⟩

theorem pread9_none (w : World) (x : Nat) : Calls Try.prog 8 #[.pointer none, .int .u64 (x : Nat)] w (ReadE w 2) := by
  obtain ⟨B0, sz, E1, E2, E3⟩ := readW_laid w none x
  refine pread9_core w none x 2 (.inr rfl) (pfault3 (readW w none x) (w.heap.size + 1 + 1) 18 20 21 #[.pointer (some ⟨w.heap.size, 0, none⟩)] #[.pointer (some ⟨w.heap.size + 1, 0, none⟩), .pointer (some ⟨w.heap.size, 0, none⟩)] #[.pointer (some ⟨w.heap.size, 0, none⟩), .pointer (some ⟨w.heap.size + 1, 0, none⟩)] 2 2 0 0
    ((blk_cell E3).trans rfl) ((blk_cell E3).trans rfl) ((blk_cell E3).trans rfl) (enters_of Try.func18 (by kernel_rfl) rfl) (enters_of Try.func20 (by kernel_rfl) rfl) (enters_of Try.func21 (by kernel_rfl) rfl)
    (fun w' bb => pr1_none w' _ (by rw [bb.cell (by rw [sz]; show w.heap.size < _; omega)]; exact E1))
    (fun h => absurd h (by decide)) (fun h => absurd h (by decide)) (.inl ⟨by decide, rfl⟩))

theorem pread9_arg (w : World) (N k l t x : Nat) (f : Bool) (h : Ct w N k l t f) (h0 : 0 < k) (hk : k ≤ 64) (hx : ¬ x < 2 ^ k) :
    Calls Try.prog 8 #[.pointer (some ⟨N, 0, none⟩), .int .u64 (x : Nat)] w (ReadE w 1) := by
  obtain ⟨B0, sz, E1, E2, E3⟩ := readW_laid w (some ⟨N, 0, none⟩) x
  refine pread9_core w (some ⟨N, 0, none⟩) x 1 (.inl rfl) (pfault3 (readW w (some ⟨N, 0, none⟩) x) (w.heap.size + 1 + 1) 18 20 21 #[.pointer (some ⟨w.heap.size, 0, none⟩)] #[.pointer (some ⟨w.heap.size + 1, 0, none⟩), .pointer (some ⟨w.heap.size, 0, none⟩)] #[.pointer (some ⟨w.heap.size, 0, none⟩), .pointer (some ⟨w.heap.size + 1, 0, none⟩)] 1 0 1 0
    ((blk_cell E3).trans rfl) ((blk_cell E3).trans rfl) ((blk_cell E3).trans rfl) (enters_of Try.func18 (by kernel_rfl) rfl) (enters_of Try.func20 (by kernel_rfl) rfl) (enters_of Try.func21 (by kernel_rfl) rfl)
    (fun w' bb => pr1_any w' _ N k l t f (by rw [bb.cell (by rw [sz]; show w.heap.size < _; omega)]; exact E1) ((h.below B0).below bb) h0)
    (fun _ w' bb => pr2_any w' _ _ N k l t x f 1 (by rw [bb.cell (by rw [sz]; show w.heap.size + 1 < _; omega)]; exact E2) (by rw [bb.cell (by rw [sz]; show w.heap.size < _; omega)]; exact E1) ((h.below B0).below bb) hk (.inr ⟨rfl, hx⟩))
    (fun _ h => absurd h (by decide)) (.inr (.inl ⟨rfl, by decide, rfl⟩)))

theorem ptotal9_any (w : World) (N k l t : Nat) (f : Bool) (h : Ct w N k l t f) (h0 : 0 < k) :
    Calls Try.prog 9 #[.pointer (some ⟨N, 0, none⟩)] w fun r w' => r = .returned (.int .u64 (t : Nat)) ∧ w' = w := by
  have M := Lib.hid (pmade9_any w N k l t f h h0)
  have c2 := h.at.2.2.1
  clear h h0
  go_enter Try.func9, Try.ntmps9
  go_wp2_with fail
  refine M.out.mono ?_; rintro e w1 ⟨rfl, rfl⟩
  go_wp2
  go_ret
  exact ⟨rfl, rfl⟩
theorem plast9_any (w : World) (N k l t : Nat) (f : Bool) (h : Ct w N k l t f) (h0 : 0 < k) :
    Calls Try.prog 10 #[.pointer (some ⟨N, 0, none⟩)] w fun r w' => r = .returned (.int .u64 (l : Nat)) ∧ w' = w := by
  have M := Lib.hid (pmade9_any w N k l t f h h0)
  have c2 := h.at.2.1
  clear h h0
  go_enter Try.func10, Try.ntmps10
  go_wp2_with fail
  refine M.out.mono ?_; rintro e w1 ⟨rfl, rfl⟩
  go_wp2
  go_ret
  exact ⟨rfl, rfl⟩
theorem pfull9_any (w : World) (N k l t : Nat) (h : Ct w N k l t false) (h0 : 0 < k) :
    Calls Try.prog 11 #[.pointer (some ⟨N, 0, none⟩)] w fun r w' => r = .returned (.bool false) ∧ w' = w := by
  have M0 := Lib.hid (pmade9_any w N k l t false h h0)
  have c3 := h.at.2.2.2
  clear h h0
  go_enter Try.func11, Try.ntmps11
  go_wp2_with fail
  refine M0.out.mono ?_; rintro e w1 ⟨rfl, rfl⟩
  go_wp2
  go_ret
  exact ⟨rfl, rfl⟩

theorem ptotal9_none (w : World) : Calls Try.prog 9 #[.pointer none] w fun r w' => r = .returned (.int .u64 0) ∧ w' = w := by
  have M := Lib.hid (pmade9_none w)
  go_enter Try.func9, Try.ntmps9
  go_wp2_with fail
  refine M.out.mono ?_; rintro e w1 ⟨rfl, rfl⟩
  go_wp2
  go_ret
  exact ⟨rfl, rfl⟩
theorem plast9_none (w : World) : Calls Try.prog 10 #[.pointer none] w fun r w' => r = .returned (.int .u64 0) ∧ w' = w := by
  have M := Lib.hid (pmade9_none w)
  go_enter Try.func10, Try.ntmps10
  go_wp2_with fail
  refine M.out.mono ?_; rintro e w1 ⟨rfl, rfl⟩
  go_wp2
  go_ret
  exact ⟨rfl, rfl⟩
theorem pfull9_none (w : World) : Calls Try.prog 11 #[.pointer none] w fun r w' => r = .returned (.bool false) ∧ w' = w := by
  have M0 := Lib.hid (pmade9_none w)
  go_enter Try.func11, Try.ntmps11
  go_wp2_with fail
  refine M0.out.mono ?_; rintro e w1 ⟨rfl, rfl⟩
  go_wp2
  go_ret
  exact ⟨rfl, rfl⟩
theorem pcopy9_none (w : World) : Calls Try.prog 12 #[.pointer none] w fun r w' => r = .returned (.pointer none) ∧ w' = w := by
  have M := Lib.hid (pmade9_none w)
  go_enter Try.func12, Try.ntmps12
  go_wp2_with fail
  refine M.out.mono ?_; rintro e w1 ⟨rfl, rfl⟩
  go_wp2
  go_ret
  exact ⟨rfl, rfl⟩
end Go.Proofs.Ytkhhaeoofebjlaa
