/- Layer 13 (heap), the program's own: made, parent, place; two items change places. -/
import Derived.Test.YtbfmmeapjfljbaaHpB
import Derived.StillTailTactics
import Derived.BigRegion
set_option maxRecDepth 100000
namespace Go.Proofs.Ytbfmmeapjfljbaa
open Go.ChangeShapes Go.WideShapes Go.ChangeAt Go.RowKit Go.Maps HeapM

theorem MapP.look {w : World} {b n : Nat} {D : DataW Unit} (h : MapP w b n D) {d k : Nat} {B : Bool} (hd : d < 18446744073709551616) (hk : D.atKey (kq d) (dk 0) = dk k) (hB : Maps.has D (kq d) = B) :
    (Instr.lookup 64 (.map (some b)) (.int .u64 (d : Nat)) true).run Try.prog w = .ok (.tuple #[.int .i64 (k : Nat), .bool B]) w := by
  obtain ⟨v, ps, hr, hv⟩ := World.ownsMap.look_ok h law64 Try.underlying64 (zeroP w) (RP_mk 0) (kq_of hd)
  rw [hk] at hv
  rw [hr, RP_inv hv, hB]
section
variable {w : World} {N b c sz : Nat} {p : Option Addr} {l : List It}
theorem PHp.c0 (h : PHp w N b p c sz l) : w.cell? ⟨N, 0, none⟩ = some (.int .i64 (sz : Nat)) := blk_cell h.bk
theorem PHp.c1 (h : PHp w N b p c sz l) : w.cell? ⟨N, 1, none⟩ = some (.slice p l.length c) := blk_cell h.bk
theorem PHp.c2 (h : PHp w N b p c sz l) : w.cell? ⟨N, 2, none⟩ = some (.map (some b)) := blk_cell h.bk
theorem pmade13 (h : PHp w N b p c sz l) : Calls Try.prog 22 #[.pointer (some ⟨N, 0, none⟩)] w fun e w' => e = .returned (.bool true) ∧ w' = w := by
  have c0 := h.c0
  have s0 : (0 : Int) < (sz : Int) := by have := h.pos; omega
  have s1 : decide ((0 : Int) < (sz : Int)) = true := decide_eq_true s0
  have s2 : decide (0 < sz) = true := decide_eq_true h.pos
  clear h
  go_enter Try.func22, Try.ntmps22
  go_wp2
  go_ret
  exact ⟨rfl, rfl⟩
theorem pplace13_some (h : PHp w N b p c sz l) {d k : Nat} (hd : d < 18446744073709551616) (e : place l d = some k) :
    Calls Try.prog 34 #[.pointer (some ⟨N, 0, none⟩), .int .u64 (d : Nat)] w fun e w' => e = .returned (.tuple #[.int .i64 (k : Nat), .int .i64 0]) ∧ w' = w := by
  have M := Lib.hid (pmade13 h)
  have c2 := h.c2
  obtain ⟨D, m, pl⟩ := h.m
  obtain ⟨e1, e2⟩ := pl.find e (dk 0)
  have LK := m.look hd e2 e1
  clear h m pl e1 e2 e hd
  go_enter Try.func34, Try.ntmps34
  go_wp2_with (go_at_call 22; refine M.out.mono ?_; rintro e w' ⟨rfl, rfl⟩)
  go_ret2
  exact ⟨rfl, rfl⟩
theorem pplace13_none (h : PHp w N b p c sz l) {d : Nat} (hd : d < 18446744073709551616) (e : place l d = none) :
    Calls Try.prog 34 #[.pointer (some ⟨N, 0, none⟩), .int .u64 (d : Nat)] w fun e w' => e = .returned (.tuple #[.int .i64 0, .int .i64 6]) ∧ w' = w := by
  have M := Lib.hid (pmade13 h)
  have c2 := h.c2
  obtain ⟨D, m, pl⟩ := h.m
  obtain ⟨e1, e2⟩ := pl.none e (dk 0)
  have LK := m.look hd e2 e1
  clear h m pl e1 e2 e hd
  go_enter Try.func34, Try.ntmps34
  go_wp2_with (go_at_call 22; refine M.out.mono ?_; rintro e w' ⟨rfl, rfl⟩)
  go_ret2
  exact ⟨rfl, rfl⟩
end
theorem pmade13_none (w : World) : Calls Try.prog 22 #[.pointer none] w fun e w' => e = .returned (.bool false) ∧ w' = w := by
  go_enter Try.func22, Try.ntmps22
  go_wp2
  go_ret
  exact ⟨rfl, rfl⟩
theorem pplace13_nil (w : World) (d : Nat) : Calls Try.prog 34 #[.pointer none, .int .u64 (d : Nat)] w fun e w' => e = .returned (.tuple #[.int .i64 0, .int .i64 2]) ∧ w' = w := by
  have M := Lib.hid (pmade13_none w)
  go_enter Try.func34, Try.ntmps34
  go_wp2_with (go_at_call 22; refine M.out.mono ?_; rintro e w' ⟨rfl, rfl⟩)
  go_ret2
  exact ⟨rfl, rfl⟩
theorem pparent13 (w : World) (k : Nat) (h0 : 0 < k) (h1 : k ≤ 1048576) : Calls Try.prog 30 #[.int .i64 (k : Nat)] w fun e w' => e = .returned (.int .i64 (par k : Nat)) ∧ w' = w := by
  obtain ⟨q, hq⟩ : ∃ q, par k = q := ⟨_, rfl⟩
  rw [hq]
  have qk : q < k := by rw [← hq]; exact par_lt h0
  obtain ⟨u, hu⟩ : ∃ u, (k : Int) - 1 = u := ⟨_, rfl⟩
  have uq : u.tdiv 4 = (q : Int) := by rw [Int.tdiv_eq_ediv_of_nonneg (by omega), ← hu, ← hq]; unfold par; omega
  have w1 : wrap64 u = u := by unfold wrap64; omega
  have w2 : IntKind.i64.wrap u = u := by rw [IntKind.wrap_i64]; omega
  have w3 : wrap64 (q : Int) = (q : Int) := by unfold wrap64; omega
  have w4 : IntKind.i64.wrap (q : Int) = (q : Int) := by rw [IntKind.wrap_i64]; omega
  clear h0 h1 hq qk
  go_enter Try.func30, Try.ntmps30
  go_wp2
  go_ret
  exact ⟨rfl, rfl⟩

/-- The closure that changes places: its box. -/
def ExF (B : Nat) : Value := .func (.func 36) #[] #[.pointer (some ⟨B, 0, none⟩)]
def ExB (w : World) (B N : Nat) : Prop := w.heap[B]? = some (.cells #[.pointer (some ⟨N, 0, none⟩)] 45 (0, 0))
theorem pexchange13 (w : World) (N : Nat) : Calls Try.prog 28 #[.pointer (some ⟨N, 0, none⟩)] w fun e w' => ∃ B, e = .returned (ExF B) ∧ ExB w' B N ∧ w.heap.size ≤ B ∧ Below w.heap.size w w' := by
  have F : Hid (∃ B, Ending.returned (.func (.func 36) #[] #[.pointer (some ⟨w.heap.size, 0, none⟩)]) = .returned (ExF B) ∧ ExB (w.alloc (.cells #[.pointer (some ⟨N, 0, none⟩)] 45)) B N ∧ w.heap.size ≤ B ∧ Below w.heap.size w (w.alloc (.cells #[.pointer (some ⟨N, 0, none⟩)] 45))) :=
    ⟨_, rfl, heap_alloc_new _ _, Nat.le_refl _, (Below.refl _ _).alloc (Nat.le_refl _) _⟩
  go_enter Try.func28, Try.ntmps28
  go_wp2
  go_ret
  exact F.out
end Go.Proofs.Ytbfmmeapjfljbaa

