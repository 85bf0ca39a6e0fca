/- Layer 10 (scale): what the program asks of a scale, call by call: may, made, full, product, plus, after. -/
import Derived.Test.YtccfimempjbnfaaScaleM
import Derived.Test.YtccfimempjbnfaaFixQ
import Derived.Test.YtccfimempjbnfaaSlice
import Derived.Laws.StructEq
import Derived.Laws.Externs
import Derived.Shelf.Spec.BitsCarry
import Derived.LoopTactic
import Derived.BigQuiet
import Derived.Deep.RegionHeld3
set_option maxRecDepth 100000
namespace Go.Proofs.Ytccfimempjbnfaa
open Go.ChangeShapes Go.WideShapes Go.ChangeAt Go.RowKit ScaleM

/-- A scale's cells. -/
def scC (h t r : Nat) : Array Value := #[.int .u64 (h : Nat), .int .i64 (t : Nat), .int .u64 (r : Nat)]
/-- In a block lies a scale of so many hertz, of which so many ticks went. -/
def Sc (w : World) (N h n : Nat) : Prop := w.heap[N]? = some (.cells (scC h (totT h n) (resT h n)) 40 (0, 0))
theorem Sc.at {w : World} {N h n : Nat} (c : Sc w N h n) :
    w.cell? ⟨N, 0, none⟩ = some (.int .u64 (h : Nat)) ∧ w.cell? ⟨N, 1, none⟩ = some (.int .i64 (totT h n : Nat)) ∧ w.cell? ⟨N, 2, none⟩ = some (.int .u64 (resT h n : Nat)) :=
  ⟨blk_cell c, blk_cell c, blk_cell c⟩
theorem Sc.lt {w : World} {N h n : Nat} (c : Sc w N h n) : N < w.heap.size := by
  unfold Sc at c
  exact (Array.getElem?_eq_some_iff.1 c).1
theorem Sc.below {w w' : World} {N h n : Nat} (c : Sc w N h n) (b : Below w.heap.size w w') : Sc w' N h n := by
  have := c.lt
  unfold Sc at c ⊢
  rw [b.block N this]
  exact c

def eqlC (x y : Value) : Sem Value := binOp .eql 40 x y
theorem eqlC_eq (x y : Value) : binOp .eql 40 x y = eqlC x y := rfl
def neqC (x y : Value) : Sem Value := binOp .neq 40 x y
theorem neqC_eq (x y : Value) : binOp .neq 40 x y = neqC x y := rfl
theorem equal_sc (w : World) (a b c a' b' c' : Int) (z : Bool) (e : decide (a = a' ∧ b = b' ∧ c = c') = z) :
    (Op.equalIn 10000 40 (.agg #[.int .u64 a, .int .i64 b, .int .u64 c]) (.agg #[.int .u64 a', .int .i64 b', .int .u64 c'])).run Try.prog w = .ok z w := by
  subst e
  rw [run_equalIn_agg w _ _ _ _ (by kernel_rfl) (by kernel_rfl)]
  rw [show (Try.prog.fieldsOf 40).toList = _ from rfl]
  simp [go_sem, Op.eqFields]
  by_cases e1 : a = a'
  case neg => simp [e1]
  subst e1
  by_cases e2 : b = b'
  case neg => simp [e2]
  subst e2
  by_cases e3 : c = c'
  case neg => simp [e3]
  subst e3
  simp
theorem eql_sc (w : World) (a b c a' b' c' : Int) (z : Bool) (e : decide (a = a' ∧ b = b' ∧ c = c') = z) :
    (eqlC (.agg #[.int .u64 a, .int .i64 b, .int .u64 c]) (.agg #[.int .u64 a', .int .i64 b', .int .u64 c'])).run Try.prog w = .ok (.bool z) w := by
  unfold eqlC
  rw [run_eql_struct, equal_sc w a b c a' b' c' z e]
  rfl
theorem neq_sc (w : World) (a b c a' b' c' : Int) (z : Bool) (e : decide (a = a' ∧ b = b' ∧ c = c') = z) :
    (neqC (.agg #[.int .u64 a, .int .i64 b, .int .u64 c]) (.agg #[.int .u64 a', .int .i64 b', .int .u64 c'])).run Try.prog w = .ok (.bool (!z)) w := by
  unfold neqC
  rw [run_neq_struct, equal_sc w a b c a' b' c' z e]
  rfl

theorem pmay10_any (w : World) (h : Nat) :
    Calls Try.prog 20 #[.int .u64 (h : Nat)] w fun r w' => r = .returned (.bool (decide (0 < h ∧ h ≤ 1000000000000))) ∧ w' = w := by
  by_cases a : 0 < h
  · by_cases b : h ≤ 1000000000000
    · have d : Hid (decide (0 < h ∧ h ≤ 1000000000000) = true) := decide_eq_true ⟨a, b⟩
      have a1 : (0 : Int) < (h : Int) := by omega
      have b1 : (h : Int) ≤ 1000000000000 := by omega
      clear a b
      go_enter Try.func20, Try.ntmps20
      go_wp2
      go_ret
      exact ⟨ret_bool d.out.symm, rfl⟩
    · have d : Hid (decide (0 < h ∧ h ≤ 1000000000000) = false) := decide_eq_false fun c => b c.2
      have a1 : (0 : Int) < (h : Int) := by omega
      have b1 : decide ((h : Int) ≤ 1000000000000) = false := by simp; omega
      have b2 : 1000000000000 < (h : Int) := by omega
      clear a b
      go_enter Try.func20, Try.ntmps20
      go_wp2
      go_ret
      exact ⟨ret_bool d.out.symm, rfl⟩
  · have d : Hid (decide (0 < h ∧ h ≤ 1000000000000) = false) := decide_eq_false fun c => a c.1
    obtain rfl : h = 0 := by omega
    clear a
    go_enter Try.func20, Try.ntmps20
    go_wp2
    go_ret
    exact ⟨ret_bool d.out.symm, rfl⟩

attribute [local go_sem ↓] eqlC_eq neqC_eq

theorem pmade10_any (w : World) (N h n : Nat) (c : Sc w N h n) (h0 : 0 < h) :
    Calls Try.prog 21 #[.pointer (some ⟨N, 0, none⟩)] w fun r w' => r = .returned (.bool true) ∧ w' = w := by
  obtain ⟨c0, c1, c2⟩ := c.at
  have ne := neq_sc w (h : Int) (totT h n : Int) (resT h n : Int) 0 0 0 false (decide_eq_false fun e => by omega)
  generalize totT h n = t at *
  generalize resT h n = r at *
  clear c h0
  go_enter Try.func21, Try.ntmps21
  go_wp2
  go_ret
  exact ⟨rfl, rfl⟩
theorem pmade10_none (w : World) :
    Calls Try.prog 21 #[.pointer none] w fun r w' => r = .returned (.bool false) ∧ w' = w := by
  go_enter Try.func21, Try.ntmps21
  go_wp2
  go_ret
  exact ⟨rfl, rfl⟩
/-- One that New did not make. -/
def ScZ (w : World) (N : Nat) : Prop := w.heap[N]? = some (.cells #[.int .u64 0, .int .i64 0, .int .u64 0] 40 (0, 0))
theorem pmade10_zero (w : World) (N : Nat) (c : ScZ w N) :
    Calls Try.prog 21 #[.pointer (some ⟨N, 0, none⟩)] w fun r w' => r = .returned (.bool false) ∧ w' = w := by
  have c0 : w.cell? ⟨N, 0, none⟩ = some (.int .u64 0) := blk_cell c
  have c1 : w.cell? ⟨N, 1, none⟩ = some (.int .i64 0) := blk_cell c
  have c2 : w.cell? ⟨N, 2, none⟩ = some (.int .u64 0) := blk_cell c
  have ne := neq_sc w 0 0 0 0 0 0 true (by decide)
  clear c
  go_enter Try.func21, Try.ntmps21
  go_wp2
  go_ret
  exact ⟨rfl, rfl⟩

theorem pfull10_any (w : World) (h : Nat) :
    Calls Try.prog 29 #[.int .u64 (h : Nat)] w fun r w' => r = .returned (.agg #[.int .u64 (h : Nat), .int .i64 4611686018427387904, .int .u64 0]) ∧ Below w.heap.size w w' := by
  have L := Lib.hid (((Below.refl w.heap.size w)).alloc (Nat.le_refl _) (.cells #[.int .u64 (h : Nat), .int .i64 4611686018427387904, .int .u64 0] 40))
  go_enter Try.func29, Try.ntmps29
  go_wp2
  exact bodyPost_ret (v := .agg #[.int .u64 (h : Nat), .int .i64 4611686018427387904, .int .u64 0]) (by simp [results, Try.results29, go_sem]) rfl ⟨rfl, L.out⟩

theorem pproduct10_any (w : World) (a b hi lo : Nat) (ha : a < 18446744073709551616) (hb : b < 18446744073709551616) (eh : a * b / 18446744073709551616 = hi) (el : a * b % 18446744073709551616 = lo) :
    Calls Try.prog 30 #[.int .u64 (a : Nat), .int .u64 (b : Nat)] w fun e w' => e = .returned (.agg #[.int .u64 (hi : Nat), .int .u64 (lo : Nat)]) ∧ Below w.heap.size w w' := by
  have M := Lib.hid (mul64_of a b hi lo ha hb eh el)
  have L := Lib.hid (((Below.refl w.heap.size w)).alloc (Nat.le_refl _) (.cells #[.int .u64 (hi : Nat), .int .u64 (lo : Nat)] 57))
  clear ha hb eh el
  go_enter Try.func30, Try.ntmps30
  go_wp2_with fail
  refine (M.out _).mono ?_; rintro e w' ⟨rfl, rfl⟩
  go_wp2
  exact bodyPost_ret (v := .agg #[.int .u64 (hi : Nat), .int .u64 (lo : Nat)]) (by simp [results, Try.results30, go_sem]) rfl ⟨rfl, L.out⟩

theorem add64_of (x y s c : Nat) (es : (x + y) % 18446744073709551616 = s) (ec : (x + y) / 18446744073709551616 = c) (w : World) :
    (callFunc 39 #[.int .u64 (x : Nat), .int .u64 (y : Nat), .int .u64 0]).run Try.prog w = .ok (.value (.tuple #[.int .u64 (s : Nat), .int .u64 (c : Nat)])) w := by
  rw [run_callFunc_extern Try.func39 (by kernel_rfl) (by kernel_rfl) (by kernel_rfl) (e := add64Entry) (by kernel_rfl), run_add64 x y 0 (by omega) (by omega) (by omega) (by omega)]
  have e1 : ((x : Int) + (y : Int) + 0) % 18446744073709551616 = (s : Int) := by omega
  have e2 : ((x : Int) + (y : Int) + 0) / 18446744073709551616 = (c : Int) := by omega
  rw [e1, e2]
  rfl

theorem pplus10_any (w : World) (hi lo n s c g : Nat) (es : (lo + n) % 18446744073709551616 = s) (ec : (lo + n) / 18446744073709551616 = c) (eg : hi + c = g) (gb : g < 18446744073709551616) :
    Calls Try.prog 31 #[.agg #[.int .u64 (hi : Nat), .int .u64 (lo : Nat)], .int .u64 (n : Nat)] w fun e w' => e = .returned (.agg #[.int .u64 (g : Nat), .int .u64 (s : Nat)]) ∧ Below w.heap.size w w' := by
  have AD := add64_of lo n s c es ec
  have G : (hi : Int) + (c : Int) = (g : Int) := by omega
  have GW : IntKind.u64.wrap (g : Int) = (g : Int) := by rw [IntKind.wrap_u64]; omega
  have L : Hid (Below w.heap.size w ((w.alloc (.cells #[.int .u64 (hi : Nat), .int .u64 (lo : Nat)] 57)).alloc (.cells #[.int .u64 (g : Nat), .int .u64 (s : Nat)] 57))) := ((Below.refl w.heap.size w).alloc (Nat.le_refl _) _).alloc (by simp) _
  clear es ec eg gb
  go_enter Try.func31, Try.ntmps31
  go_wp2
  exact bodyPost_ret (v := .agg #[.int .u64 (g : Nat), .int .u64 (s : Nat)]) (by simp [results, Try.results31, go_sem]) rfl ⟨rfl, L.out⟩
end Go.Proofs.Ytccfimempjbnfaa
