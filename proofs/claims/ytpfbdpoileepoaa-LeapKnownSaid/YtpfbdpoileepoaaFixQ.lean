/- Contracts of package fix (layer 1): products in two words, quotients. -/
import Derived.Test.YtpfbdpoileepoaaDivAny
import Derived.Test.YtpfbdpoileepoaaFixA
import Derived.WalkSmall
namespace Go.Proofs.Ytpfbdpoileepoaa
open Go.ChangeShapes Go.WideShapes Go.ChangeAt Go.RowKit

theorem size_any (a : Int) (ha : I64 a) (w : World) :
    Calls Try.prog 63 #[.int .i64 a] w fun e w' => e = .returned (.int .u64 (a.natAbs : Nat)) ∧ w = w' := by
  by_cases c : a < 0
  · have e1 : IntKind.u64.wrap a = a + 18446744073709551616 := by unfold I64 at ha; rw [IntKind.wrap_u64]; omega
    have e2 : IntKind.u64.wrap (-(a + 18446744073709551616)) = (a.natAbs : Int) := by unfold I64 at ha; rw [IntKind.wrap_u64]; omega
    have H : Hid (IntKind.u64.wrap (-IntKind.u64.wrap a) = (a.natAbs : Int)) := by unfold Hid; rw [e1, e2]
    clear e1 e2
    go_enter Try.func63, Try.ntmps63
    go_wp2
    go_ret
    exact ⟨ret_int H.out, rfl⟩
  · have H : Hid (IntKind.u64.wrap a = (a.natAbs : Int)) := by unfold Hid; unfold I64 at ha; rw [IntKind.wrap_u64]; omega
    have c' : 0 ≤ a := by omega
    clear c
    go_enter Try.func63, Try.ntmps63
    go_wp2
    go_ret
    exact ⟨ret_int H.out, rfl⟩

theorem mul64_of (x y h l : Nat) (hx : x < 18446744073709551616) (hy : y < 18446744073709551616) (eh : x * y / 18446744073709551616 = h) (el : x * y % 18446744073709551616 = l) (w : World) :
    Calls Try.prog 62 #[.int .u64 x, .int .u64 y] w fun e w' => e = .returned (.tuple #[.int .u64 h, .int .u64 l]) ∧ w = w' := by
  refine (Try.bits_Mul64 x y hx hy w).mono ?_
  rintro e w' ⟨rfl, rfl⟩
  rw [eh, el]
  exact ⟨rfl, rfl⟩

/-- The product without its sign, in two words; they lie in one new block. -/
theorem product_any (a b : Int) (ha : I64 a) (hb : I64 b) (h l : Nat) (eh : a.natAbs * b.natAbs / 18446744073709551616 = h) (el : a.natAbs * b.natAbs % 18446744073709551616 = l) (w : World) :
    Calls Try.prog 60 #[.int .i64 a, .int .i64 b] w fun e w' => e = .returned (.agg #[.int .u64 h, .int .u64 l]) ∧ w' = w.alloc (.cells #[.int .u64 h, .int .u64 l] 93) := by
  have ma : a.natAbs < 18446744073709551616 := by unfold I64 at ha; omega
  have mb : b.natAbs < 18446744073709551616 := by unfold I64 at hb; omega
  have EH := Lib.hid eh
  have EL := Lib.hid el
  clear eh el
  go_enter Try.func60, Try.ntmps60
  go_wp2_with fail
  refine (size_any a ha _).mono ?_; rintro e w' ⟨rfl, rfl⟩
  go_wp2_with fail
  refine (size_any b hb _).mono ?_; rintro e w' ⟨rfl, rfl⟩
  go_wp2_with fail
  refine (mul64_of _ _ h l ma mb EH.out EL.out _).mono ?_; rintro e w' ⟨rfl, rfl⟩
  go_wp2
  exact bodyPost_ret (v := .agg #[.int .u64 h, .int .u64 l]) (by simp [results, Try.results60, go_sem]) rfl ⟨rfl, rfl⟩

/-- What the closure makes of a size. -/
def backN (neg : Bool) (n : Nat) : Int := if neg then (if n ≤ 9223372036854775808 then -(n : Int) else 0) else (if n < 9223372036854775808 then (n : Int) else 0)
def backE (neg : Bool) (n : Nat) : Int := if neg then (if n ≤ 9223372036854775808 then 0 else 20) else (if n < 9223372036854775808 then 0 else 20)

theorem back_any (neg : Bool) (n : Nat) (hn : n < 18446744073709551616) (p : Addr) (w : World) (hc : w.cell? p = some (.bool neg)) :
    Calls Try.prog 59 #[.int .u64 n, .pointer (some p)] w fun e w' => e = .returned (.tuple #[.int .i64 (backN neg n), .int .i64 (backE neg n)]) ∧ w = w' := by
  cases neg
  · by_cases c : n < 9223372036854775808
    · have H : Hid (backN false n = n ∧ backE false n = 0 ∧ wrap64 n = n) := by unfold Hid backN backE wrap64; simp [c]; omega
      have c1 : decide ((n : Int) < 9223372036854775808) = true := by simp; omega
      have c2 : (n : Int) < 9223372036854775808 := by omega
      clear c hn
      go_enter Try.func59, Try.ntmps59
      go_wp2
      go_ret2
      exact ⟨ret_pair (by rw [H.out.1]) (by rw [H.out.2.1]), rfl⟩
    · have H : Hid (backN false n = 0 ∧ backE false n = 20) := by unfold Hid backN backE; simp [c]
      have c1 : decide ((n : Int) < 9223372036854775808) = false := by simp; omega
      have c2 : 9223372036854775808 ≤ (n : Int) := by omega
      clear c hn
      go_enter Try.func59, Try.ntmps59
      go_wp2
      go_ret2
      exact ⟨ret_pair (by rw [H.out.1]) (by rw [H.out.2]), rfl⟩
  · by_cases c : n ≤ 9223372036854775808
    · have H : Hid (backN true n = -n ∧ backE true n = 0 ∧ wrap64 (IntKind.u64.wrap (-(n : Int))) = -n) := by unfold Hid backN backE wrap64; rw [IntKind.wrap_u64]; simp [c]; omega
      have c1 : decide ((n : Int) ≤ 9223372036854775808) = true := by simp; omega
      have c2 : (n : Int) ≤ 9223372036854775808 := by omega
      clear c hn
      go_enter Try.func59, Try.ntmps59
      go_wp2
      go_ret2
      exact ⟨ret_pair (by rw [H.out.1]; exact H.out.2.2) (by rw [H.out.2.1]), rfl⟩
    · have H : Hid (backN true n = 0 ∧ backE true n = 20) := by unfold Hid backN backE; simp [c]
      have c1 : decide ((n : Int) ≤ 9223372036854775808) = false := by simp; omega
      have c2 : 9223372036854775808 < (n : Int) := by omega
      clear c hn
      go_enter Try.func59, Try.ntmps59
      go_wp2
      go_ret2
      exact ⟨ret_pair (by rw [H.out.1]) (by rw [H.out.2]), rfl⟩

theorem quotient_arg (a b c : Int) (up : Bool) (hc : c ≤ 0) (w : World) :
    Calls Try.prog 58 #[.int .i64 a, .int .i64 b, .int .i64 c, .bool up] w fun e w' => e = .returned (.tuple #[.int .i64 0, .int .i64 1]) ∧ w = w' := by
  go_enter Try.func58, Try.ntmps58
  go_wp2
  go_ret2
  exact ⟨rfl, rfl⟩

theorem div64_of (hi lo y q r : Nat) (h1 : hi < y) (h2 : lo < 18446744073709551616) (h3 : y < 18446744073709551616) (hq : (hi * 18446744073709551616 + lo) / y = q) (hr : (hi * 18446744073709551616 + lo) % y = r) (w : World) :
    Calls Try.prog 61 #[.int .u64 hi, .int .u64 lo, .int .u64 y] w fun e w' => e = .returned (.tuple #[.int .u64 q, .int .u64 r]) ∧ ∃ n, w' = w.drewN n := by
  refine (div64_any hi lo y h1 h2 h3 w).mono ?_
  rintro e w' ⟨rfl, n, rfl⟩
  rw [hq, hr]
  exact ⟨rfl, n, rfl⟩

set_option maxHeartbeats 800000 in
theorem quotient_core (a b : Int) (c h l q r m : Nat) (up x y neg away : Bool) (ha : I64 a) (hb : I64 b) (h0 : 0 < c) (h1 : c < 9223372036854775808)
    (eh : a.natAbs * b.natAbs / 18446744073709551616 = h) (el : a.natAbs * b.natAbs % 18446744073709551616 = l)
    (hx : decide (a < 0) = x) (hy : decide (b < 0) = y) (hn : (!(x == y)) = neg) (hw : (!(up == neg)) = away) (hh : h < c) (hq : (h * 18446744073709551616 + l) / c = q) (hr : (h * 18446744073709551616 + l) % c = r)
    (cs : (0 < r ∧ away = true ∧ q ≤ 9223372036854775808 ∧ m = q + 1) ∨ (r = 0 ∧ m = q) ∨ (0 < r ∧ away = false ∧ m = q) ∨ (0 < r ∧ away = true ∧ 9223372036854775808 < q ∧ m = q)) (w : World) :
    Calls Try.prog 58 #[.int .i64 a, .int .i64 b, .int .i64 c, .bool up] w fun e w' => e = .returned (.tuple #[.int .i64 (backN neg m), .int .i64 (backE neg m)]) ∧ Out w w' := by
  have EH := Lib.hid eh
  have hl : l < 18446744073709551616 := by rw [← el]; exact Nat.mod_lt _ (by omega)
  have HL := Lib.hid hl
  have EL := Lib.hid el
  have EQ := Lib.hid hq
  have ER := Lib.hid hr
  have H1 := Lib.hid h1
  have HH := Lib.hid hh
  have h0' : 0 < (c : Int) := by omega
  have cw : IntKind.u64.wrap (c : Int) = (c : Int) := by rw [IntKind.wrap_u64]; omega
  have n1 : ¬ c = 0 := by omega
  have n2 : ¬ c ≤ h := by omega
  have BQ : q < 18446744073709551616 := by rw [← hq]; rw [Nat.div_lt_iff_lt_mul (by omega)]; omega
  have BQ := Lib.hid BQ
  clear eh el hq hr h1 hh hl
  rcases cs with ⟨c1, ew, c2, em⟩ | ⟨rfl, rfl⟩ | ⟨c1, ew, rfl⟩ | ⟨c1, ew, c2, rfl⟩
  · have c3 : 0 < (r : Int) := by omega
    have hw' : (!(up == neg)) = true := by rw [hw, ew]
    have c4 : decide ((q : Int) ≤ 9223372036854775808) = true := by simp; omega
    have c5 : (q : Int) ≤ 9223372036854775808 := by omega
    have c6 : IntKind.u64.wrap ((q : Int) + 1) = (m : Int) := by rw [IntKind.wrap_u64]; omega
    have BQ' := BQ
    have BQ : Hid (m < 18446744073709551616) := by unfold Hid; omega
    clear c2 em BQ'
    clear hw ew
    go_enter Try.func58, Try.ntmps58
    go_wp2_with fail
    refine (product_any a b ha hb h l EH.out EL.out _).mono ?_; rintro e w' ⟨rfl, rfl⟩
    go_wp2_with fail
    refine (div64_of h l c q r HH.out HL.out (by have := H1.out; omega) EQ.out ER.out _).mono ?_; rintro e w' ⟨rfl, n, rfl⟩
    go_wp2_with fail
    refine (back_any neg m BQ.out ⟨w.heap.size, 0, none⟩ _ (by simp [go_sem])).mono ?_; rintro e w' ⟨rfl, rfl⟩
    go_wp2
    go_ret2
    exact ⟨rfl, ((((Out.refl w).alloc _ _).alloc _ _).alloc _ _).drewN n⟩
  · have ew := trivial
    clear hw ew
    go_enter Try.func58, Try.ntmps58
    go_wp2_with fail
    refine (product_any a b ha hb h l EH.out EL.out _).mono ?_; rintro e w' ⟨rfl, rfl⟩
    go_wp2_with fail
    refine (div64_of h l c m 0 HH.out HL.out (by have := H1.out; omega) EQ.out ER.out _).mono ?_; rintro e w' ⟨rfl, n, rfl⟩
    go_wp2_with fail
    refine (back_any neg m BQ.out ⟨w.heap.size, 0, none⟩ _ (by simp [go_sem])).mono ?_; rintro e w' ⟨rfl, rfl⟩
    go_wp2
    go_ret2
    exact ⟨rfl, ((((Out.refl w).alloc _ _).alloc _ _).alloc _ _).drewN n⟩
  · have c3 : 0 < (r : Int) := by omega
    have hw' : (!(up == neg)) = false := by rw [hw, ew]
    clear hw ew
    go_enter Try.func58, Try.ntmps58
    go_wp2_with fail
    refine (product_any a b ha hb h l EH.out EL.out _).mono ?_; rintro e w' ⟨rfl, rfl⟩
    go_wp2_with fail
    refine (div64_of h l c m r HH.out HL.out (by have := H1.out; omega) EQ.out ER.out _).mono ?_; rintro e w' ⟨rfl, n, rfl⟩
    go_wp2_with fail
    refine (back_any neg m BQ.out ⟨w.heap.size, 0, none⟩ _ (by simp [go_sem])).mono ?_; rintro e w' ⟨rfl, rfl⟩
    go_wp2
    go_ret2
    exact ⟨rfl, ((((Out.refl w).alloc _ _).alloc _ _).alloc _ _).drewN n⟩
  · have c3 : 0 < (r : Int) := by omega
    have hw' : (!(up == neg)) = true := by rw [hw, ew]
    have c4 : decide ((m : Int) ≤ 9223372036854775808) = false := by simp; omega
    have c5 : 9223372036854775808 < (m : Int) := by omega
    clear c2
    clear hw ew
    go_enter Try.func58, Try.ntmps58
    go_wp2_with fail
    refine (product_any a b ha hb h l EH.out EL.out _).mono ?_; rintro e w' ⟨rfl, rfl⟩
    go_wp2_with fail
    refine (div64_of h l c m r HH.out HL.out (by have := H1.out; omega) EQ.out ER.out _).mono ?_; rintro e w' ⟨rfl, n, rfl⟩
    go_wp2_with fail
    refine (back_any neg m BQ.out ⟨w.heap.size, 0, none⟩ _ (by simp [go_sem])).mono ?_; rintro e w' ⟨rfl, rfl⟩
    go_wp2
    go_ret2
    exact ⟨rfl, ((((Out.refl w).alloc _ _).alloc _ _).alloc _ _).drewN n⟩
end Go.Proofs.Ytpfbdpoileepoaa

