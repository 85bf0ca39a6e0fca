/- The walk of FixRest: a division with a rest, in 128 bits, way by way. -/
import Derived.Test.YtocfbkkgcbconaaFixWide
namespace Go.Proofs.Ytocfbkkgcbconaa
open Go.ChangeShapes Go.WideShapes Go.ChangeAt Go.RowKit

set_option linter.unusedVariables false
/-- What down and up come to, and the rest. -/
theorem quo_both (t c : Int) (hc : 0 < c) : ∃ s r : Int, t = s + r ∧ s = quoI t c false * c ∧ 0 ≤ r ∧ r < c ∧ ((r = 0 ∧ quoI t c true = quoI t c false) ∨ (0 < r ∧ quoI t c true = quoI t c false + 1)) ∧ quoI (-t) c false = -(quoI t c true) := by
  have e := Int.mul_ediv_add_emod t c
  have r0 := Int.emod_nonneg t (show c ≠ 0 by omega)
  have r1 := Int.emod_lt_of_pos t hc
  have q1 : quoI t c false = t / c := rfl
  have q2 : quoI t c true = -((-t) / c) := rfl
  have q3 : quoI (-t) c false = (-t) / c := rfl
  have e' : t = t / c * c + t % c := by rw [Int.mul_comm]; exact e.symm
  refine ⟨t / c * c, t % c, e', by rw [q1], r0, r1, ?_, by rw [q2, q3]; omega⟩
  rw [q1, q2]
  by_cases h : t % c = 0
  · left
    refine ⟨h, ?_⟩
    have : (-t) / c = -(t / c) := by
      refine ((Int.ediv_emod_unique (r := 0) hc).2 ⟨?_, by omega, hc⟩).1
      rw [Int.mul_neg]; omega
    omega
  · right
    refine ⟨by omega, ?_⟩
    have : (-t) / c = -(t / c + 1) := by
      refine ((Int.ediv_emod_unique (r := c - t % c) hc).2 ⟨?_, by omega, by omega⟩).1
      rw [Int.mul_neg, Int.mul_add, Int.mul_one]; omega
    omega

theorem quo_cong {t t' c : Int} {up : Bool} (h : t = t') : quoI t c up = quoI t' c up := by rw [h]

/-- The words of a difference that is small. -/
theorem words_diff (t s r : Int) (c ph pl qh ql : Nat) (e : t = s + r) (r0 : 0 ≤ r) (r1 : r < c) (c1 : c < 9223372036854775808)
    (a1 : t % 340282366920938463463374607431768211456 / 18446744073709551616 = (ph : Int)) (a2 : t % 18446744073709551616 = (pl : Int))
    (b1 : s % 340282366920938463463374607431768211456 / 18446744073709551616 = (qh : Int)) (b2 : s % 18446744073709551616 = (ql : Int)) :
    ∃ o : Nat, o ≤ 1 ∧ (if pl < ql + 0 then 1 else 0) = o ∧ (((pl + 18446744073709551616 - ql - 0) % 18446744073709551616 : Nat) : Int) = r ∧ (ph + 18446744073709551616 - qh - o) % 18446744073709551616 = 0 := by
  by_cases h : pl < ql + 0
  · refine ⟨1, by omega, if_pos h, ?_, ?_⟩ <;> omega
  · refine ⟨0, by omega, if_neg h, ?_, ?_⟩ <;> omega

theorem rest_arg (a b c : Int) (hc : c ≤ 0) (w : World) :
    Calls Try.prog 5 #[.int .i64 a, .int .i64 b, .int .i64 c] w fun e w' => e = .returned (.bool true) ∧ Grown w w' := by
  go_enter Try.func5, Try.ntmps5
  go_wp2_with fail
  refine (muldiv_arg a b c hc _).mono ?_; rintro e w' ⟨rfl, rfl⟩
  go_wp2_with fail
  refine (muldivup_arg a b c hc _).mono ?_; rintro e w' ⟨rfl, rfl⟩
  go_wp2_with fail
  refine (awake_any _).mono ?_; rintro e w3 ⟨rfl, o3⟩
  go_wp2
  go_ret
  exact ⟨rfl, o3.g⟩

set_option maxRecDepth 100000 in
set_option maxHeartbeats 2000000 in
theorem e1f1zmin (a b : Int) (c : Nat) (q p n : Int) (ph pl qh ql lo o oo : Nat) ( w : World)
    (DOWN : ∀ w, Calls Try.prog 23 #[.int .i64 a, .int .i64 b, .int .i64 c] w fun e w' => e = .returned (.tuple #[.int .i64 q, .int .i64 0]) ∧ Out w w')
    (UP : ∀ w, Calls Try.prog 25 #[.int .i64 a, .int .i64 b, .int .i64 c] w fun e w' => e = .returned (.tuple #[.int .i64 p, .int .i64 0]) ∧ Out w w')
    (WAB : ∀ w, Calls Try.prog 28 #[.int .i64 a, .int .i64 b] w fun e w' => e = .returned (.tuple #[.int .u64 ph, .int .u64 pl]) ∧ w = w')
    (WQC : ∀ w, Calls Try.prog 28 #[.int .i64 q, .int .i64 c] w fun e w' => e = .returned (.tuple #[.int .u64 qh, .int .u64 ql]) ∧ w = w')
    (S1 : ∀ w, (callFunc 30 #[.int .u64 pl, .int .u64 ql, .int .u64 0]).run Try.prog w = .ok (.value (.tuple #[.int .u64 lo, .int .u64 o])) w)
    (S2 : ∀ w, (callFunc 30 #[.int .u64 ph, .int .u64 qh, .int .u64 o]).run Try.prog w = .ok (.value (.tuple #[.int .u64 0, .int .u64 oo])) w)
    (cw : IntKind.u64.wrap (c : Int) = (c : Int)) (rc : ¬ c ≤ lo)
    (hr : ((lo : Int) == 0) = true ∧ (p == q) = true)
    (am : (a == -9223372036854775808) = true)
    (h0 : 0 < (c : Int)) :
    Calls Try.prog 5 #[.int .i64 a, .int .i64 b, .int .i64 c] w fun e w' => e = .returned (.bool true) ∧ Grown w w' := by
  have D := Lib.hid DOWN
  have U := Lib.hid UP
  clear DOWN UP
  have WA := Lib.hid WAB
  clear WAB
  have c0 : ¬ c = 0 := by omega
  have WQ := Lib.hid WQC
  clear WQC
  obtain ⟨l0, pq⟩ := hr
  obtain rfl : p = q := by simpa using pq
  clear pq
  have pq : (p == p) = true := by simp
  have pqn : (p != p) = false := by simp
  have amn : (a != -9223372036854775808) = false := by rw [bne, am]; rfl
  go_enter Try.func5, Try.ntmps5
  go_wp2_with fail
  refine (D.out _).mono ?_; rintro e w1 ⟨rfl, o1⟩
  go_wp2_with fail
  refine (U.out _).mono ?_; rintro e w2 ⟨rfl, o2⟩
  go_wp2_with fail
  refine (WA.out _).mono ?_; rintro e w' ⟨rfl, rfl⟩
  go_wp2_with fail
  refine (WQ.out _).mono ?_; rintro e w' ⟨rfl, rfl⟩
  go_wp2_with fail
  refine (awake_any _).mono ?_; rintro e w4 ⟨rfl, o4⟩
  go_wp2
  go_ret
  exact ⟨rfl, ((o1.trans o2).trans o4).g⟩

set_option maxRecDepth 100000 in
set_option maxHeartbeats 2000000 in
theorem e1f1zok (a b : Int) (c : Nat) (q p n : Int) (ph pl qh ql lo o oo : Nat) ( w : World)
    (DOWN : ∀ w, Calls Try.prog 23 #[.int .i64 a, .int .i64 b, .int .i64 c] w fun e w' => e = .returned (.tuple #[.int .i64 q, .int .i64 0]) ∧ Out w w')
    (UP : ∀ w, Calls Try.prog 25 #[.int .i64 a, .int .i64 b, .int .i64 c] w fun e w' => e = .returned (.tuple #[.int .i64 p, .int .i64 0]) ∧ Out w w')
    (WAB : ∀ w, Calls Try.prog 28 #[.int .i64 a, .int .i64 b] w fun e w' => e = .returned (.tuple #[.int .u64 ph, .int .u64 pl]) ∧ w = w')
    (WQC : ∀ w, Calls Try.prog 28 #[.int .i64 q, .int .i64 c] w fun e w' => e = .returned (.tuple #[.int .u64 qh, .int .u64 ql]) ∧ w = w')
    (S1 : ∀ w, (callFunc 30 #[.int .u64 pl, .int .u64 ql, .int .u64 0]).run Try.prog w = .ok (.value (.tuple #[.int .u64 lo, .int .u64 o])) w)
    (S2 : ∀ w, (callFunc 30 #[.int .u64 ph, .int .u64 qh, .int .u64 o]).run Try.prog w = .ok (.value (.tuple #[.int .u64 0, .int .u64 oo])) w)
    (cw : IntKind.u64.wrap (c : Int) = (c : Int)) (rc : ¬ c ≤ lo)
    (hr : ((lo : Int) == 0) = true ∧ (p == q) = true)
    (THIRD : ∀ w, Calls Try.prog 23 #[.int .i64 (-a), .int .i64 b, .int .i64 c] w fun e w' => e = .returned (.tuple #[.int .i64 n, .int .i64 0]) ∧ Out w w')
    (am : (a == -9223372036854775808) = false) (an : IntKind.i64.wrap (-a) = -a)
    (nm : (n == -9223372036854775808) = false) (pn : IntKind.i64.wrap (-n) = -n) (pe : (p == -n) = true)
    (h0 : 0 < (c : Int)) :
    Calls Try.prog 5 #[.int .i64 a, .int .i64 b, .int .i64 c] w fun e w' => e = .returned (.bool true) ∧ Grown w w' := by
  have D := Lib.hid DOWN
  have U := Lib.hid UP
  clear DOWN UP
  have WA := Lib.hid WAB
  clear WAB
  have c0 : ¬ c = 0 := by omega
  have WQ := Lib.hid WQC
  clear WQC
  obtain ⟨l0, pq⟩ := hr
  obtain rfl : p = q := by simpa using pq
  clear pq
  have pq : (p == p) = true := by simp
  have pqn : (p != p) = false := by simp
  have T := Lib.hid THIRD
  clear THIRD
  have amn : (a != -9223372036854775808) = true := by rw [bne, am]; rfl
  have amp : ¬ a = -9223372036854775808 := by simpa using am
  have nmn : (n != -9223372036854775808) = true := by rw [bne, nm]; rfl
  have nmp : ¬ n = -9223372036854775808 := by simpa using nm
  have pen : (p != -n) = false := by rw [bne, pe]; rfl
  go_enter Try.func5, Try.ntmps5
  go_wp2_with fail
  refine (D.out _).mono ?_; rintro e w1 ⟨rfl, o1⟩
  go_wp2_with fail
  refine (U.out _).mono ?_; rintro e w2 ⟨rfl, o2⟩
  go_wp2_with fail
  refine (WA.out _).mono ?_; rintro e w' ⟨rfl, rfl⟩
  go_wp2_with fail
  refine (WQ.out _).mono ?_; rintro e w' ⟨rfl, rfl⟩
  go_wp2_with fail
  refine (T.out _).mono ?_; rintro e w3 ⟨rfl, o3⟩
  go_wp2_with fail
  refine (awake_any _).mono ?_; rintro e w4 ⟨rfl, o4⟩
  go_wp2
  go_ret
  exact ⟨rfl, (((o1.trans o2).trans o3).trans o4).g⟩

set_option maxRecDepth 100000 in
set_option maxHeartbeats 2000000 in
theorem e1f1zno (a b : Int) (c : Nat) (q p n : Int) (ph pl qh ql lo o oo : Nat) ( w : World)
    (DOWN : ∀ w, Calls Try.prog 23 #[.int .i64 a, .int .i64 b, .int .i64 c] w fun e w' => e = .returned (.tuple #[.int .i64 q, .int .i64 0]) ∧ Out w w')
    (UP : ∀ w, Calls Try.prog 25 #[.int .i64 a, .int .i64 b, .int .i64 c] w fun e w' => e = .returned (.tuple #[.int .i64 p, .int .i64 0]) ∧ Out w w')
    (WAB : ∀ w, Calls Try.prog 28 #[.int .i64 a, .int .i64 b] w fun e w' => e = .returned (.tuple #[.int .u64 ph, .int .u64 pl]) ∧ w = w')
    (WQC : ∀ w, Calls Try.prog 28 #[.int .i64 q, .int .i64 c] w fun e w' => e = .returned (.tuple #[.int .u64 qh, .int .u64 ql]) ∧ w = w')
    (S1 : ∀ w, (callFunc 30 #[.int .u64 pl, .int .u64 ql, .int .u64 0]).run Try.prog w = .ok (.value (.tuple #[.int .u64 lo, .int .u64 o])) w)
    (S2 : ∀ w, (callFunc 30 #[.int .u64 ph, .int .u64 qh, .int .u64 o]).run Try.prog w = .ok (.value (.tuple #[.int .u64 0, .int .u64 oo])) w)
    (cw : IntKind.u64.wrap (c : Int) = (c : Int)) (rc : ¬ c ≤ lo)
    (hr : ((lo : Int) == 0) = true ∧ (p == q) = true)
    (THIRD : ∀ w, Calls Try.prog 23 #[.int .i64 (-a), .int .i64 b, .int .i64 c] w fun e w' => e = .returned (.tuple #[.int .i64 0, .int .i64 20]) ∧ Out w w')
    (am : (a == -9223372036854775808) = false) (an : IntKind.i64.wrap (-a) = -a)
    (h0 : 0 < (c : Int)) :
    Calls Try.prog 5 #[.int .i64 a, .int .i64 b, .int .i64 c] w fun e w' => e = .returned (.bool true) ∧ Grown w w' := by
  have D := Lib.hid DOWN
  have U := Lib.hid UP
  clear DOWN UP
  have WA := Lib.hid WAB
  clear WAB
  have c0 : ¬ c = 0 := by omega
  have WQ := Lib.hid WQC
  clear WQC
  obtain ⟨l0, pq⟩ := hr
  obtain rfl : p = q := by simpa using pq
  clear pq
  have pq : (p == p) = true := by simp
  have pqn : (p != p) = false := by simp
  have T := Lib.hid THIRD
  clear THIRD
  have amn : (a != -9223372036854775808) = true := by rw [bne, am]; rfl
  have amp : ¬ a = -9223372036854775808 := by simpa using am
  go_enter Try.func5, Try.ntmps5
  go_wp2_with fail
  refine (D.out _).mono ?_; rintro e w1 ⟨rfl, o1⟩
  go_wp2_with fail
  refine (U.out _).mono ?_; rintro e w2 ⟨rfl, o2⟩
  go_wp2_with fail
  refine (WA.out _).mono ?_; rintro e w' ⟨rfl, rfl⟩
  go_wp2_with fail
  refine (WQ.out _).mono ?_; rintro e w' ⟨rfl, rfl⟩
  go_wp2_with fail
  refine (T.out _).mono ?_; rintro e w3 ⟨rfl, o3⟩
  go_wp2_with fail
  refine (awake_any _).mono ?_; rintro e w4 ⟨rfl, o4⟩
  go_wp2
  go_ret
  exact ⟨rfl, (((o1.trans o2).trans o3).trans o4).g⟩

set_option maxRecDepth 100000 in
set_option maxHeartbeats 2000000 in
theorem e1f1pmin (a b : Int) (c : Nat) (q p n : Int) (ph pl qh ql lo o oo : Nat) ( w : World)
    (DOWN : ∀ w, Calls Try.prog 23 #[.int .i64 a, .int .i64 b, .int .i64 c] w fun e w' => e = .returned (.tuple #[.int .i64 q, .int .i64 0]) ∧ Out w w')
    (UP : ∀ w, Calls Try.prog 25 #[.int .i64 a, .int .i64 b, .int .i64 c] w fun e w' => e = .returned (.tuple #[.int .i64 p, .int .i64 0]) ∧ Out w w')
    (WAB : ∀ w, Calls Try.prog 28 #[.int .i64 a, .int .i64 b] w fun e w' => e = .returned (.tuple #[.int .u64 ph, .int .u64 pl]) ∧ w = w')
    (WQC : ∀ w, Calls Try.prog 28 #[.int .i64 q, .int .i64 c] w fun e w' => e = .returned (.tuple #[.int .u64 qh, .int .u64 ql]) ∧ w = w')
    (S1 : ∀ w, (callFunc 30 #[.int .u64 pl, .int .u64 ql, .int .u64 0]).run Try.prog w = .ok (.value (.tuple #[.int .u64 lo, .int .u64 o])) w)
    (S2 : ∀ w, (callFunc 30 #[.int .u64 ph, .int .u64 qh, .int .u64 o]).run Try.prog w = .ok (.value (.tuple #[.int .u64 0, .int .u64 oo])) w)
    (cw : IntKind.u64.wrap (c : Int) = (c : Int)) (rc : ¬ c ≤ lo)
    (hr : ((lo : Int) == 0) = false ∧ p = q + 1 ∧ (p == q) = false ∧ q < 9223372036854775807 ∧ -9223372036854775808 ≤ q)
    (am : (a == -9223372036854775808) = true)
    (h0 : 0 < (c : Int)) :
    Calls Try.prog 5 #[.int .i64 a, .int .i64 b, .int .i64 c] w fun e w' => e = .returned (.bool true) ∧ Grown w w' := by
  have D := Lib.hid DOWN
  have U := Lib.hid UP
  clear DOWN UP
  have WA := Lib.hid WAB
  clear WAB
  have c0 : ¬ c = 0 := by omega
  have WQ := Lib.hid WQC
  clear WQC
  obtain ⟨l0, pq1, pq, q1, q2⟩ := hr
  have PQ := Lib.hid pq1
  have pq2 : (p == q + 1) = true := by rw [pq1]; simp
  have pq2n : (p != q + 1) = false := by rw [pq1]; simp
  have pqn : (p != q) = true := by rw [bne, pq]; rfl
  have pqp : ¬ p = q := by simpa using pq
  have l0p : ¬ lo = 0 := by simpa using l0
  clear pq1
  have amn : (a != -9223372036854775808) = false := by rw [bne, am]; rfl
  go_enter Try.func5, Try.ntmps5
  go_wp2_with fail
  refine (D.out _).mono ?_; rintro e w1 ⟨rfl, o1⟩
  go_wp2_with fail
  refine (U.out _).mono ?_; rintro e w2 ⟨rfl, o2⟩
  go_wp2_with fail
  refine (WA.out _).mono ?_; rintro e w' ⟨rfl, rfl⟩
  go_wp2_with fail
  refine (WQ.out _).mono ?_; rintro e w' ⟨rfl, rfl⟩
  go_wp2_with fail
  refine (awake_any _).mono ?_; rintro e w4 ⟨rfl, o4⟩
  go_wp2
  go_ret
  exact ⟨rfl, ((o1.trans o2).trans o4).g⟩

set_option maxRecDepth 100000 in
set_option maxHeartbeats 2000000 in
theorem e1f1pok (a b : Int) (c : Nat) (q p n : Int) (ph pl qh ql lo o oo : Nat) ( w : World)
    (DOWN : ∀ w, Calls Try.prog 23 #[.int .i64 a, .int .i64 b, .int .i64 c] w fun e w' => e = .returned (.tuple #[.int .i64 q, .int .i64 0]) ∧ Out w w')
    (UP : ∀ w, Calls Try.prog 25 #[.int .i64 a, .int .i64 b, .int .i64 c] w fun e w' => e = .returned (.tuple #[.int .i64 p, .int .i64 0]) ∧ Out w w')
    (WAB : ∀ w, Calls Try.prog 28 #[.int .i64 a, .int .i64 b] w fun e w' => e = .returned (.tuple #[.int .u64 ph, .int .u64 pl]) ∧ w = w')
    (WQC : ∀ w, Calls Try.prog 28 #[.int .i64 q, .int .i64 c] w fun e w' => e = .returned (.tuple #[.int .u64 qh, .int .u64 ql]) ∧ w = w')
    (S1 : ∀ w, (callFunc 30 #[.int .u64 pl, .int .u64 ql, .int .u64 0]).run Try.prog w = .ok (.value (.tuple #[.int .u64 lo, .int .u64 o])) w)
    (S2 : ∀ w, (callFunc 30 #[.int .u64 ph, .int .u64 qh, .int .u64 o]).run Try.prog w = .ok (.value (.tuple #[.int .u64 0, .int .u64 oo])) w)
    (cw : IntKind.u64.wrap (c : Int) = (c : Int)) (rc : ¬ c ≤ lo)
    (hr : ((lo : Int) == 0) = false ∧ p = q + 1 ∧ (p == q) = false ∧ q < 9223372036854775807 ∧ -9223372036854775808 ≤ q)
    (THIRD : ∀ w, Calls Try.prog 23 #[.int .i64 (-a), .int .i64 b, .int .i64 c] w fun e w' => e = .returned (.tuple #[.int .i64 n, .int .i64 0]) ∧ Out w w')
    (am : (a == -9223372036854775808) = false) (an : IntKind.i64.wrap (-a) = -a)
    (nm : (n == -9223372036854775808) = false) (pn : IntKind.i64.wrap (-n) = -n) (pe : (p == -n) = true)
    (h0 : 0 < (c : Int)) :
    Calls Try.prog 5 #[.int .i64 a, .int .i64 b, .int .i64 c] w fun e w' => e = .returned (.bool true) ∧ Grown w w' := by
  have D := Lib.hid DOWN
  have U := Lib.hid UP
  clear DOWN UP
  have WA := Lib.hid WAB
  clear WAB
  have c0 : ¬ c = 0 := by omega
  have WQ := Lib.hid WQC
  clear WQC
  obtain ⟨l0, pq1, pq, q1, q2⟩ := hr
  have PQ := Lib.hid pq1
  have pq2 : (p == q + 1) = true := by rw [pq1]; simp
  have pq2n : (p != q + 1) = false := by rw [pq1]; simp
  have pqn : (p != q) = true := by rw [bne, pq]; rfl
  have pqp : ¬ p = q := by simpa using pq
  have l0p : ¬ lo = 0 := by simpa using l0
  clear pq1
  have T := Lib.hid THIRD
  clear THIRD
  have amn : (a != -9223372036854775808) = true := by rw [bne, am]; rfl
  have amp : ¬ a = -9223372036854775808 := by simpa using am
  have nmn : (n != -9223372036854775808) = true := by rw [bne, nm]; rfl
  have nmp : ¬ n = -9223372036854775808 := by simpa using nm
  have pen : (p != -n) = false := by rw [bne, pe]; rfl
  go_enter Try.func5, Try.ntmps5
  go_wp2_with fail
  refine (D.out _).mono ?_; rintro e w1 ⟨rfl, o1⟩
  go_wp2_with fail
  refine (U.out _).mono ?_; rintro e w2 ⟨rfl, o2⟩
  go_wp2_with fail
  refine (WA.out _).mono ?_; rintro e w' ⟨rfl, rfl⟩
  go_wp2_with fail
  refine (WQ.out _).mono ?_; rintro e w' ⟨rfl, rfl⟩
  go_wp2_with fail
  refine (T.out _).mono ?_; rintro e w3 ⟨rfl, o3⟩
  go_wp2_with fail
  refine (awake_any _).mono ?_; rintro e w4 ⟨rfl, o4⟩
  go_wp2
  go_ret
  exact ⟨rfl, (((o1.trans o2).trans o3).trans o4).g⟩

set_option maxRecDepth 100000 in
set_option maxHeartbeats 2000000 in
theorem e1f1pno (a b : Int) (c : Nat) (q p n : Int) (ph pl qh ql lo o oo : Nat) ( w : World)
    (DOWN : ∀ w, Calls Try.prog 23 #[.int .i64 a, .int .i64 b, .int .i64 c] w fun e w' => e = .returned (.tuple #[.int .i64 q, .int .i64 0]) ∧ Out w w')
    (UP : ∀ w, Calls Try.prog 25 #[.int .i64 a, .int .i64 b, .int .i64 c] w fun e w' => e = .returned (.tuple #[.int .i64 p, .int .i64 0]) ∧ Out w w')
    (WAB : ∀ w, Calls Try.prog 28 #[.int .i64 a, .int .i64 b] w fun e w' => e = .returned (.tuple #[.int .u64 ph, .int .u64 pl]) ∧ w = w')
    (WQC : ∀ w, Calls Try.prog 28 #[.int .i64 q, .int .i64 c] w fun e w' => e = .returned (.tuple #[.int .u64 qh, .int .u64 ql]) ∧ w = w')
    (S1 : ∀ w, (callFunc 30 #[.int .u64 pl, .int .u64 ql, .int .u64 0]).run Try.prog w = .ok (.value (.tuple #[.int .u64 lo, .int .u64 o])) w)
    (S2 : ∀ w, (callFunc 30 #[.int .u64 ph, .int .u64 qh, .int .u64 o]).run Try.prog w = .ok (.value (.tuple #[.int .u64 0, .int .u64 oo])) w)
    (cw : IntKind.u64.wrap (c : Int) = (c : Int)) (rc : ¬ c ≤ lo)
    (hr : ((lo : Int) == 0) = false ∧ p = q + 1 ∧ (p == q) = false ∧ q < 9223372036854775807 ∧ -9223372036854775808 ≤ q)
    (THIRD : ∀ w, Calls Try.prog 23 #[.int .i64 (-a), .int .i64 b, .int .i64 c] w fun e w' => e = .returned (.tuple #[.int .i64 0, .int .i64 20]) ∧ Out w w')
    (am : (a == -9223372036854775808) = false) (an : IntKind.i64.wrap (-a) = -a)
    (h0 : 0 < (c : Int)) :
    Calls Try.prog 5 #[.int .i64 a, .int .i64 b, .int .i64 c] w fun e w' => e = .returned (.bool true) ∧ Grown w w' := by
  have D := Lib.hid DOWN
  have U := Lib.hid UP
  clear DOWN UP
  have WA := Lib.hid WAB
  clear WAB
  have c0 : ¬ c = 0 := by omega
  have WQ := Lib.hid WQC
  clear WQC
  obtain ⟨l0, pq1, pq, q1, q2⟩ := hr
  have PQ := Lib.hid pq1
  have pq2 : (p == q + 1) = true := by rw [pq1]; simp
  have pq2n : (p != q + 1) = false := by rw [pq1]; simp
  have pqn : (p != q) = true := by rw [bne, pq]; rfl
  have pqp : ¬ p = q := by simpa using pq
  have l0p : ¬ lo = 0 := by simpa using l0
  clear pq1
  have T := Lib.hid THIRD
  clear THIRD
  have amn : (a != -9223372036854775808) = true := by rw [bne, am]; rfl
  have amp : ¬ a = -9223372036854775808 := by simpa using am
  go_enter Try.func5, Try.ntmps5
  go_wp2_with fail
  refine (D.out _).mono ?_; rintro e w1 ⟨rfl, o1⟩
  go_wp2_with fail
  refine (U.out _).mono ?_; rintro e w2 ⟨rfl, o2⟩
  go_wp2_with fail
  refine (WA.out _).mono ?_; rintro e w' ⟨rfl, rfl⟩
  go_wp2_with fail
  refine (WQ.out _).mono ?_; rintro e w' ⟨rfl, rfl⟩
  go_wp2_with fail
  refine (T.out _).mono ?_; rintro e w3 ⟨rfl, o3⟩
  go_wp2_with fail
  refine (awake_any _).mono ?_; rintro e w4 ⟨rfl, o4⟩
  go_wp2
  go_ret
  exact ⟨rfl, (((o1.trans o2).trans o3).trans o4).g⟩

set_option maxRecDepth 100000 in
set_option maxHeartbeats 2000000 in
theorem e1f0pmin (a b : Int) (c : Nat) (q p n : Int) (ph pl qh ql lo o oo : Nat) ( w : World)
    (DOWN : ∀ w, Calls Try.prog 23 #[.int .i64 a, .int .i64 b, .int .i64 c] w fun e w' => e = .returned (.tuple #[.int .i64 q, .int .i64 0]) ∧ Out w w')
    (UP : ∀ w, Calls Try.prog 25 #[.int .i64 a, .int .i64 b, .int .i64 c] w fun e w' => e = .returned (.tuple #[.int .i64 0, .int .i64 20]) ∧ Out w w')
    (WAB : ∀ w, Calls Try.prog 28 #[.int .i64 a, .int .i64 b] w fun e w' => e = .returned (.tuple #[.int .u64 ph, .int .u64 pl]) ∧ w = w')
    (WQC : ∀ w, Calls Try.prog 28 #[.int .i64 q, .int .i64 c] w fun e w' => e = .returned (.tuple #[.int .u64 qh, .int .u64 ql]) ∧ w = w')
    (S1 : ∀ w, (callFunc 30 #[.int .u64 pl, .int .u64 ql, .int .u64 0]).run Try.prog w = .ok (.value (.tuple #[.int .u64 lo, .int .u64 o])) w)
    (S2 : ∀ w, (callFunc 30 #[.int .u64 ph, .int .u64 qh, .int .u64 o]).run Try.prog w = .ok (.value (.tuple #[.int .u64 0, .int .u64 oo])) w)
    (cw : IntKind.u64.wrap (c : Int) = (c : Int)) (rc : ¬ c ≤ lo)
    (hq : (q == 9223372036854775807) = true)
    (am : (a == -9223372036854775808) = true)
    (h0 : 0 < (c : Int)) :
    Calls Try.prog 5 #[.int .i64 a, .int .i64 b, .int .i64 c] w fun e w' => e = .returned (.bool true) ∧ Grown w w' := by
  have D := Lib.hid DOWN
  have U := Lib.hid UP
  clear DOWN UP
  have WA := Lib.hid WAB
  clear WAB
  have c0 : ¬ c = 0 := by omega
  have WQ := Lib.hid WQC
  clear WQC
  have hqn : (q != 9223372036854775807) = false := by rw [bne, hq]; rfl
  have amn : (a != -9223372036854775808) = false := by rw [bne, am]; rfl
  go_enter Try.func5, Try.ntmps5
  go_wp2_with fail
  refine (D.out _).mono ?_; rintro e w1 ⟨rfl, o1⟩
  go_wp2_with fail
  refine (U.out _).mono ?_; rintro e w2 ⟨rfl, o2⟩
  go_wp2_with fail
  refine (WA.out _).mono ?_; rintro e w' ⟨rfl, rfl⟩
  go_wp2_with fail
  refine (WQ.out _).mono ?_; rintro e w' ⟨rfl, rfl⟩
  go_wp2_with fail
  refine (awake_any _).mono ?_; rintro e w4 ⟨rfl, o4⟩
  go_wp2
  go_ret
  exact ⟨rfl, ((o1.trans o2).trans o4).g⟩

set_option maxRecDepth 100000 in
set_option maxHeartbeats 2000000 in
theorem e1f0plst (a b : Int) (c : Nat) (q p n : Int) (ph pl qh ql lo o oo : Nat) ( w : World)
    (DOWN : ∀ w, Calls Try.prog 23 #[.int .i64 a, .int .i64 b, .int .i64 c] w fun e w' => e = .returned (.tuple #[.int .i64 q, .int .i64 0]) ∧ Out w w')
    (UP : ∀ w, Calls Try.prog 25 #[.int .i64 a, .int .i64 b, .int .i64 c] w fun e w' => e = .returned (.tuple #[.int .i64 0, .int .i64 20]) ∧ Out w w')
    (WAB : ∀ w, Calls Try.prog 28 #[.int .i64 a, .int .i64 b] w fun e w' => e = .returned (.tuple #[.int .u64 ph, .int .u64 pl]) ∧ w = w')
    (WQC : ∀ w, Calls Try.prog 28 #[.int .i64 q, .int .i64 c] w fun e w' => e = .returned (.tuple #[.int .u64 qh, .int .u64 ql]) ∧ w = w')
    (S1 : ∀ w, (callFunc 30 #[.int .u64 pl, .int .u64 ql, .int .u64 0]).run Try.prog w = .ok (.value (.tuple #[.int .u64 lo, .int .u64 o])) w)
    (S2 : ∀ w, (callFunc 30 #[.int .u64 ph, .int .u64 qh, .int .u64 o]).run Try.prog w = .ok (.value (.tuple #[.int .u64 0, .int .u64 oo])) w)
    (cw : IntKind.u64.wrap (c : Int) = (c : Int)) (rc : ¬ c ≤ lo)
    (hq : (q == 9223372036854775807) = true)
    (THIRD : ∀ w, Calls Try.prog 23 #[.int .i64 (-a), .int .i64 b, .int .i64 c] w fun e w' => e = .returned (.tuple #[.int .i64 n, .int .i64 0]) ∧ Out w w')
    (am : (a == -9223372036854775808) = false) (an : IntKind.i64.wrap (-a) = -a)
    (nm : (n == -9223372036854775808) = true)
    (h0 : 0 < (c : Int)) :
    Calls Try.prog 5 #[.int .i64 a, .int .i64 b, .int .i64 c] w fun e w' => e = .returned (.bool true) ∧ Grown w w' := by
  have D := Lib.hid DOWN
  have U := Lib.hid UP
  clear DOWN UP
  have WA := Lib.hid WAB
  clear WAB
  have c0 : ¬ c = 0 := by omega
  have WQ := Lib.hid WQC
  clear WQC
  have hqn : (q != 9223372036854775807) = false := by rw [bne, hq]; rfl
  have T := Lib.hid THIRD
  clear THIRD
  have amn : (a != -9223372036854775808) = true := by rw [bne, am]; rfl
  have amp : ¬ a = -9223372036854775808 := by simpa using am
  have nmn : (n != -9223372036854775808) = false := by rw [bne, nm]; rfl
  go_enter Try.func5, Try.ntmps5
  go_wp2_with fail
  refine (D.out _).mono ?_; rintro e w1 ⟨rfl, o1⟩
  go_wp2_with fail
  refine (U.out _).mono ?_; rintro e w2 ⟨rfl, o2⟩
  go_wp2_with fail
  refine (WA.out _).mono ?_; rintro e w' ⟨rfl, rfl⟩
  go_wp2_with fail
  refine (WQ.out _).mono ?_; rintro e w' ⟨rfl, rfl⟩
  go_wp2_with fail
  refine (T.out _).mono ?_; rintro e w3 ⟨rfl, o3⟩
  go_wp2_with fail
  refine (awake_any _).mono ?_; rintro e w4 ⟨rfl, o4⟩
  go_wp2
  go_ret
  exact ⟨rfl, (((o1.trans o2).trans o3).trans o4).g⟩

set_option maxRecDepth 100000 in
set_option maxHeartbeats 2000000 in
theorem e0f1pmin (a b : Int) (c : Nat) (q p n : Int) (ph pl qh ql lo o oo : Nat) ( w : World)
    (DOWN : ∀ w, Calls Try.prog 23 #[.int .i64 a, .int .i64 b, .int .i64 c] w fun e w' => e = .returned (.tuple #[.int .i64 0, .int .i64 20]) ∧ Out w w')
    (UP : ∀ w, Calls Try.prog 25 #[.int .i64 a, .int .i64 b, .int .i64 c] w fun e w' => e = .returned (.tuple #[.int .i64 p, .int .i64 0]) ∧ Out w w')
    (WAB : ∀ w, Calls Try.prog 28 #[.int .i64 a, .int .i64 b] w fun e w' => e = .returned (.tuple #[.int .u64 ph, .int .u64 pl]) ∧ w = w')
    (am : (a == -9223372036854775808) = true)
    (h0 : 0 < (c : Int)) :
    Calls Try.prog 5 #[.int .i64 a, .int .i64 b, .int .i64 c] w fun e w' => e = .returned (.bool true) ∧ Grown w w' := by
  have D := Lib.hid DOWN
  have U := Lib.hid UP
  clear DOWN UP
  have WA := Lib.hid WAB
  clear WAB
  have c0 : ¬ c = 0 := by omega
  have amn : (a != -9223372036854775808) = false := by rw [bne, am]; rfl
  go_enter Try.func5, Try.ntmps5
  go_wp2_with fail
  refine (D.out _).mono ?_; rintro e w1 ⟨rfl, o1⟩
  go_wp2_with fail
  refine (U.out _).mono ?_; rintro e w2 ⟨rfl, o2⟩
  go_wp2_with fail
  refine (WA.out _).mono ?_; rintro e w' ⟨rfl, rfl⟩
  go_wp2_with fail
  refine (awake_any _).mono ?_; rintro e w4 ⟨rfl, o4⟩
  go_wp2
  go_ret
  exact ⟨rfl, ((o1.trans o2).trans o4).g⟩

set_option maxRecDepth 100000 in
set_option maxHeartbeats 2000000 in
theorem e0f1pno (a b : Int) (c : Nat) (q p n : Int) (ph pl qh ql lo o oo : Nat) ( w : World)
    (DOWN : ∀ w, Calls Try.prog 23 #[.int .i64 a, .int .i64 b, .int .i64 c] w fun e w' => e = .returned (.tuple #[.int .i64 0, .int .i64 20]) ∧ Out w w')
    (UP : ∀ w, Calls Try.prog 25 #[.int .i64 a, .int .i64 b, .int .i64 c] w fun e w' => e = .returned (.tuple #[.int .i64 p, .int .i64 0]) ∧ Out w w')
    (WAB : ∀ w, Calls Try.prog 28 #[.int .i64 a, .int .i64 b] w fun e w' => e = .returned (.tuple #[.int .u64 ph, .int .u64 pl]) ∧ w = w')
    (THIRD : ∀ w, Calls Try.prog 23 #[.int .i64 (-a), .int .i64 b, .int .i64 c] w fun e w' => e = .returned (.tuple #[.int .i64 0, .int .i64 20]) ∧ Out w w')
    (am : (a == -9223372036854775808) = false) (an : IntKind.i64.wrap (-a) = -a)
    (h0 : 0 < (c : Int)) :
    Calls Try.prog 5 #[.int .i64 a, .int .i64 b, .int .i64 c] w fun e w' => e = .returned (.bool true) ∧ Grown w w' := by
  have D := Lib.hid DOWN
  have U := Lib.hid UP
  clear DOWN UP
  have WA := Lib.hid WAB
  clear WAB
  have c0 : ¬ c = 0 := by omega
  have T := Lib.hid THIRD
  clear THIRD
  have amn : (a != -9223372036854775808) = true := by rw [bne, am]; rfl
  have amp : ¬ a = -9223372036854775808 := by simpa using am
  go_enter Try.func5, Try.ntmps5
  go_wp2_with fail
  refine (D.out _).mono ?_; rintro e w1 ⟨rfl, o1⟩
  go_wp2_with fail
  refine (U.out _).mono ?_; rintro e w2 ⟨rfl, o2⟩
  go_wp2_with fail
  refine (WA.out _).mono ?_; rintro e w' ⟨rfl, rfl⟩
  go_wp2_with fail
  refine (T.out _).mono ?_; rintro e w3 ⟨rfl, o3⟩
  go_wp2_with fail
  refine (awake_any _).mono ?_; rintro e w4 ⟨rfl, o4⟩
  go_wp2
  go_ret
  exact ⟨rfl, (((o1.trans o2).trans o3).trans o4).g⟩

set_option maxRecDepth 100000 in
set_option maxHeartbeats 2000000 in
theorem e0f0pmin (a b : Int) (c : Nat) (q p n : Int) (ph pl qh ql lo o oo : Nat) ( w : World)
    (DOWN : ∀ w, Calls Try.prog 23 #[.int .i64 a, .int .i64 b, .int .i64 c] w fun e w' => e = .returned (.tuple #[.int .i64 0, .int .i64 20]) ∧ Out w w')
    (UP : ∀ w, Calls Try.prog 25 #[.int .i64 a, .int .i64 b, .int .i64 c] w fun e w' => e = .returned (.tuple #[.int .i64 0, .int .i64 20]) ∧ Out w w')
    (WAB : ∀ w, Calls Try.prog 28 #[.int .i64 a, .int .i64 b] w fun e w' => e = .returned (.tuple #[.int .u64 ph, .int .u64 pl]) ∧ w = w')
    (am : (a == -9223372036854775808) = true)
    (h0 : 0 < (c : Int)) :
    Calls Try.prog 5 #[.int .i64 a, .int .i64 b, .int .i64 c] w fun e w' => e = .returned (.bool true) ∧ Grown w w' := by
  have D := Lib.hid DOWN
  have U := Lib.hid UP
  clear DOWN UP
  have WA := Lib.hid WAB
  clear WAB
  have c0 : ¬ c = 0 := by omega
  have amn : (a != -9223372036854775808) = false := by rw [bne, am]; rfl
  go_enter Try.func5, Try.ntmps5
  go_wp2_with fail
  refine (D.out _).mono ?_; rintro e w1 ⟨rfl, o1⟩
  go_wp2_with fail
  refine (U.out _).mono ?_; rintro e w2 ⟨rfl, o2⟩
  go_wp2_with fail
  refine (WA.out _).mono ?_; rintro e w' ⟨rfl, rfl⟩
  go_wp2_with fail
  refine (awake_any _).mono ?_; rintro e w4 ⟨rfl, o4⟩
  go_wp2
  go_ret
  exact ⟨rfl, ((o1.trans o2).trans o4).g⟩

set_option maxRecDepth 100000 in
set_option maxHeartbeats 2000000 in
theorem e0f0pno (a b : Int) (c : Nat) (q p n : Int) (ph pl qh ql lo o oo : Nat) ( w : World)
    (DOWN : ∀ w, Calls Try.prog 23 #[.int .i64 a, .int .i64 b, .int .i64 c] w fun e w' => e = .returned (.tuple #[.int .i64 0, .int .i64 20]) ∧ Out w w')
    (UP : ∀ w, Calls Try.prog 25 #[.int .i64 a, .int .i64 b, .int .i64 c] w fun e w' => e = .returned (.tuple #[.int .i64 0, .int .i64 20]) ∧ Out w w')
    (WAB : ∀ w, Calls Try.prog 28 #[.int .i64 a, .int .i64 b] w fun e w' => e = .returned (.tuple #[.int .u64 ph, .int .u64 pl]) ∧ w = w')
    (THIRD : ∀ w, Calls Try.prog 23 #[.int .i64 (-a), .int .i64 b, .int .i64 c] w fun e w' => e = .returned (.tuple #[.int .i64 0, .int .i64 20]) ∧ Out w w')
    (am : (a == -9223372036854775808) = false) (an : IntKind.i64.wrap (-a) = -a)
    (h0 : 0 < (c : Int)) :
    Calls Try.prog 5 #[.int .i64 a, .int .i64 b, .int .i64 c] w fun e w' => e = .returned (.bool true) ∧ Grown w w' := by
  have D := Lib.hid DOWN
  have U := Lib.hid UP
  clear DOWN UP
  have WA := Lib.hid WAB
  clear WAB
  have c0 : ¬ c = 0 := by omega
  have T := Lib.hid THIRD
  clear THIRD
  have amn : (a != -9223372036854775808) = true := by rw [bne, am]; rfl
  have amp : ¬ a = -9223372036854775808 := by simpa using am
  go_enter Try.func5, Try.ntmps5
  go_wp2_with fail
  refine (D.out _).mono ?_; rintro e w1 ⟨rfl, o1⟩
  go_wp2_with fail
  refine (U.out _).mono ?_; rintro e w2 ⟨rfl, o2⟩
  go_wp2_with fail
  refine (WA.out _).mono ?_; rintro e w' ⟨rfl, rfl⟩
  go_wp2_with fail
  refine (T.out _).mono ?_; rintro e w3 ⟨rfl, o3⟩
  go_wp2_with fail
  refine (awake_any _).mono ?_; rintro e w4 ⟨rfl, o4⟩
  go_wp2
  go_ret
  exact ⟨rfl, (((o1.trans o2).trans o3).trans o4).g⟩

set_option maxRecDepth 100000 in
set_option maxHeartbeats 2000000 in
theorem e0f0plst (a b : Int) (c : Nat) (q p n : Int) (ph pl qh ql lo o oo : Nat) ( w : World)
    (DOWN : ∀ w, Calls Try.prog 23 #[.int .i64 a, .int .i64 b, .int .i64 c] w fun e w' => e = .returned (.tuple #[.int .i64 0, .int .i64 20]) ∧ Out w w')
    (UP : ∀ w, Calls Try.prog 25 #[.int .i64 a, .int .i64 b, .int .i64 c] w fun e w' => e = .returned (.tuple #[.int .i64 0, .int .i64 20]) ∧ Out w w')
    (WAB : ∀ w, Calls Try.prog 28 #[.int .i64 a, .int .i64 b] w fun e w' => e = .returned (.tuple #[.int .u64 ph, .int .u64 pl]) ∧ w = w')
    (THIRD : ∀ w, Calls Try.prog 23 #[.int .i64 (-a), .int .i64 b, .int .i64 c] w fun e w' => e = .returned (.tuple #[.int .i64 n, .int .i64 0]) ∧ Out w w')
    (am : (a == -9223372036854775808) = false) (an : IntKind.i64.wrap (-a) = -a)
    (nm : (n == -9223372036854775808) = true)
    (h0 : 0 < (c : Int)) :
    Calls Try.prog 5 #[.int .i64 a, .int .i64 b, .int .i64 c] w fun e w' => e = .returned (.bool true) ∧ Grown w w' := by
  have D := Lib.hid DOWN
  have U := Lib.hid UP
  clear DOWN UP
  have WA := Lib.hid WAB
  clear WAB
  have c0 : ¬ c = 0 := by omega
  have T := Lib.hid THIRD
  clear THIRD
  have amn : (a != -9223372036854775808) = true := by rw [bne, am]; rfl
  have amp : ¬ a = -9223372036854775808 := by simpa using am
  have nmn : (n != -9223372036854775808) = false := by rw [bne, nm]; rfl
  go_enter Try.func5, Try.ntmps5
  go_wp2_with fail
  refine (D.out _).mono ?_; rintro e w1 ⟨rfl, o1⟩
  go_wp2_with fail
  refine (U.out _).mono ?_; rintro e w2 ⟨rfl, o2⟩
  go_wp2_with fail
  refine (WA.out _).mono ?_; rintro e w' ⟨rfl, rfl⟩
  go_wp2_with fail
  refine (T.out _).mono ?_; rintro e w3 ⟨rfl, o3⟩
  go_wp2_with fail
  refine (awake_any _).mono ?_; rintro e w4 ⟨rfl, o4⟩
  go_wp2
  go_ret
  exact ⟨rfl, (((o1.trans o2).trans o3).trans o4).g⟩

end Go.Proofs.Ytocfbkkgcbconaa
