/- Layer 6 (mac), the program's own: a number turned round by math/bits. -/
import Derived.Test.YtkojgegfmhoomaaMacM
import Derived.Test.YtkojgegfmhoomaaSlice
import Derived.Laws.BitsAllLaws
import Derived.Laws.ShiftsVarLaws
namespace Go.Proofs.Ytkojgegfmhoomaa
open Go.ChangeShapes Go.WideShapes Go.ChangeAt Go.RowKit OctM

theorem protate_any (w : World) (x n : Nat) (hx : W64 x) (hn : n < 64) :
    Calls Try.prog 31 #[.int .u64 (x : Nat), .int .i64 (n : Int)] w fun e w' => e = .returned (.int .u64 (rotN x n : Nat)) ∧ w' = w := by
  obtain ⟨m, hm⟩ : ∃ m, m = 64 - n := ⟨_, rfl⟩
  obtain ⟨p, hp⟩ : ∃ p, p = x * 2 ^ n % 18446744073709551616 := ⟨_, rfl⟩
  obtain ⟨q, hq⟩ : ∃ q, q = x / 2 ^ m := ⟨_, rfl⟩
  obtain ⟨r, hr⟩ : ∃ r, r = rotN x n := ⟨_, rfl⟩
  have nm : n + m = 64 := by omega
  have pw : 2 ^ n * 2 ^ m = 18446744073709551616 := by rw [← Nat.pow_add, nm]
  have hpr : r = p + q := by rw [hr, hp, hq, hm]; exact rotN_eq hx n (by omega)
  have pb : p < 18446744073709551616 := by rw [hp]; exact Nat.mod_lt _ (by decide)
  have qn : q < 2 ^ n := by
    rw [hq]
    refine (Nat.div_lt_iff_lt_mul (Nat.two_pow_pos m)).2 ?_
    rw [pw]; exact hx
  have qb : q < 18446744073709551616 := Nat.lt_of_lt_of_le qn (by rw [← pw]; exact Nat.le_mul_of_pos_right _ (Nat.two_pow_pos m))
  have pd : p % 2 ^ n = 0 := by
    rw [hp, Nat.mod_mod_of_dvd _ ⟨2 ^ m, pw.symm⟩]
    exact Nat.mul_mod_left _ _
  have OR : bits .or .u64 (p : Int) (q : Int) = (r : Int) := by
    rw [u64_or_nat p q pb qb, nat_join n p q pd qn, hpr]
  have AN : bits .and .u64 (n : Int) 63 = (n : Int) := by
    have h := u64_and_nat n 63 (by omega) (by decide)
    rw [show n &&& 63 = n % 64 from Nat.and_two_pow_sub_one_eq_mod n 6, Nat.mod_eq_of_lt hn] at h
    exact h
  have W1 : IntKind.u64.wrap (n : Int) = (n : Int) := by rw [IntKind.wrap_u64]; omega
  have W2 : IntKind.u64.wrap (64 - (n : Int)) = (m : Int) := by rw [IntKind.wrap_u64]; omega
  have SL : Hid (IntKind.u64.wrap ((x : Int) * 2 ^ n) = (p : Int)) := by
    unfold Hid
    rw [IntKind.wrap_u64, hp]
    simp
  have SR : Op.shift .shr .u64 (x : Int) .u64 (m : Int) = pure (.int .u64 (q : Int)) := by
    rw [shift_shr_any _ _ _ _ (by omega)]
    congr 2
    rw [show min ((m : Int)).toNat IntKind.u64.bits = m by simp [IntKind.bits]; omega, hq]
    simp
  have nb : (n : Int) < 64 := by omega
  have R := Lib.hid hr
  clear hm hp hq hr nm pw hpr pb qn qb pd hx hn
  go_enter Try.func31, Try.ntmps31
  go_wp2
  go_ret
  exact ⟨ret_int (by rw [SL.out, OR, R.out]), rfl⟩
end Go.Proofs.Ytkojgegfmhoomaa
