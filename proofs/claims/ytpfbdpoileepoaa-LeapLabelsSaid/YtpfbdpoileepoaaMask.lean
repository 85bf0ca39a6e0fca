/- What a mask of low bits leaves of any int64 (XMonoH's mask_in, for seats without stage 11). -/
import Derived.Test.YtpfbdpoileepoaaBase
namespace Go.Proofs.Ytpfbdpoileepoaa

theorem mask_low (a : Int) (m : Nat) (hm : m < 9223372036854775808) : 0 ≤ bits .and .i64 a (m : Int) ∧ bits .and .i64 a (m : Int) ≤ (m : Int) := by
  have h2 : (BitVec.ofInt 64 (m : Int)).toNat = m := by
    rw [BitVec.ofInt_natCast, BitVec.toNat_ofNat]; exact Nat.mod_eq_of_lt (by omega)
  have e : bits .and .i64 a (m : Int) = IntKind.i64.wrap (((BitVec.ofInt 64 a).toNat &&& m : Nat) : Int) := by
    show IntKind.i64.wrap ((BitVec.ofInt 64 a &&& BitVec.ofInt 64 (m : Int)).toNat : Int) = _
    rw [BitVec.toNat_and, h2]
  have l : (BitVec.ofInt 64 a).toNat &&& m ≤ m := Nat.and_le_right
  rw [e, IntKind.wrap_i64]
  generalize (BitVec.ofInt 64 a).toNat &&& m = g at *
  omega
end Go.Proofs.Ytpfbdpoileepoaa

