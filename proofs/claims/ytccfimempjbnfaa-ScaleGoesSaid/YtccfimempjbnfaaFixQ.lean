/- Contracts of package fix (layer 1): products in two words, quotients. -/
import Derived.Test.YtccfimempjbnfaaDivAny
import Derived.Test.YtccfimempjbnfaaFixA
import Derived.WalkSmall
namespace Go.Proofs.Ytccfimempjbnfaa
open Go.ChangeShapes Go.WideShapes Go.ChangeAt Go.RowKit

theorem mul64_of (x y h l : Nat) (hx : x < 18446744073709551616) (hy : y < 18446744073709551616) (eh : x * y / 18446744073709551616 = h) (el : x * y % 18446744073709551616 = l) (w : World) :
    Calls Try.prog 38 #[.int .u64 x, .int .u64 y] w fun e w' => e = .returned (.tuple #[.int .u64 h, .int .u64 l]) ∧ w = w' := by
  refine (Try.bits_Mul64 x y hx hy w).mono ?_
  rintro e w' ⟨rfl, rfl⟩
  rw [eh, el]
  exact ⟨rfl, rfl⟩

/-- What the closure makes of a size. -/
def backN (neg : Bool) (n : Nat) : Int := if neg then (if n ≤ 9223372036854775808 then -(n : Int) else 0) else (if n < 9223372036854775808 then (n : Int) else 0)
def backE (neg : Bool) (n : Nat) : Int := if neg then (if n ≤ 9223372036854775808 then 0 else 20) else (if n < 9223372036854775808 then 0 else 20)

theorem div64_of (hi lo y q r : Nat) (h1 : hi < y) (h2 : lo < 18446744073709551616) (h3 : y < 18446744073709551616) (hq : (hi * 18446744073709551616 + lo) / y = q) (hr : (hi * 18446744073709551616 + lo) % y = r) (w : World) :
    Calls Try.prog 32 #[.int .u64 hi, .int .u64 lo, .int .u64 y] w fun e w' => e = .returned (.tuple #[.int .u64 q, .int .u64 r]) ∧ ∃ n, w' = w.drewN n := by
  refine (div64_any hi lo y h1 h2 h3 w).mono ?_
  rintro e w' ⟨rfl, n, rfl⟩
  rw [hq, hr]
  exact ⟨rfl, n, rfl⟩

end Go.Proofs.Ytccfimempjbnfaa

