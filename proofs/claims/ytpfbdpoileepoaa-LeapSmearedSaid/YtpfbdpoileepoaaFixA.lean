/- Contracts of package fix (layer 1), the small calls: sums, differences, their ends, Abs, Clamp, size. Kept as a template: numbers of functions are filled in by name. -/
import Derived.Test.YtpfbdpoileepoaaBase
namespace Go.Proofs.Ytpfbdpoileepoaa
open Go.ChangeShapes Go.WideShapes Go.ChangeAt Go.RowKit

/-- A sum that leaves the range, as it wraps. -/
theorem wrap_add_hi (a b : Int) (ha : I64 a) (hb : I64 b) (h : 9223372036854775807 < a + b) : wrap64 (a + b) = a + b - 18446744073709551616 := by
  obtain ⟨ha1, ha2⟩ := ha
  obtain ⟨hb1, hb2⟩ := hb
  unfold wrap64
  omega
theorem wrap_add_lo (a b : Int) (ha : I64 a) (hb : I64 b) (h : a + b < -9223372036854775808) : wrap64 (a + b) = a + b + 18446744073709551616 := by
  obtain ⟨ha1, ha2⟩ := ha
  obtain ⟨hb1, hb2⟩ := hb
  unfold wrap64
  omega

theorem wrap_sub_hi (a b : Int) (ha : I64 a) (hb : I64 b) (h : 9223372036854775807 < a - b) : wrap64 (a - b) = a - b - 18446744073709551616 := by
  obtain ⟨ha1, ha2⟩ := ha
  obtain ⟨hb1, hb2⟩ := hb
  unfold wrap64
  omega
theorem wrap_sub_lo (a b : Int) (ha : I64 a) (hb : I64 b) (h : a - b < -9223372036854775808) : wrap64 (a - b) = a - b + 18446744073709551616 := by
  obtain ⟨ha1, ha2⟩ := ha
  obtain ⟨hb1, hb2⟩ := hb
  unfold wrap64
  omega

def absN (a : Int) : Int := if a = -9223372036854775808 then 9223372036854775807 else if a < 0 then -a else a

end Go.Proofs.Ytpfbdpoileepoaa

