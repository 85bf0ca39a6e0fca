/- The walk of OctetHole, all ways. -/
import Derived.Test.YtpamnephndoefaaOctHoleX
import Derived.Test.YtpamnephndoefaaOctHoleZ
namespace Go.Proofs.Ytpamnephndoefaa
open Go.ChangeShapes Go.WideShapes Go.ChangeAt Go.RowKit OctM

theorem hole_in (w : World) (p : Option Addr) (nn c : Nat) (ds : List Nat) (sz at' : Nat) (hd : Holds w p nn c (valsN .u8 ds)) (hy : Byt ds) :
    ∃ m k pp es, HoleIn w p nn c m k pp sz at' es := by
  have l := hd.len
  rw [valsN_len] at l
  have cp := hd.cap
  have H := holdsN_take hd (k := min nn 200) (by omega)
  obtain ⟨m, hm⟩ : ∃ m, m = min nn 200 := ⟨_, rfl⟩
  rw [← hm] at H
  refine ⟨m, 1 + sz % 8, at' % (m + 2), ds.take m, ⟨by omega, by omega, by rw [Int.natCast_emod, Int.natCast_add]; rfl, by omega, by omega, by omega, by omega, ?_, fun w' h => H.below h, byt_take hy _, by rw [List.length_take]; omega⟩⟩
  have := Nat.mod_lt at' (show 0 < m + 2 by omega)
  omega

theorem hole_walk (HC : OctCode) (w : World) (p : Option Addr) (nn c : Nat) (ds : List Nat) (sz v at' : Nat) (hd : Holds w p nn c (valsN .u8 ds)) (hy : Byt ds) (hs : sz < 256) (hv : v < 18446744073709551616) (ha : at' < 256) :
    Calls Try.prog 7 #[.slice p nn c, .agg #[.int .u8 sz, .int .u64 v], .int .u8 at'] w fun e w' => e = .returned (.bool true) ∧ Below w.heap.size w w' := by
  obtain ⟨m, k, pp, es, I⟩ := hole_in w p nn c ds sz at' hd hy
  have k8 := I.k8
  by_cases hk : k < 8
  · by_cases hf : v < 256 ^ k
    · by_cases hl : pp + k ≤ es.length
      · exact hole_ok_walk_a HC w p nn c m k pp sz at' v es I hs ha hv hk hf hl
      · exact hole_short_walk_a HC w p nn c m k pp sz at' v es I hs ha hv hk hf (by omega)
    · exact hole_range_walk HC w p nn c m k pp sz at' v es I hs ha hv hk hf
  · have hf : v < 256 ^ k := by
      obtain rfl : k = 8 := by omega
      exact hv
    by_cases hl : pp + k ≤ es.length
    · exact hole_ok_walk_b HC w p nn c m k pp sz at' v es I hs ha hv hk hf hl
    · exact hole_short_walk_b HC w p nn c m k pp sz at' v es I hs ha hv hk hf (by omega)
end Go.Proofs.Ytpamnephndoefaa
