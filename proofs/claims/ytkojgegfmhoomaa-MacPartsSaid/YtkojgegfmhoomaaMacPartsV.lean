/- MacParts: the first 200 bytes, places counted round. -/
import Derived.Test.YtkojgegfmhoomaaMacPartsW
namespace Go.Proofs.Ytkojgegfmhoomaa
open Go.ChangeShapes Go.WideShapes Go.ChangeAt Go.RowKit OctM

theorem parts6_any (w : World) (k : Ky) (at_ behind : Nat) (p : Option Addr) (n c : Nat) (ds : List Nat) (hk : KeyOk k) (ha : at_ < 65536) (hb : behind < 65536) (hp : Holds w p n c (valsN .u8 ds)) (hy : Byt ds) :
    Calls Try.prog 5 #[keyV k, .slice p n c, .int .u16 (at_ : Nat), .int .u16 (behind : Nat)] w fun e w' => e = .returned (.bool true) ∧ Below w.heap.size w w' := by
  have cp := hp.cap
  have xm : at_ % (min n 200 + 1) < min n 200 + 1 := Nat.mod_lt _ (by omega)
  have ym : behind % (min n 200 + 1 - at_ % (min n 200 + 1)) < min n 200 + 1 - at_ % (min n 200 + 1) := Nat.mod_lt _ (by omega)
  exact parts6_core w k at_ behind p n c (min n 200) _ _ (ds.take (min n 200)) hk (by omega) (by omega) (by omega) (bytes_front hp (by omega)) (byt_take hy _) ha hb rfl rfl (by omega) (by omega) (by omega)
end Go.Proofs.Ytkojgegfmhoomaa
