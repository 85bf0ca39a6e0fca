/- MacTables: the first 20 keys. -/
import Derived.Test.YtkojgegfmhoomaaMacTablesW
namespace Go.Proofs.Ytkojgegfmhoomaa
open Go.ChangeShapes Go.WideShapes Go.ChangeAt Go.RowKit OctM

theorem tables6_any (w : World) (id : Nat) (p : Option Addr) (n c : Nat) (ks : List Ky) (hid : id < 4294967296) (hp : HoldsK w p n c ks) (hk : ∀ k ∈ ks, KeyOk k) :
    Calls Try.prog 4 #[.slice p n c, .int .u32 (id : Nat)] w fun e w' => e = .returned (.bool true) ∧ Below w.heap.size w w' := by
  have cp := hp.cap
  exact tables6_core w id p n c (min n 20) (ks.take (min n 20)) hid (by omega) (by omega) (by omega) (hp.front (by omega)) (fun k h => hk k (List.mem_of_mem_take h))
end Go.Proofs.Ytkojgegfmhoomaa
