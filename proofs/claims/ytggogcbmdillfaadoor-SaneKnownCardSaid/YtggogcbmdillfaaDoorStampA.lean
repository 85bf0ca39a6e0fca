/- Contracts of package stamp (layer 2) and of the document's own answers, the calls that lay nothing. -/
import Derived.Test.YtggogcbmdillfaaDoorBase
import Derived.Test.YtggogcbmdillfaaDoorStampM
import Derived.Laws.Bits64b
namespace Go.Proofs.YtggogcbmdillfaaDoor
open Go.ChangeShapes Go.WideShapes Go.ChangeAt Go.RowKit StampM

theorem shortns_any (u : Nat) (hu : u < 4294967296) (w : World) :
    Calls Tryd.prog 20 #[.int .u32 u] w fun e w' => e = .returned (.int .i64 (shortN u : Nat)) ∧ w = w' := by
  have H := Lib.hid (short_int u)
  go_enter Tryd.func20, Tryd.ntmps20
  go_wp2
  go_ret
  exact ⟨ret_int H.out, rfl⟩

theorem ref_shortns_any (u : Nat) (hu : u < 4294967296) (w : World) :
    Calls Tryd.prog 21 #[.int .u32 u] w fun e w' => e = .returned (.int .i64 (shortN u : Nat)) ∧ w = w' := by
  obtain ⟨q, r, Q, R, qb, h | h⟩ := short_parts u hu
  · have H := Lib.hid h.2
    obtain ⟨h, -⟩ := h
    subst h
    go_enter Tryd.func21, Tryd.ntmps21
    go_wp2
    go_ret
    exact ⟨ret_int (by rw [Q, H.out]), rfl⟩
  · have H := Lib.hid h.2
    have h0 : 0 < (r : Int) := Int.natCast_pos.2 h.1
    clear h
    go_enter Tryd.func21, Tryd.ntmps21
    go_wp2
    go_ret
    exact ⟨ret_int (by rw [← H.out]; rfl), rfl⟩

theorem shortns_max (w : World) :
    Calls Tryd.prog 20 #[.int .u32 4294967295] w fun e w' => e = .returned (.int .i64 65535999984742) ∧ w = w' :=
  shortns_any 4294967295 (by omega) w

end Go.Proofs.YtggogcbmdillfaaDoor

