/- The walks of the laws of layer 1 (fix) that need no answer of the document's own. -/
import Derived.Test.YtocfbkkgcbconaaFixS
namespace Go.Proofs.Ytocfbkkgcbconaa
open Go.ChangeShapes Go.WideShapes Go.ChangeAt Go.RowKit

theorem clamps_walk (a lo hi : Int) (w : World) :
    Calls Try.prog 8 #[.int .i64 a, .int .i64 lo, .int .i64 hi] w fun e w' => e = .returned (.bool true) ∧ Grown w w' := by
  by_cases c1 : a < lo
  · by_cases c3 : hi < lo
    · go_enter Try.func8, Try.ntmps8
      go_wp2_with fail
      refine (clamp_lo a lo hi c1 _).mono ?_; rintro e w' ⟨rfl, rfl⟩
      go_wp2_with (go_at_call 16; refine (awake_any _).mono ?_; rintro e w' ⟨rfl, o1⟩)
      go_ret
      exact ⟨rfl, o1.g⟩
    · have c3' : lo ≤ hi := by omega
      have c2 : ¬ hi < a := by omega
      clear c3
      go_enter Try.func8, Try.ntmps8
      go_wp2_with fail
      refine (clamp_lo a lo hi c1 _).mono ?_; rintro e w' ⟨rfl, rfl⟩
      go_wp2_with fail
      refine (awake_any _).mono ?_; rintro e w' ⟨rfl, o1⟩
      go_wp2_with fail
      refine (clamp_mid lo lo hi (by omega) (by omega) _).mono ?_; rintro e w' ⟨rfl, rfl⟩
      go_wp2
      go_ret
      exact ⟨rfl, o1.g⟩
  · have c1' : lo ≤ a := by omega
    clear c1
    by_cases c2 : hi < a
    · by_cases c3 : hi < lo
      · go_enter Try.func8, Try.ntmps8
        go_wp2_with fail
        refine (clamp_hi a lo hi c1' c2 _).mono ?_; rintro e w' ⟨rfl, rfl⟩
        go_wp2_with fail
        refine (awake_any _).mono ?_; rintro e w' ⟨rfl, o1⟩
        go_wp2
        go_ret
        exact ⟨rfl, o1.g⟩
      · have c3' : lo ≤ hi := by omega
        clear c3
        go_enter Try.func8, Try.ntmps8
        go_wp2_with fail
        refine (clamp_hi a lo hi c1' c2 _).mono ?_; rintro e w' ⟨rfl, rfl⟩
        go_wp2_with fail
        refine (awake_any _).mono ?_; rintro e w' ⟨rfl, o1⟩
        go_wp2_with fail
        refine (clamp_mid hi lo hi (by omega) (by omega) _).mono ?_; rintro e w' ⟨rfl, rfl⟩
        go_wp2
        go_ret
        exact ⟨rfl, o1.g⟩
    · have c2' : a ≤ hi := by omega
      have c3' : lo ≤ hi := by omega
      clear c2
      go_enter Try.func8, Try.ntmps8
      go_wp2_with fail
      refine (clamp_mid a lo hi c1' c2' _).mono ?_; rintro e w' ⟨rfl, rfl⟩
      go_wp2_with fail
      refine (awake_any _).mono ?_; rintro e w' ⟨rfl, o1⟩
      go_wp2_with fail
      refine (clamp_mid a lo hi c1' c2' _).mono ?_; rintro e w' ⟨rfl, rfl⟩
      go_wp2
      go_ret
      exact ⟨rfl, o1.g⟩
end Go.Proofs.Ytocfbkkgcbconaa
