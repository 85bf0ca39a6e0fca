/- Contracts of package stamp (layer 2) and of the document's own answers, the calls that lay nothing. -/
import Derived.Test.YtdaioclpkkpheaaBase
import Derived.Test.YtdaioclpkkpheaaStampM
import Derived.Laws.Bits64b
namespace Go.Proofs.Ytdaioclpkkpheaa
open Go.ChangeShapes Go.WideShapes Go.ChangeAt Go.RowKit StampM

theorem shortns_any (u : Nat) (hu : u < 4294967296) (w : World) :
    Calls Try.prog 10 #[.int .u32 u] w fun e w' => e = .returned (.int .i64 (shortN u : Nat)) ∧ w = w' := by
  have H := Lib.hid (short_int u)
  go_enter Try.func10, Try.ntmps10
  go_wp2
  go_ret
  exact ⟨ret_int H.out, rfl⟩

theorem ref_shortns_any (u : Nat) (hu : u < 4294967296) (w : World) :
    Calls Try.prog 11 #[.int .u32 u] w fun e w' => e = .returned (.int .i64 (shortN u : Nat)) ∧ w = w' := by
  obtain ⟨q, r, Q, R, qb, h | h⟩ := short_parts u hu
  · have H := Lib.hid h.2
    obtain ⟨h, -⟩ := h
    subst h
    go_enter Try.func11, Try.ntmps11
    go_wp2
    go_ret
    exact ⟨ret_int (by rw [Q, H.out]), rfl⟩
  · have H := Lib.hid h.2
    have h0 : 0 < (r : Int) := Int.natCast_pos.2 h.1
    clear h
    go_enter Try.func11, Try.ntmps11
    go_wp2
    go_ret
    exact ⟨ret_int (by rw [← H.out]; rfl), rfl⟩

theorem shortns_max (w : World) :
    Calls Try.prog 10 #[.int .u32 4294967295] w fun e w' => e = .returned (.int .i64 65535999984742) ∧ w = w' :=
  shortns_any 4294967295 (by omega) w

theorem nsshort_any (ns : Int) (h : I64 ns) (w : World) :
    Calls Try.prog 12 #[.int .i64 ns] w fun e w' => e = .returned (.int .u32 (nsShortN ns : Nat)) ∧ w = w' := by
  obtain ⟨h1, h2⟩ := h
  by_cases c : ns < 1
  · rw [show nsShortN ns = 0 by unfold nsShortN; simp [c]]
    go_enter Try.func12, Try.ntmps12
    go_wp2
    go_ret
    exact ⟨rfl, rfl⟩
  · by_cases d : 65535999984742 < ns
    · rw [show nsShortN ns = 4294967295 by unfold nsShortN; simp [c, d]]
      have c' : 1 ≤ ns := by omega
      clear c
      go_enter Try.func12, Try.ntmps12
      go_wp2_with (go_at_call 10; refine (shortns_max _).mono ?_; rintro e w' ⟨rfl, rfl⟩)
      go_ret
      exact ⟨rfl, rfl⟩
    · have H : Hid ((ns - 1) * 65536 / 1000000000 + 1 = (nsShortN ns : Nat)) := by unfold Hid; exact nsshort_int ns (by omega) (by omega)
      have H1 := nsshort_lo ns (by omega)
      have H2 := nsshort_lt ns (by omega)
      have d' : ns ≤ 65535999984742 := by omega
      have c' : 1 ≤ ns := by omega
      clear c d h1 h2
      go_enter Try.func12, Try.ntmps12
      go_wp2_with (go_at_call 10; refine (shortns_max _).mono ?_; rintro e w' ⟨rfl, rfl⟩)
      go_ret
      exact ⟨ret_int H.out, rfl⟩

theorem split_any (ns s : Int) (r : Nat) (hs : secs ns = s) (hr : over ns = r) (h : I64 ns) (w : World) :
    Calls Try.prog 25 #[.int .i64 ns] w fun e w' => e = .returned (.tuple #[.int .i64 s, .int .u64 r]) ∧ w = w' := by
  obtain ⟨h1, h2⟩ := h
  by_cases c : 0 ≤ ns
  · have H : Hid (ns / 1000000000 = s ∧ ns % 1000000000 = (r : Int)) := by unfold Hid; exact ⟨hs, by rw [← hr]; exact (over_int ns).symm⟩
    clear hs hr
    go_enter Try.func25, Try.ntmps25
    go_wp2
    go_ret2
    exact ⟨ret_pair H.out.1 H.out.2, rfl⟩
  · obtain ⟨q, t, Q, R, b2, b3, b1, d | d⟩ := split_neg ns s r (by omega) h1 hs hr
    · have H := Lib.hid d.2
      obtain ⟨d, -⟩ := d
      have c' : ns < 0 := by omega
      clear hs hr c
      go_enter Try.func25, Try.ntmps25
      go_wp2
      go_ret2
      exact ⟨ret_pair H.out.1 H.out.2, rfl⟩
    · have H := Lib.hid d.2
      obtain ⟨d, -⟩ := d
      have c' : ns < 0 := by omega
      subst d
      clear hs hr c
      go_enter Try.func25, Try.ntmps25
      go_wp2
      go_ret2
      exact ⟨ret_pair H.out.1 H.out.2, rfl⟩
end Go.Proofs.Ytdaioclpkkpheaa
