/- The walk of StampCalls: each call answers what the document answers. -/
import Derived.Test.YtdaioclpkkpheaaStampW
import Derived.Test.YtdaioclpkkpheaaStampS
import Derived.Test.YtdaioclpkkpheaaStampT
import Derived.Test.YtdaioclpkkpheaaStampU
import Derived.Deep.RegionHeld3
namespace Go.Proofs.Ytdaioclpkkpheaa
open Go.ChangeShapes Go.WideShapes Go.ChangeAt Go.RowKit StampM

theorem dates_kept (w : World) (a b c : Value) : ∀ w', Below (w.alloc (.cells #[a, b, c] 25)).heap.size (w.alloc (.cells #[a, b, c] 25)) w' →
    w'.cell? ⟨w.heap.size, 0, none⟩ = some a ∧ w'.cell? ⟨w.heap.size, 1, none⟩ = some b ∧ w'.cell? ⟨w.heap.size, 2, none⟩ = some c := by
  intro w' h
  have lt : w.heap.size < (w.alloc (.cells #[a, b, c] 25)).heap.size := by simp
  refine ⟨(h.cell lt).trans ?_, (h.cell lt).trans ?_, (h.cell lt).trans ?_⟩ <;> simp [go_sem]

theorem ret_dateV {ns e : Int} {o f : Nat} (h : eraN ns = e ∧ offN ns = o ∧ fracN ns = f) : dateV ns = .agg #[.int .i32 e, .int .u32 o, .int .u64 f] := by
  obtain ⟨rfl, rfl, rfl⟩ := h; rfl

set_option maxRecDepth 100000 in
set_option maxHeartbeats 4000000 in
theorem calls_core (u : Nat) (ns pivot era x y z e : Int) (off frac s p q t o f cc : Nat) (hu : u < 18446744073709551616) (hn : I64 ns) (hp : I64 pivot) (he : -2147483648 ≤ era ∧ era ≤ 2147483647) (h1 : off < 4294967296) (h2 : frac < 18446744073709551616)
    (su : IntKind.u32.wrap (u : Int) = (s : Int)) (sb : s < 4294967296) (hx : dateN era off frac = x) (hy : dateE era off frac = y) (hP : shortN s = p) (hQ : nsShortN ns = q) (hz : stampNsN u pivot = z) (hT : stampN ns = t)
    (hd : eraN ns = e ∧ offN ns = o ∧ fracN ns = f) (hc : cutN off frac = cc) (w : World) :
    Calls Try.prog 3 #[.int .u64 u, .int .i64 ns, .int .i64 pivot, .agg #[.int .i32 era, .int .u32 off, .int .u64 frac]] w fun e w' => e = .returned (.bool true) ∧ Below w.heap.size w w' := by
  have D1 := Lib.hid (fun w => datens_any era off frac he h1 h2 w)
  have D2 := Lib.hid (fun w => ref_datens_any era off frac he h1 h2 w)
  have S1 := Lib.hid (fun w => shortns_any s sb w)
  have S2 := Lib.hid (fun w => ref_shortns_any s sb w)
  have N1 := Lib.hid (fun w => nsshort_any ns hn w)
  have N2 := Lib.hid (fun w => ref_nsshort_any ns hn w)
  have U1 := Lib.hid (fun w => stampns_any u hu pivot hp w)
  have U2 := Lib.hid (fun w => ref_stampns_any u hu pivot w)
  have T1 := Lib.hid (fun w => nsstamp_any ns hn w)
  have T2 := Lib.hid (fun w => ref_nsstamp_any ns hn w)
  have E1 := Lib.hid (fun w => nsdate_any ns hn w)
  have E2 := Lib.hid (fun w => ref_nsdate_any ns hn w)
  have C1 := Lib.hid (fun w => stamp_any era off frac h1 h2 w)
  rw [hx, hy] at D1 D2
  rw [hP] at S1 S2
  rw [hQ] at N1 N2
  rw [hz] at U1 U2
  rw [hT] at T1 T2
  rw [ret_dateV hd] at E1 E2
  rw [hc] at C1
  obtain ⟨m, hm⟩ : ∃ m : Nat, m = off * 4294967296 := ⟨_, rfl⟩
  obtain ⟨g, hg⟩ : ∃ g : Nat, g = frac / 4294967296 := ⟨_, rfl⟩
  have X0 : IntKind.u64.wrap (off : Int) = (off : Int) := by rw [IntKind.wrap_u64]; omega
  have X1 : IntKind.u64.wrap ((off : Int) * 4294967296) = (m : Int) := by rw [IntKind.wrap_u64]; omega
  have X2 : (frac : Int) / 4294967296 = (g : Int) := by omega
  have X3 : IntKind.u64.wrap ((m : Int) + (g : Int)) = (cc : Int) := by rw [IntKind.wrap_u64, ← hc, hm, hg]; unfold cutN; omega
  have X4 : IntKind.u64.wrap (g : Int) = (g : Int) := by rw [IntKind.wrap_u64]; omega
  clear hm hg
  have K := Lib.hid (dates_kept w (.int .i32 era) (.int .u32 off) (.int .u64 frac))
  have WA : Hid (Below w.heap.size w (w.alloc (.cells #[.int .i32 era, .int .u32 off, .int .u64 frac] 25))) := (Below.refl _ _).alloc (Nat.le_refl _) _
  have WS : Hid (w.heap.size ≤ (w.alloc (.cells #[.int .i32 era, .int .u32 off, .int .u64 frac] 25)).heap.size) := by unfold Hid; simp
  have c0 := K.out _ (Below.refl _ _)
  obtain ⟨c00, c01, c02⟩ := c0
  obtain ⟨W0, hW0⟩ : ∃ W0, w.alloc (.cells #[.int .i32 era, .int .u32 off, .int .u64 frac] 25) = W0 := ⟨_, rfl⟩
  replace hW0 := Lib.hid hW0
  clear hx hy hP hQ hz hT hd hc hn hp he sb hu h1 h2
  go_enter Try.func3, Try.ntmps3
  go_wp2_with fail
  refine (D1.out _).mono ?_; rintro x w1 ⟨rfl, o1⟩
  rw [hW0.out] at K o1 WA WS
  clear c00 c01 c02
  have B1 : Below W0.heap.size W0 w1 := o1.b
  obtain ⟨c00, c01, c02⟩ := K.out _ B1
  go_wp2_with fail
  refine (D2.out _).mono ?_; rintro x w2 ⟨rfl, o2⟩
  clear c00 c01 c02
  have B2 : Below W0.heap.size W0 w2 := B1.trans (o2.b.mono B1.size)
  go_wp2_with fail
  go_upto_region 4 with fail
  have HB0 : Below W0.heap.size W0 w2.drew := B2.drew
  go_region_held3 (fun w' => w'.cell? ⟨w.heap.size, 0, none⟩ = some (.int .i32 era) ∧ w'.cell? ⟨w.heap.size, 1, none⟩ = some (.int .u32 off) ∧ w'.cell? ⟨w.heap.size, 2, none⟩ = some (.int .u64 frac))
    (first | exact K.out _ HB5 | exact K.out _ HB4 | exact K.out _ HB3 | exact K.out _ HB2 | exact K.out _ HB1 | exact K.out _ HB0)
    (first
      | (go_at_call 10; refine (S1.out _).mono ?_; rintro x wx ⟨rfl, rfl⟩)
      | (go_at_call 11; refine (S2.out _).mono ?_; rintro x wx ⟨rfl, rfl⟩)
      | (go_at_call 12; refine (N1.out _).mono ?_; rintro x wx ⟨rfl, rfl⟩)
      | (go_at_call 13; refine (N2.out _).mono ?_; rintro x wx ⟨rfl, rfl⟩)
      | (go_at_call 14; refine (U1.out _).mono ?_; rintro x v1 ⟨rfl, o1⟩; have HB1 : Below W0.heap.size W0 v1 := HB0.trans (o1.b.mono HB0.size); clear o1)
      | (go_at_call 15; refine (U2.out _).mono ?_; rintro x wx ⟨rfl, rfl⟩)
      | (go_at_call 16; refine (T1.out _).mono ?_; rintro x wx ⟨rfl, rfl⟩)
      | (go_at_call 17; refine (T2.out _).mono ?_; rintro x wx ⟨rfl, rfl⟩)
      | (go_at_call 18; refine (E1.out _).mono ?_; rintro x v2 ⟨rfl, o2⟩; have HB2 : Below W0.heap.size W0 v2 := HB1.trans (o2.b.mono HB1.size); clear o2)
      | (go_at_call 19; refine (E2.out _).mono ?_; rintro x v3 ⟨rfl, o3⟩; have HB3 : Below W0.heap.size W0 v3 := HB2.trans (o3.b.mono HB2.size); clear o3)
      | (go_at_call 20; refine (C1.out _).mono ?_; rintro x v4 ⟨rfl, o4⟩; have HB4 : Below W0.heap.size W0 v4 := HB3.trans (o4.b.mono HB3.size); clear o4)
      | (go_at_call 21; refine (wakes_any _).mono ?_; rintro x v5 ⟨rfl, o5⟩; have HB5 : Below W0.heap.size W0 v5 := HB4.trans (o5.b.mono HB4.size); clear o5))
  go_wp2
  go_ret
  exact ⟨rfl, WA.out.trans (HB5.mono WS.out)⟩

theorem calls_walk (u : Nat) (ns pivot era : Int) (off frac : Nat) (hu : u < 18446744073709551616) (hn : I64 ns) (hp : I64 pivot) (he : -2147483648 ≤ era ∧ era ≤ 2147483647) (h1 : off < 4294967296) (h2 : frac < 18446744073709551616) (w : World) :
    Calls Try.prog 3 #[.int .u64 u, .int .i64 ns, .int .i64 pivot, .agg #[.int .i32 era, .int .u32 off, .int .u64 frac]] w fun e w' => e = .returned (.bool true) ∧ Below w.heap.size w w' :=
  calls_core u ns pivot era _ _ _ _ off frac (u % 4294967296) _ _ _ _ _ _ hu hn hp he h1 h2 (by rw [IntKind.wrap_u32]; omega) (by omega) rfl rfl rfl rfl rfl rfl ⟨rfl, rfl, rfl⟩ rfl w
end Go.Proofs.Ytdaioclpkkpheaa
