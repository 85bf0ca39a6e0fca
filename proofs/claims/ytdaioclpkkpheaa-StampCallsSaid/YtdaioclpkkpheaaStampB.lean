/- Contracts of package stamp (layer 2): stamps and dates. -/
import Derived.Test.YtdaioclpkkpheaaStampA
import Derived.Test.YtdaioclpkkpheaaDivAny
namespace Go.Proofs.Ytdaioclpkkpheaa
open Go.ChangeShapes Go.WideShapes Go.ChangeAt Go.RowKit StampM

theorem mul64_of (x y h l : Nat) (hx : x < 18446744073709551616) (hy : y < 18446744073709551616) (eh : x * y / 18446744073709551616 = h) (el : x * y % 18446744073709551616 = l) (w : World) :
    Calls Try.prog 22 #[.int .u64 x, .int .u64 y] w fun e w' => e = .returned (.tuple #[.int .u64 h, .int .u64 l]) ∧ w = w' := by
  refine (Try.bits_Mul64 x y hx hy w).mono ?_
  rintro e w' ⟨rfl, rfl⟩
  rw [eh, el]
  exact ⟨rfl, rfl⟩

theorem nsstamp_any (ns : Int) (h : I64 ns) (w : World) :
    Calls Try.prog 16 #[.int .i64 ns] w fun e w' => e = .returned (.int .u64 (stampN ns : Nat)) ∧ w = w' := by
  obtain ⟨s, hs⟩ : ∃ s, secs ns = s := ⟨_, rfl⟩
  obtain ⟨r, hr⟩ : ∃ r, over ns = r := ⟨_, rfl⟩
  have HS := Lib.hid hs
  have HR := Lib.hid hr
  have HH := Lib.hid h
  obtain ⟨A, p, hA, hp, r1, E1, E2, E3, -, -, -⟩ := stamp_eqs ns s r hs hr
  have F2 : IntKind.u64.wrap (IntKind.u64.wrap s * 4294967296) = (A : Int) := by simp only [IntKind.wrap_u64]; exact E2
  have F3 : bits .or .u64 (A : Int) (p : Int) = ((A ||| p : Nat) : Int) := bits_or_u64_nat _ _ hA (by omega)
  rw [E3] at F3
  clear hs hr h E2 E3 hA
  go_enter Try.func16, Try.ntmps16
  go_wp2_with fail
  refine (split_any ns s r HS.out HR.out HH.out _).mono ?_; rintro e w' ⟨rfl, rfl⟩
  go_wp2
  go_ret
  exact ⟨rfl, rfl⟩

theorem stamp_any (era : Int) (off frac : Nat) (h1 : off < 4294967296) (h2 : frac < 18446744073709551616) (w : World) :
    Calls Try.prog 20 #[.agg #[.int .i32 era, .int .u32 off, .int .u64 frac]] w fun e w' => e = .returned (.int .u64 (cutN off frac : Nat)) ∧ Out w w' := by
  have F : bits .or .u64 ((off : Int) * 4294967296) ((frac : Int) / 4294967296) = (cutN off frac : Nat) := by
    have := bits_or_u64_nat (off * 4294967296) (frac / 4294967296) (by omega) (by omega)
    rw [cut_or off frac h2] at this
    rw [← this]
    congr 1
  go_enter Try.func20, Try.ntmps20
  go_wp2
  go_ret
  exact ⟨rfl, (Out.refl w).alloc _ _⟩

theorem dates_eqs (era : Int) (off frac : Nat) (he : -2147483648 ≤ era ∧ era ≤ 2147483647) (h1 : off < 4294967296) (h2 : frac < 18446744073709551616) :
    ∃ (s : Int) (n l : Nat), era * 4294967296 + off = s ∧ frac * 1000000000 / 18446744073709551616 = n ∧ frac * 1000000000 % 18446744073709551616 = l ∧ wholeN frac = n ∧ n < 1000000000 ∧ dateI era off frac = s * 1000000000 + n ∧ -9223372036854775808 ≤ s ∧ s < 9223372036854775808 := by
  refine ⟨_, _, _, rfl, rfl, rfl, rfl, whole_lt frac h2, rfl, by omega, by omega⟩

set_option maxHeartbeats 800000 in
theorem datens_ok (era x : Int) (off frac : Nat) (he : -2147483648 ≤ era ∧ era ≤ 2147483647) (h1 : off < 4294967296) (h2 : frac < 18446744073709551616) (hx : dateI era off frac = x) (hf : fits x) (w : World) :
    Calls Try.prog 8 #[.agg #[.int .i32 era, .int .u32 off, .int .u64 frac]] w fun e w' => e = .returned (.tuple #[.int .i64 x, .int .i64 0]) ∧ Out w w' := by
  obtain ⟨s, n, l, S, N, L, -, nb, D, s1, s2⟩ := dates_eqs era off frac he h1 h2
  obtain ⟨f1, f2⟩ := hf
  rw [hx] at D
  have N := Lib.hid N
  have L := Lib.hid L
  have b1 : -4611686019 ≤ s := by omega
  have b2 : s ≤ 4611686019 := by omega
  clear hx s1 s2
  obtain ⟨e1, e2⟩ := he
  have H2 := Lib.hid h2
  clear h2
  have f1' : -4611686018427387904 ≤ s * 1000000000 + n := by omega
  have f2' : s * 1000000000 + n ≤ 4611686018427387904 := by omega
  have D' : Hid (x = s * 1000000000 + n) := D
  clear f1 f2 D
  go_enter Try.func8, Try.ntmps8
  go_wp2_with fail
  refine (mul64_of frac 1000000000 n l H2.out (by omega) N.out L.out _).mono ?_; rintro e w' ⟨rfl, rfl⟩
  go_wp2
  go_ret2
  exact ⟨ret_pair D'.out.symm rfl, (Out.refl w).alloc _ _⟩

set_option maxHeartbeats 800000 in
theorem datens_no (era x : Int) (off frac : Nat) (he : -2147483648 ≤ era ∧ era ≤ 2147483647) (h1 : off < 4294967296) (h2 : frac < 18446744073709551616) (hx : dateI era off frac = x) (hf : ¬ fits x) (w : World) :
    Calls Try.prog 8 #[.agg #[.int .i32 era, .int .u32 off, .int .u64 frac]] w fun e w' => e = .returned (.tuple #[.int .i64 0, .int .i64 20]) ∧ Out w w' := by
  obtain ⟨s, n, l, S, N, L, -, nb, D, s1, s2⟩ := dates_eqs era off frac he h1 h2
  rw [hx] at D
  have N := Lib.hid N
  have L := Lib.hid L
  obtain ⟨e1, e2⟩ := he
  have H2 := Lib.hid h2
  have hf' : x < -4611686018427387904 ∨ 4611686018427387904 < x := by unfold fits at hf; omega
  clear h2 hx hf
  by_cases c1 : s < -4611686019
  · have D := Lib.hid D
    clear hf'
    go_enter Try.func8, Try.ntmps8
    go_wp2
    go_ret2
    exact ⟨rfl, (Out.refl w).alloc _ _⟩
  · by_cases c2 : 4611686019 < s
    · have D := Lib.hid D
      have c1' : -4611686019 ≤ s := by omega
      clear hf' c1
      go_enter Try.func8, Try.ntmps8
      go_wp2
      go_ret2
      exact ⟨rfl, (Out.refl w).alloc _ _⟩
    · have c1' : -4611686019 ≤ s := by omega
      have c2' : s ≤ 4611686019 := by omega
      rcases hf' with f | f
      · have f' : s * 1000000000 + n < -4611686018427387904 := by omega
        have D := Lib.hid D
        clear f c1 c2
        go_enter Try.func8, Try.ntmps8
        go_wp2_with fail
        refine (mul64_of frac 1000000000 n l H2.out (by omega) N.out L.out _).mono ?_; rintro e w' ⟨rfl, rfl⟩
        go_wp2
        go_ret2
        exact ⟨rfl, (Out.refl w).alloc _ _⟩
      · have f' : 4611686018427387904 < s * 1000000000 + n := by omega
        have f2 : -4611686018427387904 ≤ s * 1000000000 + n := by omega
        have D := Lib.hid D
        clear f c1 c2
        go_enter Try.func8, Try.ntmps8
        go_wp2_with fail
        refine (mul64_of frac 1000000000 n l H2.out (by omega) N.out L.out _).mono ?_; rintro e w' ⟨rfl, rfl⟩
        go_wp2
        go_ret2
        exact ⟨rfl, (Out.refl w).alloc _ _⟩

theorem datens_any (era : Int) (off frac : Nat) (he : -2147483648 ≤ era ∧ era ≤ 2147483647) (h1 : off < 4294967296) (h2 : frac < 18446744073709551616) (w : World) :
    Calls Try.prog 8 #[.agg #[.int .i32 era, .int .u32 off, .int .u64 frac]] w fun e w' => e = .returned (.tuple #[.int .i64 (dateN era off frac), .int .i64 (dateE era off frac)]) ∧ Out w w' := by
  unfold dateN dateE
  by_cases c : fits (dateI era off frac)
  · rw [if_pos c, if_pos c]
    exact datens_ok era _ off frac he h1 h2 rfl c w
  · rw [if_neg c, if_neg c]
    exact datens_no era _ off frac he h1 h2 rfl c w

theorem div64_of (hi lo y q r : Nat) (h1 : hi < y) (h2 : lo < 18446744073709551616) (h3 : y < 18446744073709551616) (hq : (hi * 18446744073709551616 + lo) / y = q) (hr : (hi * 18446744073709551616 + lo) % y = r) (w : World) :
    Calls Try.prog 28 #[.int .u64 hi, .int .u64 lo, .int .u64 y] w fun e w' => e = .returned (.tuple #[.int .u64 q, .int .u64 r]) ∧ ∃ n, w' = w.drewN n := by
  refine (div64_any hi lo y h1 h2 h3 w).mono ?_
  rintro e w' ⟨rfl, n, rfl⟩
  rw [hq, hr]
  exact ⟨rfl, n, rfl⟩

/-- A date, as a value. -/
def dateV (ns : Int) : Value := .agg #[.int .i32 (eraN ns), .int .u32 (offN ns : Nat), .int .u64 (fracN ns : Nat)]

theorem ret_date {a a' b b' c c' : Int} (h : a = a') (g : b = b') (k : c = c') : Value.agg #[.int .i32 a, .int .u32 b, .int .u64 c] = .agg #[.int .i32 a', .int .u32 b', .int .u64 c'] := by rw [h, g, k]

set_option maxHeartbeats 800000 in
theorem nsdate_any (ns : Int) (h : I64 ns) (w : World) :
    Calls Try.prog 18 #[.int .i64 ns] w fun e w' => e = .returned (dateV ns) ∧ Out w w' := by
  obtain ⟨s, hs⟩ : ∃ s, secs ns = s := ⟨_, rfl⟩
  obtain ⟨r, hr⟩ : ∃ r, over ns = r := ⟨_, rfl⟩
  obtain ⟨q, t, hq, ht, qb, rb, cs⟩ := frac_parts ns r hr
  have sb := secs_in ns h.1 h.2
  rw [hs] at sb
  have HS := Lib.hid hs
  have HR := Lib.hid hr
  have HH := Lib.hid h
  have HQ := Lib.hid hq
  have HT := Lib.hid ht
  have E1 : IntKind.u32.wrap s = (offN ns : Nat) := by rw [IntKind.wrap_u32]; unfold offN; rw [hs]; omega
  have E2 : Hid (s / 4294967296 = eraN ns) := by unfold Hid; unfold eraN; rw [hs]
  have FL := Lib.hid (frac_lt ns)
  have fr : IntKind.u64.wrap ((q : Int) + 1) = ((q + 1 : Nat) : Int) ∨ t = 0 := by
    rcases cs with c | c
    · exact .inr c.1
    · left
      have := frac_lt ns
      rw [IntKind.wrap_u64]
      omega
  obtain ⟨o, ho⟩ : ∃ o, o = offN ns := ⟨_, rfl⟩
  rw [← ho] at E1
  have HO := Lib.hid ho
  have ob : o < 4294967296 := by rw [ho]; exact off_lt ns
  clear hs hr h hq ht ho
  rcases cs with ⟨c1, c2⟩ | ⟨c1, c2⟩
  · subst c1
    have C := Lib.hid c2
    clear fr c2
    go_enter Try.func18, Try.ntmps18
    go_wp2_with fail
    refine (split_any ns s r HS.out HR.out HH.out _).mono ?_; rintro e w' ⟨rfl, rfl⟩
    go_wp2_with fail
    refine (div64_of r 0 1000000000 q 0 rb (by omega) (by omega) (by rw [Nat.add_zero]; exact HQ.out) (by rw [Nat.add_zero]; exact HT.out) _).mono ?_; rintro e w' ⟨rfl, n, rfl⟩
    go_wp2
    refine bodyPost_ret (v := .agg #[.int .i32 (s / 4294967296), .int .u32 o, .int .u64 q]) (by simp [results, Try.results18, go_sem]) rfl ⟨?_, ?_⟩
    · exact congrArg Ending.returned (ret_date E2.out (by rw [HO.out]) (by rw [C.out]))
    · exact ((((((Out.refl w).alloc _ _).drewN n).setCell (Nat.le_refl _) _).setCell (Nat.le_refl _) _).setCell (Nat.le_refl _) _)
  · have c3 : 0 < (t : Int) := by omega
    have F : IntKind.u64.wrap ((q : Int) + 1) = (fracN ns : Nat) := by rw [← c2]; exact fr.resolve_right (by omega)
    clear fr c2 c1
    obtain ⟨f, hf⟩ : ∃ f, f = fracN ns := ⟨_, rfl⟩
    rw [← hf] at F
    have C := Lib.hid hf
    clear hf
    go_enter Try.func18, Try.ntmps18
    go_wp2_with fail
    refine (split_any ns s r HS.out HR.out HH.out _).mono ?_; rintro e w' ⟨rfl, rfl⟩
    go_wp2_with fail
    refine (div64_of r 0 1000000000 q t rb (by omega) (by omega) (by rw [Nat.add_zero]; exact HQ.out) (by rw [Nat.add_zero]; exact HT.out) _).mono ?_; rintro e w' ⟨rfl, n, rfl⟩
    go_wp2
    refine bodyPost_ret (v := .agg #[.int .i32 (s / 4294967296), .int .u32 o, .int .u64 f]) (by simp [results, Try.results18, go_sem]) rfl ⟨?_, ?_⟩
    · exact congrArg Ending.returned (ret_date E2.out (by rw [HO.out]) (by rw [C.out]))
    · exact ((((((Out.refl w).alloc _ _).drewN n).setCell (Nat.le_refl _) _).setCell (Nat.le_refl _) _).setCell (Nat.le_refl _) _)
end Go.Proofs.Ytdaioclpkkpheaa
