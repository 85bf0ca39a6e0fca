/- What follows for package stamp's numbers: there and back, order, eras. No program. -/
import Derived.Test.YtdaioclpkkpheaaStampM
namespace Go.Proofs.StampM

theorem near_spec (W P : Int) : ∃ r : Int, nearer P (nearer P (W - 4294967296000000000) W) (W + 4294967296000000000) = r ∧
    ((2 * P + 4294967296000000000 ≤ 2 * W ∧ r = W - 4294967296000000000) ∨ (2 * W < 2 * P + 4294967296000000000 ∧ 2 * P ≤ 2 * W + 4294967296000000000 ∧ r = W) ∨ (2 * W + 4294967296000000000 < 2 * P ∧ r = W + 4294967296000000000)) := by
  refine ⟨_, rfl, ?_⟩
  have k : ∀ x : Int, (x < P ∧ far x P = P - x) ∨ (P ≤ x ∧ far x P = x - P) := by
    intro x
    unfold far
    split <;> omega
  have k0 := k (W - 4294967296000000000)
  have k1 := k W
  have k2 := k (W + 4294967296000000000)
  unfold nearer
  by_cases c : far W P < far (W - 4294967296000000000) P
  · rw [if_pos c]
    by_cases d : far (W + 4294967296000000000) P < far W P
    · rw [if_pos d]; omega
    · rw [if_neg d]; omega
  · rw [if_neg c]
    by_cases d : far (W + 4294967296000000000) P < far (W - 4294967296000000000) P
    · rw [if_pos d]; omega
    · rw [if_neg d]; omega

theorem stampns_spec (u : Nat) (p : Int) (hu : u < 18446744073709551616) (h0 : 0 ≤ p) (h1 : p ≤ 4611686018427387904) : ∃ (W : Nat) (r : Int), within u = W ∧ W < 4294967296000000000 ∧ stampNsN u p = r ∧
    ((2 * p + 4294967296000000000 ≤ 2 * (W : Int) ∧ r = W - 4294967296000000000) ∨ (2 * (W : Int) < 2 * p + 4294967296000000000 ∧ 2 * p ≤ 2 * (W : Int) + 4294967296000000000 ∧ r = W) ∨ (2 * (W : Int) + 4294967296000000000 < 2 * p ∧ r = W + 4294967296000000000)) := by
  have hi : inP p = p := by unfold inP; rw [if_neg (by omega), if_neg (by omega)]
  obtain ⟨r, hr, cs⟩ := near_spec (within u : Nat) p
  have b := within_lt u hu
  unfold E at b
  refine ⟨within u, r, rfl, by omega, ?_, cs⟩
  unfold stampNsN E
  rw [hi]
  exact hr

/-- a stamp, by a pivot an era later. -/
theorem eras_shift (u : Nat) (p : Int) (hu : u < 18446744073709551616) (h0 : 0 ≤ p) (h1 : p < 288230376151711744) :
    stampNsN u (p + 4294967296000000000) = stampNsN u p + 4294967296000000000 ∧ stampNsN u p - p ≤ 2147483648000000000 ∧ p - stampNsN u p ≤ 2147483648000000000 ∧ -4294967296000000000 ≤ stampNsN u p ∧ stampNsN u p ≤ 4294967296000000000 := by
  obtain ⟨W, r, hW, hb, hr, cs⟩ := stampns_spec u p hu h0 (by omega)
  obtain ⟨W', r', hW', hb', hr', cs'⟩ := stampns_spec u (p + 4294967296000000000) hu (by omega) (by omega)
  rw [hr, hr']
  have : W' = W := by rw [← hW', hW]
  omega

theorem near_half (u : Nat) (p : Int) (hu : u < 18446744073709551616) (h0 : 0 ≤ p) (h1 : p ≤ 4611686018427387904) :
    stampNsN u p - p ≤ 2147483648000000000 ∧ p - stampNsN u p ≤ 2147483648000000000 := by
  obtain ⟨W, r, hW, hb, hr, cs⟩ := stampns_spec u p hu h0 h1
  rw [hr]
  omega

theorem up_down32 (r : Nat) : (r * 4294967296 + 999999999) / 1000000000 * 1000000000 / 4294967296 = r := by
  omega
theorem up_down64 (r : Nat) : (r * 18446744073709551616 + 999999999) / 1000000000 * 1000000000 / 18446744073709551616 = r := by
  omega
theorem down_up32 (l : Nat) : (l * 1000000000 / 4294967296 * 4294967296 + 999999999) / 1000000000 ≤ l ∧ l < (l * 1000000000 / 4294967296 * 4294967296 + 999999999) / 1000000000 + 5 := by
  omega
theorem cut_up (r : Nat) : (r * 18446744073709551616 + 999999999) / 1000000000 / 4294967296 ≤ (r * 4294967296 + 999999999) / 1000000000 ∧ (r * 4294967296 + 999999999) / 1000000000 ≤ (r * 18446744073709551616 + 999999999) / 1000000000 / 4294967296 + 1 := by
  omega

theorem secs_parts (ns : Int) : secs ns = eraN ns * 4294967296 + (offN ns : Nat) := by unfold eraN offN; omega
theorem ns_parts (ns : Int) : ns = (eraN ns * 4294967296 + (offN ns : Nat)) * 1000000000 + (over ns : Nat) := by
  have := split_sum ns
  rw [secs_parts ns] at this
  exact this.symm
theorem stamp_off (ns : Int) : stampN ns = offN ns * 4294967296 + (over ns * 4294967296 + 999999999) / 1000000000 := rfl
theorem cut_parts (o x : Nat) (h : x < 4294967296) : (o * 4294967296 + x) / 4294967296 = o ∧ (o * 4294967296 + x) % 4294967296 = x := by omega
theorem stamp_within (ns : Int) : within (stampN ns) = offN ns * 1000000000 + over ns := by
  have h := over_lt ns
  have p := parts_lt _ h
  have q := up_down32 (over ns)
  obtain ⟨x, hx⟩ : ∃ x, x = (over ns * 4294967296 + 999999999) / 1000000000 := ⟨_, rfl⟩
  rw [stamp_off, ← hx]
  rw [← hx] at p q
  unfold within
  obtain ⟨e1, e2⟩ := cut_parts (offN ns) x p
  rw [e1, e2, q]

theorem stamp_back (n P : Int) (h0 : 0 ≤ n) (h1 : n < 4611686018427387904) (g0 : 0 ≤ P) (g1 : P ≤ 4611686018427387904) (c1 : P - n < 2147483648000000000) (c2 : n - P < 2147483648000000000) : stampNsN (stampN n) P = n := by
  obtain ⟨W, r, hW, hb, hr, cs⟩ := stampns_spec (stampN n) P (stamp_lt n) g0 g1
  rw [stamp_within] at hW
  rw [hr]
  have e := ns_parts n
  have o := off_lt n
  have v := over_lt n
  generalize eraN n = k at *
  generalize offN n = o' at *
  generalize over n = v' at *
  have k0 : 0 ≤ k := by omega
  have k1 : k ≤ 1 := by omega
  omega

theorem date_back (n : Int) : dateI (eraN n) (offN n) (fracN n) = n := by
  unfold dateI wholeN
  have e : fracN n * 1000000000 / 18446744073709551616 = over n := up_down64 (over n)
  rw [e]
  exact (ns_parts n).symm

theorem date_fits (n : Int) (h : fits n) : dateN (eraN n) (offN n) (fracN n) = n ∧ dateE (eraN n) (offN n) (fracN n) = 0 := by
  unfold dateN dateE
  rw [date_back n, if_pos h, if_pos h]
  exact ⟨rfl, rfl⟩

theorem parts_of (ns s : Int) (m : Nat) (e : ns = s * 1000000000 + m) (hm : m < 1000000000) : secs ns = s ∧ over ns = m := by
  unfold secs over
  omega

/-- a stamp's time leads back to it, or to one that is less by less than 5. -/
theorem stamp_there (u : Nat) (P : Int) (hu : u < 18446744073709551616) (g0 : 0 ≤ P) (g1 : P ≤ 4611686018427387904) : stampN (stampNsN u P) ≤ u ∧ u < stampN (stampNsN u P) + 5 := by
  obtain ⟨W, r, hW, hb, hr, cs⟩ := stampns_spec u P hu g0 g1
  rw [hr]
  obtain ⟨hi, hh⟩ : ∃ hi, hi = u / 4294967296 := ⟨_, rfl⟩
  obtain ⟨lo, hl⟩ : ∃ lo, lo = u % 4294967296 := ⟨_, rfl⟩
  have lb : lo < 4294967296 := by omega
  have hib : hi < 4294967296 := by omega
  have eW : W = hi * 1000000000 + lo * 1000000000 / 4294967296 := by rw [← hW, hh, hl]; rfl
  have mb : lo * 1000000000 / 4294967296 < 1000000000 := by omega
  have d := down_up32 lo
  obtain ⟨m, hm⟩ : ∃ m, m = lo * 1000000000 / 4294967296 := ⟨_, rfl⟩
  rw [← hm] at eW mb d
  obtain ⟨k, hk, er⟩ : ∃ k : Int, (k = -1 ∨ k = 0 ∨ k = 1) ∧ r = (k * 4294967296 + hi) * 1000000000 + m := by
    rcases cs with ⟨-, c⟩ | ⟨-, -, c⟩ | ⟨-, c⟩
    · exact ⟨-1, .inl rfl, by omega⟩
    · exact ⟨0, .inr (.inl rfl), by omega⟩
    · exact ⟨1, .inr (.inr rfl), by omega⟩
  obtain ⟨s1, s2⟩ := parts_of r (k * 4294967296 + hi) m er mb
  have eo : offN r = hi := by unfold offN; rw [s1]; omega
  rw [stamp_off, eo, s2]
  omega

theorem frac_mono (x y : Nat) (h : x < y) : (x * 18446744073709551616 + 999999999) / 1000000000 < (y * 18446744073709551616 + 999999999) / 1000000000 := by omega
theorem part_mono (x y : Nat) (h : x < y) : (x * 4294967296 + 999999999) / 1000000000 < (y * 4294967296 + 999999999) / 1000000000 := by omega

theorem date_order (a b : Int) (h : a < b) : eraN a < eraN b ∨ (eraN a = eraN b ∧ offN a < offN b) ∨ (eraN a = eraN b ∧ offN a = offN b ∧ fracN a < fracN b) := by
  have ea := ns_parts a
  have eb := ns_parts b
  have oa := off_lt a
  have ob := off_lt b
  have va := over_lt a
  have vb := over_lt b
  have m : over a < over b → fracN a < fracN b := fun h => frac_mono _ _ h
  generalize fracN a = fa at *
  generalize fracN b = fb at *
  generalize eraN a = k at *
  generalize offN a = o at *
  generalize over a = v at *
  generalize eraN b = k' at *
  generalize offN b = o' at *
  generalize over b = v' at *
  omega
theorem stamp_order (a b : Int) (h : a < b) (e : eraN a = eraN b) : stampN a < stampN b := by
  have ea := ns_parts a
  have eb := ns_parts b
  have va := over_lt a
  have vb := over_lt b
  have m : over a < over b → (over a * 4294967296 + 999999999) / 1000000000 < (over b * 4294967296 + 999999999) / 1000000000 := fun h => part_mono _ _ h
  have pa := parts_lt _ va
  obtain ⟨fa, ha⟩ : ∃ x, x = (over a * 4294967296 + 999999999) / 1000000000 := ⟨_, rfl⟩
  obtain ⟨fb, hb⟩ : ∃ x, x = (over b * 4294967296 + 999999999) / 1000000000 := ⟨_, rfl⟩
  rw [stamp_off, stamp_off, ← ha, ← hb]
  rw [← ha] at m pa
  rw [← hb] at m
  clear ha hb
  generalize eraN a = k at *
  generalize offN a = o at *
  generalize over a = v at *
  generalize eraN b = k' at *
  generalize offN b = o' at *
  generalize over b = v' at *
  omega
theorem stamp_date (ns : Int) : cutN (offN ns) (fracN ns) ≤ stampN ns ∧ stampN ns ≤ cutN (offN ns) (fracN ns) + 1 := by
  have c := cut_up (over ns)
  have e : fracN ns = (over ns * 18446744073709551616 + 999999999) / 1000000000 := rfl
  rw [stamp_off]
  unfold cutN
  rw [e]
  omega

theorem short_mono (u v : Nat) : shortN u < shortN v ↔ u < v := by unfold shortN; omega
theorem short_back (u : Nat) (h : u < 4294967296) : nsShortN (shortN u : Nat) = u := by
  have s := short_lt u h
  unfold nsShortN
  by_cases c : (shortN u : Int) < 1
  · rw [if_pos c]; unfold shortN at c; omega
  · rw [if_neg c, if_neg (by omega)]
    unfold shortN at *
    omega
theorem short_zero (u : Nat) : shortN u = 0 ↔ u = 0 := by unfold shortN; omega
theorem short_next (u : Nat) (h : u < 4294967296) : u ≤ nsShortN ((shortN u : Nat) + 1) := by
  have s := short_lt u h
  unfold nsShortN
  rw [if_neg (by omega)]
  split
  · omega
  · unfold shortN at *
    omega
end Go.Proofs.StampM
