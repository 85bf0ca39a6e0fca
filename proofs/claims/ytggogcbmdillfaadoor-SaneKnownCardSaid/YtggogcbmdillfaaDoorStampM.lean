/- What package stamp's calls answer, as whole numbers; and what follows for those numbers alone. No program. -/
import Derived.WalkKit
namespace Go.Proofs.StampM

/-- whole seconds, down; the nanoseconds over. -/
def secs (ns : Int) : Int := ns / 1000000000
def over (ns : Int) : Nat := (ns % 1000000000).toNat
theorem over_lt (ns : Int) : over ns < 1000000000 := by unfold over; omega
theorem over_int (ns : Int) : (over ns : Int) = ns % 1000000000 := by unfold over; omega
theorem split_sum (ns : Int) : secs ns * 1000000000 + over ns = ns := by unfold secs over; omega

theorem tdiv_neg (a m : Int) (h : a < 0) : a.tdiv m = -((-a) / m) := by
  rw [show a = -(-a) by omega, Int.neg_tdiv, Int.tdiv_eq_ediv_of_nonneg (by omega)]; simp
theorem tmod_neg (a m : Int) (h : a < 0) : a.tmod m = -((-a) % m) := by
  rw [show a = -(-a) by omega, Int.neg_tmod, Int.tmod_eq_emod_of_nonneg (by omega)]; simp

def stampN (ns : Int) : Nat := (secs ns % 4294967296).toNat * 4294967296 + (over ns * 4294967296 + 999999999) / 1000000000
def shortN (u : Nat) : Nat := (u * 1000000000 + 65535) / 65536
def nsShortN (ns : Int) : Nat := if ns < 1 then 0 else if 65535999984742 < ns then 4294967295 else ((ns - 1).toNat * 65536) / 1000000000 + 1
def within (u : Nat) : Nat := u / 4294967296 * 1000000000 + u % 4294967296 * 1000000000 / 4294967296
def inP (p : Int) : Int := if p < 0 then 0 else if 4611686018427387904 < p then 4611686018427387904 else p
def far (a p : Int) : Int := if a < p then p - a else a - p
def E : Int := 4294967296000000000
def nearer (p best x : Int) : Int := if far x p < far best p then x else best
def stampNsN (u : Nat) (p : Int) : Int := nearer (inP p) (nearer (inP p) ((within u : Int) - E) (within u)) ((within u : Int) + E)
def fracN (ns : Int) : Nat := (over ns * 18446744073709551616 + 999999999) / 1000000000
def eraN (ns : Int) : Int := secs ns / 4294967296
def offN (ns : Int) : Nat := (secs ns % 4294967296).toNat
def wholeN (frac : Nat) : Nat := frac * 1000000000 / 18446744073709551616
def dateI (era : Int) (off frac : Nat) : Int := (era * 4294967296 + off) * 1000000000 + wholeN frac
def fits (x : Int) : Prop := -4611686018427387904 ≤ x ∧ x ≤ 4611686018427387904
instance (x : Int) : Decidable (fits x) := by unfold fits; exact inferInstance
def dateN (era : Int) (off frac : Nat) : Int := if fits (dateI era off frac) then dateI era off frac else 0
def dateE (era : Int) (off frac : Nat) : Int := if fits (dateI era off frac) then 0 else 20
def cutN (off frac : Nat) : Nat := off * 4294967296 + frac / 4294967296

theorem parts_lt (r : Nat) (h : r < 1000000000) : (r * 4294967296 + 999999999) / 1000000000 < 4294967296 := by omega
theorem frac_lt (ns : Int) : fracN ns < 18446744073709551616 := by unfold fracN; have := over_lt ns; omega
theorem off_lt (ns : Int) : offN ns < 4294967296 := by unfold offN; omega
theorem stamp_lt (ns : Int) : stampN ns < 18446744073709551616 := by unfold stampN; have := parts_lt _ (over_lt ns); omega
theorem short_lt (u : Nat) (h : u < 4294967296) : shortN u ≤ 65535999984742 := by unfold shortN; omega
theorem within_lt (u : Nat) (h : u < 18446744073709551616) : (within u : Int) < E := by unfold within E; omega
theorem whole_lt (f : Nat) (h : f < 18446744073709551616) : wholeN f < 1000000000 := by unfold wholeN; omega
theorem or_add (a b s : Nat) (hb : b < 2 ^ s) : (a * 2 ^ s) ||| b = a * 2 ^ s + b := by
  rw [← Nat.shiftLeft_eq, Nat.shiftLeft_add_eq_or_of_lt hb]

theorem short_int (u : Nat) : ((u : Int) * 1000000000 + 65535) / 65536 = (shortN u : Nat) := by unfold shortN; omega
theorem short_parts' (N v : Nat) (hN : N < 4294967296000000000) (hv : (N + 65535) / 65536 = v) : ∃ q r : Nat, (N : Int) / 65536 = q ∧ (N : Int) % 65536 = r ∧ q < 70000000000000 ∧ ((r = 0 ∧ q = v) ∨ (0 < r ∧ q + 1 = v)) := by
  obtain ⟨q, hq⟩ : ∃ q, q = N / 65536 := ⟨_, rfl⟩
  obtain ⟨r, hr⟩ : ∃ r, r = N % 65536 := ⟨_, rfl⟩
  exact ⟨q, r, by omega, by omega, by omega, by omega⟩
theorem short_parts (u : Nat) (hu : u < 4294967296) : ∃ q r : Nat, (u : Int) * 1000000000 / 65536 = q ∧ (u : Int) * 1000000000 % 65536 = r ∧ q < 70000000000000 ∧ ((r = 0 ∧ q = shortN u) ∨ (0 < r ∧ q + 1 = shortN u)) := by
  obtain ⟨N, hN⟩ : ∃ N, N = u * 1000000000 := ⟨_, rfl⟩
  have e : (u : Int) * 1000000000 = (N : Int) := by omega
  have := short_parts' N (shortN u) (by omega) (by rw [hN]; rfl)
  rw [e]
  exact this
theorem nsshort_int (ns : Int) (h : 1 ≤ ns) (g : ns ≤ 65535999984742) : (ns - 1) * 65536 / 1000000000 + 1 = (nsShortN ns : Nat) := by
  have e : nsShortN ns = (ns - 1).toNat * 65536 / 1000000000 + 1 := by
    unfold nsShortN
    rw [if_neg (by omega), if_neg (by omega)]
  rw [e]
  omega
theorem nsshort_lo (ns : Int) (h : 1 ≤ ns) : 0 ≤ (ns - 1) * 65536 / 1000000000 := by omega
theorem nsshort_lt (ns : Int) (g : ns ≤ 65535999984742) : (ns - 1) * 65536 / 1000000000 + 1 ≤ 4294967295 := by omega
/-- what Go's own division tells, and what is made of it. -/
theorem split_neg (ns s : Int) (r : Nat) (h : ns < 0) (hl : -9223372036854775808 ≤ ns) (hs : secs ns = s) (hr : over ns = r) : ∃ q t : Int, ns.tdiv 1000000000 = q ∧ ns.tmod 1000000000 = t ∧ -9223372037 ≤ q ∧ q ≤ 0 ∧ -1000000000 < t ∧ ((t < 0 ∧ q - 1 = s ∧ t + 1000000000 = (r : Int)) ∨ (t = 0 ∧ q = s ∧ t = (r : Int))) := by
  have t1 := tmod_neg ns 1000000000 h
  have t2 := tdiv_neg ns 1000000000 h
  have s1 := split_sum ns
  have s2 := over_lt ns
  rw [hs, hr] at s1
  rw [hr] at s2
  exact ⟨_, _, rfl, rfl, by omega, by omega, by omega, by omega⟩
theorem era_neg (x e : Int) (o : Nat) (h : x < 0) (hl : -9223372038 ≤ x) (he : x / 4294967296 = e) (ho : (x % 4294967296).toNat = o) : ∃ q t : Int, x.tdiv 4294967296 = q ∧ x.tmod 4294967296 = t ∧ -3 ≤ q ∧ q ≤ 0 ∧ -4294967296 < t ∧ ((t < 0 ∧ q - 1 = e ∧ t + 4294967296 = (o : Int)) ∨ (t = 0 ∧ q = e ∧ t = (o : Int))) := by
  have t1 := tmod_neg x 4294967296 h
  have t2 := tdiv_neg x 4294967296 h
  exact ⟨_, _, rfl, rfl, by omega, by omega, by omega, by omega⟩
theorem secs_in (ns : Int) (h : -9223372036854775808 ≤ ns) (g : ns ≤ 9223372036854775807) : -9223372037 ≤ secs ns ∧ secs ns ≤ 9223372036 := by unfold secs; omega

/-- the parts of a stamp, as the call reckons them. -/
theorem stamp_eqs (ns s : Int) (r : Nat) (hs : secs ns = s) (hr : over ns = r) : ∃ A p : Nat, A < 18446744073709551616 ∧ p < 4294967296 ∧ r < 1000000000 ∧ ((r : Int) * 4294967296 + 1000000000 - 1) / 1000000000 = p ∧ (s % 18446744073709551616 * 4294967296) % 18446744073709551616 = (A : Int) ∧ (A ||| p) = stampN ns ∧ A + p = stampN ns ∧ A = (s % 4294967296).toNat * 4294967296 ∧ p = (r * 4294967296 + 999999999) / 1000000000 := by
  have h := over_lt ns
  rw [hr] at h
  obtain ⟨k, hk⟩ : ∃ k, k = (s % 4294967296).toNat := ⟨_, rfl⟩
  obtain ⟨p, hp⟩ : ∃ p, p = (r * 4294967296 + 999999999) / 1000000000 := ⟨_, rfl⟩
  have hp2 : p < 4294967296 := by omega
  have e : stampN ns = k * 4294967296 + p := by unfold stampN; rw [hs, hr, hk, hp]
  refine ⟨k * 4294967296, p, by omega, hp2, h, by omega, by omega, ?_, e.symm, by rw [hk], hp⟩
  rw [e]
  exact or_add k p 32 hp2
theorem up_parts (N : Nat) : (N % 1000000000 = 0 ∧ N / 1000000000 = (N + 999999999) / 1000000000) ∨ (0 < N % 1000000000 ∧ N / 1000000000 + 1 = (N + 999999999) / 1000000000) := by
  obtain ⟨q, hq⟩ : ∃ q, q = N / 1000000000 := ⟨_, rfl⟩
  obtain ⟨t, ht⟩ : ∃ t, t = N % 1000000000 := ⟨_, rfl⟩
  have e : N = q * 1000000000 + t := by omega
  have t1 : t < 1000000000 := by omega
  rw [← hq, ← ht]
  clear hq ht
  subst e
  rcases Nat.eq_zero_or_pos t with h | h
  · left; subst h; omega
  · right; omega
theorem ref_parts (r : Nat) (h : r < 1000000000) : ∃ q t p : Nat, (r : Int) * 4294967296 / 1000000000 = q ∧ (r : Int) * 4294967296 % 1000000000 = t ∧ q < 4294967296 ∧ p < 4294967296 ∧ p = (r * 4294967296 + 999999999) / 1000000000 ∧ ((t = 0 ∧ q = p) ∨ (0 < t ∧ q + 1 = p)) := by
  have u := up_parts (r * 4294967296)
  refine ⟨r * 4294967296 / 1000000000, r * 4294967296 % 1000000000, _, by omega, by omega, by omega, parts_lt r h, rfl, u⟩
/-- a date's fraction, bit by bit. -/
def Dig (r0 i r f : Nat) : Prop := r < 1000000000 ∧ r0 * 2 ^ i = f * 1000000000 + r ∧ f < 2 ^ i
theorem dig_zero (r0 : Nat) (h : r0 < 1000000000) : Dig r0 0 r0 0 := ⟨h, by omega, by omega⟩
theorem dig_lt {r0 i r f : Nat} (h : Dig r0 i r f) (hi : i < 64) : r < 1000000000 ∧ f < 9223372036854775808 := by
  refine ⟨h.1, Nat.lt_of_lt_of_le h.2.2 ?_⟩
  exact Nat.pow_le_pow_right (n := 2) (by omega) (show i ≤ 63 by omega)
theorem dig_low {r0 i r f : Nat} (h : Dig r0 i r f) (c : r * 2 < 1000000000) : Dig r0 (i + 1) (r * 2) (f * 2) := by
  obtain ⟨h1, h2, h3⟩ := h
  refine ⟨c, ?_, ?_⟩
  · rw [Nat.pow_succ, ← Nat.mul_assoc, h2]; omega
  · rw [Nat.pow_succ]; omega
theorem dig_high {r0 i r f : Nat} (h : Dig r0 i r f) (c : 1000000000 ≤ r * 2) : Dig r0 (i + 1) (r * 2 - 1000000000) (f * 2 + 1) := by
  obtain ⟨h1, h2, h3⟩ := h
  refine ⟨by omega, ?_, ?_⟩
  · rw [Nat.pow_succ, ← Nat.mul_assoc, h2]; omega
  · rw [Nat.pow_succ]; omega
theorem dig_end {r0 r f : Nat} (h : Dig r0 64 r f) : f = r0 * 18446744073709551616 / 1000000000 ∧ r = r0 * 18446744073709551616 % 1000000000 := by
  obtain ⟨h1, h2, h3⟩ := h
  rw [show (2 : Nat) ^ 64 = 18446744073709551616 from rfl] at h2
  omega
/-- a date's fraction, as a quotient and what is left of it. -/
theorem frac_parts (ns : Int) (r : Nat) (hr : over ns = r) : ∃ q t : Nat, r * 18446744073709551616 / 1000000000 = q ∧ r * 18446744073709551616 % 1000000000 = t ∧ q < 18446744073709551616 ∧ r < 1000000000 ∧ ((t = 0 ∧ q = fracN ns) ∨ (0 < t ∧ q + 1 = fracN ns)) := by
  have h := over_lt ns
  rw [hr] at h
  have u := up_parts (r * 18446744073709551616)
  have e : fracN ns = (r * 18446744073709551616 + 999999999) / 1000000000 := by unfold fracN; rw [hr]
  rw [← e] at u
  exact ⟨_, _, rfl, rfl, by omega, h, u⟩

theorem cut_or (off frac : Nat) (h : frac < 18446744073709551616) : ((off * 4294967296) ||| (frac / 4294967296)) = cutN off frac := by
  rw [show cutN off frac = off * 2 ^ 32 + frac / 4294967296 from rfl]
  exact or_add off (frac / 4294967296) 32 (by omega)
theorem cut_lt (off frac : Nat) (h1 : off < 4294967296) (h : frac < 18446744073709551616) : cutN off frac < 18446744073709551616 := by unfold cutN; omega
/-- a fraction's nanoseconds, by halves of the word. -/
theorem whole_halves (frac : Nat) : (frac / 4294967296 * 1000000000 + frac % 4294967296 * 1000000000 / 4294967296) / 4294967296 = wholeN frac := by
  unfold wholeN
  omega

theorem inP_in (p : Int) : 0 ≤ inP p ∧ inP p ≤ 4611686018427387904 := by
  unfold inP
  split
  · omega
  · split <;> omega

theorem inP_minmax (p : Int) : min (max p 0) 4611686018427387904 = inP p := by
  unfold inP
  split
  · omega
  · split <;> omega
theorem within_parts (u : Nat) (hu : u < 18446744073709551616) : ∃ hi lo md W : Nat, u / 4294967296 = hi ∧ u % 4294967296 = lo ∧ (u : Int) / 4294967296 = (hi : Int) ∧ (u : Int) % 4294967296 = (lo : Int) ∧ (lo : Int) * 1000000000 / 4294967296 = md ∧ (hi : Int) * 1000000000 + md = W ∧ W = within u ∧ hi < 4294967296 ∧ lo < 4294967296 ∧ md < 1000000000 ∧ W < 4294967296000000000 := by
  refine ⟨_, _, u % 4294967296 * 1000000000 / 4294967296, _, rfl, rfl, by omega, by omega, by omega, ?_, rfl, by omega, by omega, by omega, ?_⟩
  · unfold within; omega
  · unfold within; omega
/-- the three eras, one behind the other. -/
theorem three (W P : Int) : ∃ d0 d1 d2 B1 e1 B2 : Int, far (W + -4294967296000000000) P = d0 ∧ far W P = d1 ∧ far (W + 4294967296000000000) P = d2 ∧ far B1 P = e1 ∧
    ((d1 < d0 ∧ B1 = W) ∨ (d0 ≤ d1 ∧ B1 = W + -4294967296000000000)) ∧ ((d2 < e1 ∧ B2 = W + 4294967296000000000) ∨ (e1 ≤ d2 ∧ B2 = B1)) ∧
    B2 = nearer P (nearer P (W - E) W) (W + E) := by
  refine ⟨_, _, _, nearer P (W - E) W, _, _, rfl, rfl, rfl, rfl, ?_, ?_, rfl⟩
  · unfold nearer
    by_cases c : far W P < far (W - E) P
    · left; exact ⟨c, if_pos c⟩
    · right; exact ⟨Int.not_lt.1 c, if_neg c⟩
  · by_cases c : far (W + E) P < far (nearer P (W - E) W) P
    · left; exact ⟨c, if_pos c⟩
    · right; exact ⟨Int.not_lt.1 c, if_neg c⟩

/-- where a search by halves stands. -/
theorem nsshort_hi (ns : Int) : nsShortN ns ≤ 4294967295 := by
  unfold nsShortN
  split
  · omega
  · split <;> omega
theorem nsshort_iff (ns : Int) (m : Nat) (h : 1 ≤ ns) (hm : m < 4294967295) : (ns ≤ (shortN m : Nat)) ↔ nsShortN ns ≤ m := by
  have s : shortN m ≤ 65535999984742 := short_lt m (by omega)
  unfold nsShortN
  rw [if_neg (by omega)]
  by_cases c : 65535999984742 < ns
  · rw [if_pos c]; omega
  · rw [if_neg c]
    obtain ⟨k, hk⟩ : ∃ k : Nat, k = (ns - 1).toNat := ⟨_, rfl⟩
    rw [← hk]
    unfold shortN
    omega
theorem ref_off (s : Int) (hl : -9223372037 ≤ s) (hh : s ≤ 9223372036) : ∃ (e : Int) (o : Nat), s / 4294967296 = e ∧ (s % 4294967296).toNat = o ∧ s % 4294967296 = (o : Int) ∧ o < 4294967296 ∧ -3 ≤ e ∧ e ≤ 2 := ⟨_, _, rfl, rfl, by omega, by omega, by omega, by omega⟩
theorem far_back (W P : Int) (h : W < 4294967296000000000) (g : 0 ≤ P) : far (W + -4294967296000000000) P < far (W + -8589934592000000000) P := by
  unfold far
  rw [if_pos (by omega), if_pos (by omega)]
  omega
end Go.Proofs.StampM

