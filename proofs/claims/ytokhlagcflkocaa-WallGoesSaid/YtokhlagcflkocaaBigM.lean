/- Plain arithmetic: numbers as rows of digits to the base 2^16, the lowest first. No Go in sight. -/
import Derived.WalkKit
namespace Go.Proofs.Ytokhlagcflkocaa.BigM

def val : List Nat → Nat
  | [] => 0
  | d :: r => d + 65536 * val r

def Dig (ds : List Nat) : Prop := ∀ d ∈ ds, d < 65536

/-- No zero at the high end. -/
def Canon (ds : List Nat) : Prop := ∀ d, ds.getLast? = some d → d ≠ 0

theorem val_append (a b : List Nat) : val (a ++ b) = val a + 65536 ^ a.length * val b := by
  induction a with
  | nil => simp [val]
  | cons d r ih => simp only [List.cons_append, val, ih, List.length_cons, Nat.pow_succ, Nat.mul_add]; rw [Nat.mul_comm (65536 ^ r.length) 65536, Nat.mul_assoc]; omega

theorem val_snoc (a : List Nat) (d : Nat) : val (a ++ [d]) = val a + 65536 ^ a.length * d := by rw [val_append]; simp [val]

theorem val_lt {ds : List Nat} (h : Dig ds) : val ds < 65536 ^ ds.length := by
  induction ds with
  | nil => simp [val]
  | cons d r ih =>
    have h1 := h d (List.mem_cons_self ..)
    have h2 := ih (fun x hx => h x (List.mem_cons_of_mem _ hx))
    simp only [val, List.length_cons, Nat.pow_succ]
    omega

theorem dig_append {a b : List Nat} (ha : Dig a) (hb : Dig b) : Dig (a ++ b) := by
  intro d hd
  rcases List.mem_append.1 hd with h | h
  · exact ha d h
  · exact hb d h
theorem dig_snoc {a : List Nat} {d : Nat} (ha : Dig a) (hd : d < 65536) : Dig (a ++ [d]) := dig_append ha (by intro x hx; simp at hx; omega)
theorem dig_getD {a : List Nat} (ha : Dig a) (i : Nat) : a.getD i 0 < 65536 := by
  rw [List.getD_eq_getElem?_getD]
  cases h : a[i]? with
  | none => simp
  | some d => exact ha d (List.mem_of_getElem? h)

/-- What the first i digits tell; behind the end there is nothing. -/
theorem val_take_succ (a : List Nat) (i : Nat) : val (a.take (i + 1)) = val (a.take i) + 65536 ^ i * a.getD i 0 := by
  by_cases h : i < a.length
  · rw [List.take_succ_eq_append_getElem h, val_snoc, List.length_take, Nat.min_eq_left (by omega)]
    rw [List.getD_eq_getElem?_getD, List.getElem?_eq_getElem h]; rfl
  · rw [List.take_of_length_le (by omega), List.take_of_length_le (by omega), List.getD_eq_getElem?_getD, List.getElem?_eq_none (by omega)]
    simp
theorem val_take_all {a : List Nat} {i : Nat} (h : a.length ≤ i) : val (a.take i) = val a := by rw [List.take_of_length_le h]

/-- One round of adding: what was added stands in the digits laid and the carry. -/
theorem plus_step {a b : List Nat} {out : List Nat} {i c : Nat} (ha : Dig a) (hb : Dig b) (hl : out.length = i) (hc : c ≤ 1)
    (h : val out + 65536 ^ i * c = val (a.take i) + val (b.take i)) :
    val (out ++ [(a.getD i 0 + b.getD i 0 + c) % 65536]) + 65536 ^ (i + 1) * ((a.getD i 0 + b.getD i 0 + c) / 65536) = val (a.take (i + 1)) + val (b.take (i + 1)) ∧ (a.getD i 0 + b.getD i 0 + c) / 65536 ≤ 1 := by
  have h1 := dig_getD ha i
  have h2 := dig_getD hb i
  rw [val_take_succ, val_take_succ, val_snoc, hl]
  obtain ⟨x, hx⟩ : ∃ x, x = a.getD i 0 := ⟨_, rfl⟩
  obtain ⟨y, hy⟩ : ∃ y, y = b.getD i 0 := ⟨_, rfl⟩
  rw [← hx] at h1 ⊢
  rw [← hy] at h2 ⊢
  obtain ⟨t, ht⟩ : ∃ t, t = x + y + c := ⟨_, rfl⟩
  rw [← ht]
  have e : 65536 ^ i * (t % 65536) + 65536 ^ (i + 1) * (t / 65536) = 65536 ^ i * t := by
    rw [Nat.pow_succ, Nat.mul_assoc, ← Nat.mul_add, Nat.mod_add_div]
  have e2 : 65536 ^ i * t = 65536 ^ i * x + 65536 ^ i * y + 65536 ^ i * c := by rw [ht, Nat.mul_add, Nat.mul_add]
  refine ⟨by omega, ?_⟩
  have : t < 131072 := by omega
  omega

/-- One round of taking away: what is owed stands one digit further. -/
theorem less_step {a b : List Nat} {out : List Nat} {i o : Nat} (ha : Dig a) (hb : Dig b) (hl : out.length = i) (ho : o ≤ 1)
    (h : val out + val (b.take i) = val (a.take i) + 65536 ^ i * o) :
    val (out ++ [(65536 + a.getD i 0 - b.getD i 0 - o) % 65536]) + val (b.take (i + 1)) = val (a.take (i + 1)) + 65536 ^ (i + 1) * (1 - (65536 + a.getD i 0 - b.getD i 0 - o) / 65536) ∧ 1 - (65536 + a.getD i 0 - b.getD i 0 - o) / 65536 ≤ 1 := by
  have h1 := dig_getD ha i
  have h2 := dig_getD hb i
  rw [val_take_succ, val_take_succ, val_snoc, hl]
  obtain ⟨x, hx⟩ : ∃ x, x = a.getD i 0 := ⟨_, rfl⟩
  obtain ⟨y, hy⟩ : ∃ y, y = b.getD i 0 := ⟨_, rfl⟩
  rw [← hx] at h1 ⊢
  rw [← hy] at h2 ⊢
  obtain ⟨d, hd⟩ : ∃ d, d = (65536 + x - y - o) % 65536 := ⟨_, rfl⟩
  obtain ⟨q, hq⟩ : ∃ q, q = 1 - (65536 + x - y - o) / 65536 := ⟨_, rfl⟩
  rw [← hd, ← hq]
  have k : d + y + o = x + 65536 * q := by omega
  have e : 65536 ^ i * d + 65536 ^ i * y + 65536 ^ i * o = 65536 ^ i * x + 65536 ^ (i + 1) * q := by
    rw [Nat.pow_succ, Nat.mul_assoc, ← Nat.mul_add, ← Nat.mul_add, ← Nat.mul_add, k]
  exact ⟨by omega, by omega⟩

theorem canon_low {ds : List Nat} (hc : Canon ds) (h : ds ≠ []) : 65536 ^ (ds.length - 1) ≤ val ds := by
  obtain ⟨r, d, rfl⟩ : ∃ r d, ds = r ++ [d] := ⟨ds.dropLast, ds.getLast h, (List.dropLast_concat_getLast h).symm⟩
  have hd := hc d (by simp)
  rw [val_snoc]
  have : 65536 ^ r.length * 1 ≤ 65536 ^ r.length * d := Nat.mul_le_mul_left _ (by omega)
  simp
  omega

theorem canon_len {a b : List Nat} (ha : Dig a) (hb : Canon b) (h : val b ≤ val a) : b.length ≤ a.length := by
  by_cases hn : b = []
  · simp [hn]
  · have l := canon_low hb hn
    have u := val_lt ha
    rcases Nat.lt_or_ge a.length b.length with g | g
    · have := Nat.pow_le_pow_right (n := 65536) (by omega) (show a.length ≤ b.length - 1 by omega)
      omega
    · exact g

theorem less_done {a b out : List Nat} {o : Nat} (ho : o ≤ 1) (hd : Dig out) (hl : out.length = a.length) (hle : val b ≤ val a) (hlen : b.length ≤ a.length)
    (h : val out + val (b.take a.length) = val (a.take a.length) + 65536 ^ a.length * o) : val out = val a - val b := by
  rw [val_take_all hlen, val_take_all (Nat.le_refl _)] at h
  have u := val_lt hd
  rw [hl] at u
  rcases Nat.eq_zero_or_pos o with rfl | g
  · omega
  · obtain rfl : o = 1 := by omega
    omega

/-- From the top: the first digit in which two rows of one length part. -/
theorem less_at {a b : List Nat} {i : Nat} (ha : Dig a) (hl : a.length = b.length) (hi : i < a.length) (hd : a.drop (i + 1) = b.drop (i + 1)) (h : a.getD i 0 < b.getD i 0) : val a < val b := by
  have ea : a = a.take (i + 1) ++ a.drop (i + 1) := (List.take_append_drop _ _).symm
  have eb : b = b.take (i + 1) ++ b.drop (i + 1) := (List.take_append_drop _ _).symm
  have la : (a.take (i + 1)).length = i + 1 := by simp; omega
  have lb : (b.take (i + 1)).length = i + 1 := by simp; omega
  have va : val a = val (a.take (i + 1)) + 65536 ^ (i + 1) * val (a.drop (i + 1)) := by conv => lhs; rw [ea]; rw [val_append, la]
  have vb : val b = val (b.take (i + 1)) + 65536 ^ (i + 1) * val (b.drop (i + 1)) := by conv => lhs; rw [eb]; rw [val_append, lb]
  rw [va, vb, hd, val_take_succ, val_take_succ]
  have u : val (a.take i) < 65536 ^ i := by
    have := val_lt (ds := a.take i) (fun d hd => ha d (List.mem_of_mem_take hd))
    rw [List.length_take, Nat.min_eq_left (by omega)] at this
    exact this
  have : 65536 ^ i * (a.getD i 0 + 1) ≤ 65536 ^ i * b.getD i 0 := Nat.mul_le_mul_left _ (by omega)
  rw [Nat.mul_add] at this
  omega

theorem less_len {a b : List Nat} (ha : Dig a) (hb : Canon b) (h : a.length < b.length) : val a < val b := by
  have hn : b ≠ [] := by rintro rfl; simp at h
  have l := canon_low hb hn
  have u := val_lt ha
  have := Nat.pow_le_pow_right (n := 65536) (by omega) (show a.length ≤ b.length - 1 by omega)
  omega

/-- Digits of a number, one after the other: what is left stands above them. -/
theorem of_step {out : List Nat} {n t : Nat} (h : val out + 65536 ^ out.length * n = t) : val (out ++ [n % 65536]) + 65536 ^ (out ++ [n % 65536]).length * (n / 65536) = t := by
  rw [val_snoc, List.length_append]
  have e : 65536 ^ out.length * (n % 65536) + 65536 ^ (out.length + 1) * (n / 65536) = 65536 ^ out.length * n := by
    rw [Nat.pow_succ, Nat.mul_assoc, ← Nat.mul_add, Nat.mod_add_div]
  simp only [List.length_singleton]
  omega

theorem canon_snoc {a : List Nat} {d : Nat} (h : d ≠ 0) : Canon (a ++ [d]) := by
  intro x hx
  simp at hx
  omega

theorem canon_nil : Canon [] := by intro d h; simp at h

/-- Zeros at the high end tell nothing. -/
theorem trim_step {a : List Nat} {n : Nat} (hz : a.getD n 0 = 0) : val (a.take n) = val (a.take (n + 1)) := by
  rw [val_take_succ, hz]; simp

theorem canon_take {a : List Nat} {n : Nat} (h : n + 1 ≤ a.length) (hz : a.getD n 0 ≠ 0) : Canon (a.take (n + 1)) := by
  rw [List.take_succ_eq_append_getElem (by omega)]
  refine canon_snoc ?_
  rw [List.getD_eq_getElem?_getD, List.getElem?_eq_getElem (by omega)] at hz
  exact hz

theorem val_drop_succ (a : List Nat) (i : Nat) (h : i < a.length) : val (a.drop i) = a.getD i 0 + 65536 * val (a.drop (i + 1)) := by
  rw [List.drop_eq_getElem_cons h, val, List.getD_eq_getElem?_getD, List.getElem?_eq_getElem h]; rfl

theorem canon_zero {a : List Nat} (h : Canon a) : val a = 0 ↔ a = [] := by
  constructor
  · intro hv
    by_cases hn : a = []
    · exact hn
    · have := canon_low h hn
      have := Nat.pow_pos (n := a.length - 1) (show 0 < 65536 by omega)
      omega
  · rintro rfl; rfl

/-- A canonical row is no longer than what it tells wants. -/
theorem canon_short {a : List Nat} (h : Canon a) (k : Nat) (hv : val a < 65536 ^ k) : a.length ≤ k := by
  by_cases hn : a = []
  · simp [hn]
  · have l := canon_low h hn
    rcases Nat.lt_or_ge k a.length with g | g
    · have := Nat.pow_le_pow_right (n := 65536) (by omega) (show k ≤ a.length - 1 by omega)
      omega
    · exact g

/-- One round of a digit times a row. -/
theorem times_step {b row : List Nat} {i k x c : Nat} (hl : row.length = i + k)
    (h : val row + 65536 ^ (i + k) * c = 65536 ^ i * (x * val (b.take k))) :
    val (row ++ [(x * b.getD k 0 + c) % 65536]) + 65536 ^ (i + (k + 1)) * ((x * b.getD k 0 + c) / 65536) = 65536 ^ i * (x * val (b.take (k + 1))) := by
  rw [val_snoc, hl, val_take_succ]
  obtain ⟨y, hy⟩ : ∃ y, y = b.getD k 0 := ⟨_, rfl⟩
  rw [← hy]
  obtain ⟨t, ht⟩ : ∃ t, t = x * y + c := ⟨_, rfl⟩
  rw [← ht]
  have e : 65536 ^ (i + k) * (t % 65536) + 65536 ^ (i + (k + 1)) * (t / 65536) = 65536 ^ (i + k) * t := by
    rw [show i + (k + 1) = i + k + 1 from rfl, Nat.pow_succ, Nat.mul_assoc, ← Nat.mul_add, Nat.mod_add_div]
  have e2 : 65536 ^ (i + k) * t = 65536 ^ (i + k) * (x * y) + 65536 ^ (i + k) * c := by rw [ht, Nat.mul_add]
  have e3 : 65536 ^ i * (x * (val (b.take k) + 65536 ^ k * y)) = 65536 ^ i * (x * val (b.take k)) + 65536 ^ (i + k) * (x * y) := by
    rw [Nat.mul_add, Nat.mul_add, Nat.pow_add, Nat.mul_left_comm x, Nat.mul_assoc]
  omega

theorem times_carry {x y c : Nat} (hx : x < 65536) (hy : y < 65536) (hc : c < 65536) : (x * y + c) / 65536 < 65536 ∧ x * y + c < 4294967296 := by
  have : x * y ≤ 65535 * 65535 := Nat.mul_le_mul (by omega) (by omega)
  omega

/-- At the greatest length nothing is carried. -/
theorem times_top {b row : List Nat} {i k x c : Nat} (hb : Dig b) (hx : x < 65536) (hk : k = b.length + 1) (h : val row + 65536 ^ (i + k) * c = 65536 ^ i * (x * val (b.take k))) : c = 0 := by
  rw [val_take_all (by omega)] at h
  have u := val_lt hb
  have p1 : x * val b < 65536 ^ (b.length + 1) := by
    rw [Nat.pow_succ, Nat.mul_comm (65536 ^ b.length)]
    have h1 : x * val b ≤ 65535 * val b := Nat.mul_le_mul_right _ (by omega)
    omega
  rw [Nat.pow_add, hk] at h
  rcases Nat.eq_zero_or_pos c with g | g
  · exact g
  · have p2 : 65536 ^ i * 65536 ^ (b.length + 1) * 1 ≤ 65536 ^ i * 65536 ^ (b.length + 1) * c := Nat.mul_le_mul_left _ g
    have p3 : 65536 ^ i * (x * val b) < 65536 ^ i * 65536 ^ (b.length + 1) := Nat.mul_lt_mul_of_pos_left p1 (Nat.pow_pos (by omega))
    omega

theorem val_zeros (i : Nat) : val (List.replicate i 0) = 0 := by
  induction i with
  | zero => rfl
  | succ n ih => simp [List.replicate_succ, val, ih]

theorem times_row {a b : List Nat} {i : Nat} : val (a.take (i + 1)) * val b = val (a.take i) * val b + 65536 ^ i * (a.getD i 0 * val b) := by
  rw [val_take_succ, Nat.add_mul, Nat.mul_assoc]

end Go.Proofs.Ytokhlagcflkocaa.BigM

