/- Numbers to the base 256, as lists of digits: layer 3 (octet). No program. -/
import Derived.WalkKit
namespace Go.Proofs.OctM

/-- digits to the base 256. -/
def Byt (ds : List Nat) : Prop := ∀ d ∈ ds, d < 256
instance (ds : List Nat) : Decidable (Byt ds) := by unfold Byt; exact inferInstance
def numN (ds : List Nat) : Nat := ds.foldl (fun n d => n * 256 + d) 0
/-- a number's s lowest digits, the highest one first. -/
def digN (n : Nat) : Nat → List Nat
  | 0 => []
  | s + 1 => digN (n / 256) s ++ [n % 256]
theorem numN_nil : numN [] = 0 := rfl
theorem numN_snoc (ds : List Nat) (d : Nat) : numN (ds ++ [d]) = numN ds * 256 + d := by unfold numN; rw [List.foldl_append]; rfl
theorem digN_len (n s : Nat) : (digN n s).length = s := by
  induction s generalizing n with
  | zero => rfl
  | succ s ih => unfold digN; rw [List.length_append, ih]; rfl
theorem digN_byt (n s : Nat) : Byt (digN n s) := by
  induction s generalizing n with
  | zero => intro d hd; simp [digN] at hd
  | succ s ih =>
    intro d hd
    unfold digN at hd
    rcases List.mem_append.1 hd with h | h
    · exact ih _ d h
    · obtain rfl : d = n % 256 := by simpa using h
      exact Nat.mod_lt _ (by omega)
theorem byt_take {ds : List Nat} (h : Byt ds) (k : Nat) : Byt (ds.take k) := fun d hd => h d (List.mem_of_mem_take hd)
theorem byt_drop {ds : List Nat} (h : Byt ds) (k : Nat) : Byt (ds.drop k) := fun d hd => h d (List.mem_of_mem_drop hd)
theorem byt_append {a b : List Nat} (h : Byt a) (g : Byt b) : Byt (a ++ b) := fun d hd => (List.mem_append.1 hd).elim (h d) (g d)
theorem byt_get {ds : List Nat} (h : Byt ds) (i : Nat) : ds.getD i 0 < 256 := by
  rw [List.getD_eq_getElem?_getD]
  by_cases g : i < ds.length
  · rw [List.getElem?_eq_getElem g]; exact h _ (List.getElem_mem g)
  · rw [List.getElem?_eq_none (by omega)]; exact (by decide : (0 : Nat) < 256)
theorem take_next {ds : List Nat} {i : Nat} (h : i < ds.length) : ds.take (i + 1) = ds.take i ++ [ds.getD i 0] := by
  rw [List.take_succ_eq_append_getElem h, List.getD_eq_getElem?_getD, List.getElem?_eq_getElem h]; rfl
theorem snoc_of {ds : List Nat} {s : Nat} (h : ds.length = s + 1) : ∃ a d, ds = a ++ [d] ∧ a.length = s := by
  refine ⟨ds.take s, ds.getD s 0, ?_, by rw [List.length_take]; omega⟩
  rw [← take_next (by omega), List.take_of_length_le (by omega)]
theorem numN_lt {ds : List Nat} (h : Byt ds) : numN ds < 256 ^ ds.length := by
  obtain ⟨s, hs⟩ : ∃ s, s = ds.length := ⟨_, rfl⟩
  induction s generalizing ds with
  | zero => obtain rfl : ds = [] := List.length_eq_zero_iff.1 hs.symm; simp [numN_nil]
  | succ s ih =>
    obtain ⟨a, d, rfl, ha⟩ := snoc_of hs.symm
    have h1 := ih (fun x hx => h x (List.mem_append_left _ hx)) ha.symm
    have h2 : d < 256 := h d (by simp)
    rw [numN_snoc, List.length_append, Nat.pow_add]
    show _ < _ * 256 ^ 1
    omega
theorem num_dig (n s : Nat) : numN (digN n s) = n % 256 ^ s := by
  induction s generalizing n with
  | zero => rw [Nat.pow_zero, Nat.mod_one]; rfl
  | succ s ih =>
    show numN (digN (n / 256) s ++ [n % 256]) = _
    rw [numN_snoc, ih, Nat.pow_succ, Nat.mul_comm (256 ^ s) 256, Nat.mod_mul]
    omega
theorem dig_num {ds : List Nat} (h : Byt ds) : digN (numN ds) ds.length = ds := by
  obtain ⟨s, hs⟩ : ∃ s, s = ds.length := ⟨_, rfl⟩
  induction s generalizing ds with
  | zero => obtain rfl : ds = [] := List.length_eq_zero_iff.1 hs.symm; rfl
  | succ s ih =>
    obtain ⟨a, d, rfl, ha⟩ := snoc_of hs.symm
    have h1 := ih (fun x hx => h x (List.mem_append_left _ hx)) ha.symm
    have h2 : d < 256 := h d (by simp)
    rw [numN_snoc, List.length_append]
    show digN ((numN a * 256 + d) / 256) a.length ++ [(numN a * 256 + d) % 256] = _
    rw [show (numN a * 256 + d) / 256 = numN a by omega, show (numN a * 256 + d) % 256 = d by omega, h1]
/-- the digit at a place. -/
theorem dig_at (n s i : Nat) (h : i < s) : (digN n s).getD i 0 = n / 256 ^ (s - 1 - i) % 256 := by
  induction s generalizing n with
  | zero => omega
  | succ s ih =>
    show (digN (n / 256) s ++ [n % 256]).getD i 0 = _
    by_cases g : i < s
    · rw [List.getD_eq_getElem?_getD, List.getElem?_append_left (by rw [digN_len]; exact g), ← List.getD_eq_getElem?_getD, ih _ g, Nat.div_div_eq_div_mul, show s + 1 - 1 - i = (s - 1 - i) + 1 by omega, Nat.pow_succ, Nat.mul_comm 256]
    · obtain rfl : i = s := by omega
      rw [List.getD_eq_getElem?_getD, List.getElem?_append_right (by rw [digN_len]; omega), digN_len]
      simp
theorem fits_iff (n s : Nat) : n / 256 ^ s = 0 ↔ n < 256 ^ s := by
  have p : 0 < 256 ^ s := Nat.pow_pos (by omega)
  rw [Nat.div_eq_zero_iff]
  omega
theorem div_step (n k : Nat) : n / 256 ^ k / 256 = n / 256 ^ (k + 1) := by rw [Nat.div_div_eq_div_mul, ← Nat.pow_succ]

/-- sizes. -/
def okS (z : Int) : Prop := 1 ≤ z ∧ z ≤ 8
instance (z : Int) : Decidable (okS z) := by unfold okS; exact inferInstance
def okAll (zs : List Int) : Prop := ∀ z ∈ zs, okS z
instance (zs : List Int) : Decidable (okAll zs) := by unfold okAll; exact inferInstance
def sumI (zs : List Int) : Int := zs.foldl (fun a z => a + z) 0
theorem sumI_snoc (zs : List Int) (z : Int) : sumI (zs ++ [z]) = sumI zs + z := by unfold sumI; rw [List.foldl_append]; rfl
theorem takeI_next {zs : List Int} {i : Nat} (h : i < zs.length) : zs.take (i + 1) = zs.take i ++ [zs.getD i 0] := by
  rw [List.take_succ_eq_append_getElem h, List.getD_eq_getElem?_getD, List.getElem?_eq_getElem h]; rfl
theorem okAll_snoc {zs : List Int} {z : Int} (h : okAll zs) (g : okS z) : okAll (zs ++ [z]) := by
  intro x hx
  rcases List.mem_append.1 hx with h' | h'
  · exact h x h'
  · obtain rfl : x = z := by simpa using h'
    exact g
theorem okAll_get {zs : List Int} (h : okAll zs) {i : Nat} (hi : i < zs.length) : okS (zs.getD i 0) := by
  rw [List.getD_eq_getElem?_getD, List.getElem?_eq_getElem hi]
  exact h _ (List.getElem_mem hi)
theorem sumI_le {zs : List Int} (h : okAll zs) : (zs.length : Int) ≤ sumI zs ∧ sumI zs ≤ 8 * zs.length := by
  obtain ⟨s, hs⟩ : ∃ s, s = zs.length := ⟨_, rfl⟩
  induction s generalizing zs with
  | zero => obtain rfl : zs = [] := List.length_eq_zero_iff.1 hs.symm; decide
  | succ s ih =>
    have e : zs = zs.take s ++ [zs.getD s 0] := by rw [← takeI_next (by omega), List.take_of_length_le (by omega)]
    have a := okAll_get h (i := s) (by omega)
    have l : (zs.take s).length = s := by rw [List.length_take]; omega
    have b := ih (zs := zs.take s) (fun x hx => h x (List.mem_of_mem_take hx)) l.symm
    rw [e, sumI_snoc, List.length_append, l]
    rw [l] at b
    unfold okS at a
    simp only [List.length_cons, List.length_nil]
    omega

/-- what is wanting to the full round, less one. -/
def flip (ds : List Nat) : List Nat := ds.map fun d => 255 - d
theorem flip_len (ds : List Nat) : (flip ds).length = ds.length := List.length_map _
theorem flip_byt (ds : List Nat) : Byt (flip ds) := by
  intro d hd
  obtain ⟨x, _, rfl⟩ := List.mem_map.1 hd
  omega
theorem flip_num {ds : List Nat} (h : Byt ds) : numN (flip ds) + numN ds + 1 = 256 ^ ds.length := by
  obtain ⟨s, hs⟩ : ∃ s, s = ds.length := ⟨_, rfl⟩
  induction s generalizing ds with
  | zero => obtain rfl : ds = [] := List.length_eq_zero_iff.1 hs.symm; rfl
  | succ s ih =>
    obtain ⟨a, d, rfl, ha⟩ := snoc_of hs.symm
    have h1 := ih (fun x hx => h x (List.mem_append_left _ hx)) ha.symm
    have h2 : d < 256 := h d (by simp)
    have e : flip (a ++ [d]) = flip a ++ [255 - d] := by unfold flip; rw [List.map_append]; rfl
    rw [e, numN_snoc, numN_snoc, List.length_append, Nat.pow_add]
    show _ = _ * 256 ^ 1
    omega
theorem flip_dig {n s : Nat} (h : n < 256 ^ s) : numN (flip (digN n s)) = 256 ^ s - 1 - n := by
  have a := flip_num (digN_byt n s)
  rw [num_dig, digN_len, Nat.mod_eq_of_lt h] at a
  omega
theorem flip_get (ds : List Nat) (i : Nat) (h : i < ds.length) : (flip ds).getD i 0 = 255 - ds.getD i 0 := by
  unfold flip
  rw [List.getD_eq_getElem?_getD, List.getElem?_map, List.getElem?_eq_getElem h, List.getD_eq_getElem?_getD, List.getElem?_eq_getElem h]; rfl
theorem pow_split (s : Nat) (h : 1 ≤ s) : 256 ^ s = 256 * 256 ^ (s - 1) := by
  obtain ⟨t, rfl⟩ : ∃ t, s = t + 1 := ⟨s - 1, by omega⟩
  rw [Nat.add_sub_cancel, Nat.pow_succ, Nat.mul_comm]
theorem pow_le8 (s : Nat) (h : s ≤ 8) : 256 ^ s ≤ 18446744073709551616 := Nat.pow_le_pow_right (n := 256) (by omega) h
theorem half_le8 (s : Nat) (h1 : 1 ≤ s) (h : s ≤ 8) : 128 * 256 ^ (s - 1) ≤ 9223372036854775808 := by
  have := Nat.pow_le_pow_right (n := 256) (by omega) (show s - 1 ≤ 7 by omega)
  have e : 256 ^ 7 = 72057594037927936 := rfl
  rw [e] at this
  omega
/-- the highest digit. -/
theorem top_dig (n s : Nat) (h1 : 1 ≤ s) (h : n < 256 ^ s) : (digN n s).getD 0 0 < 128 ↔ n < 128 * 256 ^ (s - 1) := by
  have p : 0 < 256 ^ (s - 1) := Nat.pow_pos (by omega)
  rw [dig_at n s 0 (by omega), Nat.sub_zero]
  have e : n / 256 ^ (s - 1) < 256 := by
    rw [Nat.div_lt_iff_lt_mul p]
    rw [pow_split s h1] at h
    exact h
  rw [Nat.mod_eq_of_lt e, Nat.div_lt_iff_lt_mul p]
def halfN (s : Nat) : Nat := 128 * 256 ^ (s - 1)
def sgV (n s : Nat) : Int := if n < halfN s then (n : Int) else (n : Int) - (256 ^ s : Nat)
def absM (n : Int) : Nat := if n < 0 then (-(n + 1)).toNat else n.toNat
def unV (n : Int) (s : Nat) : Nat := if n < 0 then ((256 ^ s : Nat) + n).toNat else n.toNat
theorem two_halves (s : Nat) (h : 1 ≤ s) : 256 ^ s = halfN s + halfN s := by unfold halfN; rw [pow_split s h]; omega

/-- rows: the first k numbers, each in its size. -/
def layT (zs : List Int) (xs : List Nat) : Nat → List Nat
  | 0 => []
  | k + 1 => layT zs xs k ++ digN (xs.getD k 0) (zs.getD k 0).toNat
theorem layT_succ (zs : List Int) (xs : List Nat) (k : Nat) : layT zs xs (k + 1) = layT zs xs k ++ digN (xs.getD k 0) (zs.getD k 0).toNat := rfl
def fitT (zs : List Int) (xs : List Nat) (k : Nat) : Prop := ∀ i, i < k → xs.getD i 0 < 256 ^ (zs.getD i 0).toNat
instance (zs : List Int) (xs : List Nat) (k : Nat) : Decidable (fitT zs xs k) := by unfold fitT; exact inferInstance
theorem layT_byt (zs : List Int) (xs : List Nat) (k : Nat) : Byt (layT zs xs k) := by
  induction k with
  | zero => intro d hd; simp [layT] at hd
  | succ k ih => exact byt_append ih (digN_byt _ _)
theorem layT_len (zs : List Int) (xs : List Nat) (k : Nat) (h : okAll zs) (hk : k ≤ zs.length) : ((layT zs xs k).length : Int) = sumI (zs.take k) := by
  induction k with
  | zero => rfl
  | succ k ih =>
    have o := okAll_get h (i := k) (by omega)
    unfold okS at o
    rw [layT_succ, List.length_append, digN_len, takeI_next (by omega), sumI_snoc, ← ih (by omega)]
    omega
theorem layT_le (zs : List Int) (xs : List Nat) (k : Nat) (h : okAll zs) (hk : k ≤ zs.length) : (layT zs xs k).length ≤ 8 * k := by
  have a := layT_len zs xs k h hk
  have b := sumI_le (zs := zs.take k) (fun z hz => h z (List.mem_of_mem_take hz))
  rw [List.length_take, Nat.min_eq_left hk] at b
  omega
/-- the numbers of a row, as they are taken. -/
def atT (zs : List Int) (k : Nat) : Nat := (sumI (zs.take k)).toNat
def takT (zs : List Int) (ds : List Nat) : Nat → List Nat
  | 0 => []
  | k + 1 => takT zs ds k ++ [numN ((ds.drop (atT zs k)).take (zs.getD k 0).toNat)]
theorem takT_len (zs : List Int) (ds : List Nat) (k : Nat) : (takT zs ds k).length = k := by
  induction k with
  | zero => rfl
  | succ k ih => show (_ ++ [_]).length = _; rw [List.length_append, ih]; rfl
theorem sumI_mono {zs : List Int} (h : okAll zs) {j k : Nat} (hj : j ≤ k) (hk : k ≤ zs.length) : sumI (zs.take j) ≤ sumI (zs.take k) ∧ 0 ≤ sumI (zs.take j) := by
  have p : ∀ i, i ≤ zs.length → 0 ≤ sumI (zs.take i) := by
    intro i hi
    have b := sumI_le (zs := zs.take i) (fun z hz => h z (List.mem_of_mem_take hz))
    omega
  refine ⟨?_, p j (by omega)⟩
  induction k with
  | zero => obtain rfl : j = 0 := by omega
            exact Int.le_refl _
  | succ k ih =>
    by_cases e : j = k + 1
    · subst e; exact Int.le_refl _
    · have := ih (by omega) (by omega)
      have o := okAll_get h (i := k) (by omega)
      unfold okS at o
      rw [takeI_next (by omega), sumI_snoc]
      omega
theorem atT_succ {zs : List Int} (h : okAll zs) {k : Nat} (hk : k < zs.length) : atT zs (k + 1) = atT zs k + (zs.getD k 0).toNat := by
  unfold atT
  have o := okAll_get h (i := k) hk
  have p := (sumI_mono h (j := k) (k := k) (Nat.le_refl _) (by omega)).2
  unfold okS at o
  rw [takeI_next hk, sumI_snoc]
  omega
theorem atT_int {zs : List Int} (h : okAll zs) {k : Nat} (hk : k ≤ zs.length) : (atT zs k : Int) = sumI (zs.take k) := by
  unfold atT
  have p := (sumI_mono h (j := k) (k := k) (Nat.le_refl _) hk).2
  omega
theorem atT_mono {zs : List Int} (h : okAll zs) {j k : Nat} (hj : j ≤ k) (hk : k ≤ zs.length) : atT zs j ≤ atT zs k := by
  have a := (sumI_mono h hj hk).1
  unfold atT
  omega
theorem atT_all {zs : List Int} (h : okAll zs) : (atT zs zs.length : Int) = sumI zs := by
  rw [atT_int h (Nat.le_refl _), List.take_of_length_le (Nat.le_refl _)]
end Go.Proofs.OctM

