/- Layer 13 (heap): a heap of four, in plain lists: an order of items, going up and down, what is pushed, set, removed. No Go in sight. -/
import Derived.WalkKit
namespace Go.Proofs.Ytbfmmeapjfljbaa.HeapM

/-- An item. -/
structure It where
  id : Nat
  seq : Nat
  t : Int
theorem It.ext' {a b : It} (h : a.id = b.id) (h1 : a.seq = b.seq) (h2 : a.t = b.t) : a = b := by
  cases a; cases b; simp_all
def zeroI : It := ⟨0, 0, 0⟩
instance itDec : DecidableEq It := fun a b =>
  if h : a.id = b.id ∧ a.seq = b.seq ∧ a.t = b.t then isTrue (It.ext' h.1 h.2.1 h.2.2) else isFalse (fun e => h (by subst e; exact ⟨rfl, rfl, rfl⟩))

/-- Is an item ahead of another one? -/
def ahd (a b : It) : Bool := if a.t = b.t then (if a.seq = b.seq then decide (a.id < b.id) else decide (a.seq < b.seq)) else decide (a.t < b.t)
theorem ahd_iff {a b : It} : ahd a b = true ↔ a.t < b.t ∨ (a.t = b.t ∧ (a.seq < b.seq ∨ (a.seq = b.seq ∧ a.id < b.id))) := by
  unfold ahd
  split
  · split
    · simp only [decide_eq_true_eq]; omega
    · simp only [decide_eq_true_eq]; omega
  · simp only [decide_eq_true_eq]; omega
theorem nah_iff {a b : It} : ahd a b = false ↔ ¬ (a.t < b.t ∨ (a.t = b.t ∧ (a.seq < b.seq ∨ (a.seq = b.seq ∧ a.id < b.id)))) := by
  rw [← ahd_iff]; simp
theorem ahd_irrefl (a : It) : ahd a a = false := by rw [nah_iff]; omega
theorem ahd_trans {a b c : It} (h : ahd a b = true) (k : ahd b c = true) : ahd a c = true := by rw [ahd_iff] at *; omega
theorem ahd_asymm {a b : It} (h : ahd a b = true) : ahd b a = false := by rw [ahd_iff] at h; rw [nah_iff]; omega
/-- Not ahead: b is not behind c, a not behind b. -/
theorem nah_trans {a b c : It} (h : ahd b a = false) (k : ahd c b = false) : ahd c a = false := by rw [nah_iff] at *; omega
theorem nah_ahd {a b c : It} (h : ahd a b = true) (k : ahd c b = false) : ahd c a = false := nah_trans (ahd_asymm h) k
theorem nah_eq {a b : It} (h : ahd a b = false) (k : ahd b a = false) : a = b := by
  rw [nah_iff] at *
  exact It.ext' (by omega) (by omega) (by omega)
theorem ahd_total {a b : It} (h : a ≠ b) : ahd a b = !ahd b a := by
  cases e : ahd b a with
  | true => rw [ahd_asymm e]; rfl
  | false =>
    cases f : ahd a b with
    | true => rfl
    | false => exact absurd (nah_eq f e) h

/-- The item of a place. -/
def gt (l : List It) (k : Nat) : It := l.getD k zeroI
theorem gt_of {l : List It} {k : Nat} (h : k < l.length) : gt l k = l[k] := by
  unfold gt
  rw [List.getD_eq_getElem?_getD, List.getElem?_eq_getElem h]
  rfl
theorem gt_mem {l : List It} {k : Nat} (h : k < l.length) : gt l k ∈ l := by rw [gt_of h]; exact List.getElem_mem h
theorem gt_set {l : List It} {i j : Nat} {x : It} (h : i < l.length) : gt (l.set i x) j = if i = j then x else gt l j := by
  unfold gt
  rw [List.getD_eq_getElem?_getD, List.getD_eq_getElem?_getD, List.getElem?_set]
  by_cases e : i = j
  · subst e; rw [if_pos rfl, if_pos rfl, if_pos h]; rfl
  · rw [if_neg e, if_neg e]
theorem gt_append {l : List It} {x : It} {j : Nat} : gt (l ++ [x]) j = if j = l.length then x else gt l j := by
  unfold gt
  rw [List.getD_eq_getElem?_getD, List.getD_eq_getElem?_getD]
  by_cases e : j = l.length
  · subst e; rw [if_pos rfl, List.getElem?_append_right (Nat.le_refl _)]; simp
  · rw [if_neg e]
    by_cases h : j < l.length
    · rw [List.getElem?_append_left h]
    · rw [List.getElem?_eq_none (by simp; omega), List.getElem?_eq_none (by omega)]
theorem gt_take {l : List It} {n j : Nat} (h : j < n) : gt (l.take n) j = gt l j := by
  unfold gt
  rw [List.getD_eq_getElem?_getD, List.getD_eq_getElem?_getD, List.getElem?_take, if_pos h]

/-- Two items change places. -/
def sw (l : List It) (i k : Nat) : List It := (l.set i (gt l k)).set k (gt l i)
theorem sw_len (l : List It) (i k : Nat) : (sw l i k).length = l.length := by unfold sw; simp
theorem gt_sw {l : List It} {i k : Nat} (hi : i < l.length) (hk : k < l.length) (j : Nat) : gt (sw l i k) j = if k = j then gt l i else if i = j then gt l k else gt l j := by
  unfold sw
  rw [gt_set (by simp; omega), gt_set hi]
theorem sw_perm {l : List It} {i k : Nat} (hi : i < l.length) (hk : k < l.length) : (sw l i k).Perm l := by
  unfold sw
  rw [gt_of hi, gt_of hk]
  exact List.set_set_perm hi hk

/-- The parent's place. -/
def par (k : Nat) : Nat := (k - 1) / 4
theorem par_lt {k : Nat} (h : 0 < k) : par k < k := by unfold par; omega

/-- Going up. -/
def upF : Nat → List It → Nat → List It
  | 0, l, _ => l
  | f + 1, l, k => if k = 0 then l else if ahd (gt l k) (gt l (par k)) then upF f (sw l k (par k)) (par k) else l
def upL (l : List It) (k : Nat) : List It := upF k l k
/-- Does it go up at all? -/
def upB (l : List It) (k : Nat) : Bool := decide (0 < k) && ahd (gt l k) (gt l (par k))
theorem upF_eq : ∀ (f g : Nat) (l : List It) (k : Nat), k ≤ f → k ≤ g → upF f l k = upF g l k
  | 0, 0, _, _, _, _ => rfl
  | 0, g + 1, l, k, h, _ => by
    obtain rfl : k = 0 := by omega
    rfl
  | f + 1, 0, l, k, _, h => by
    obtain rfl : k = 0 := by omega
    rfl
  | f + 1, g + 1, l, k, h1, h2 => by
    unfold upF
    by_cases e : k = 0
    · rw [if_pos e, if_pos e]
    · rw [if_neg e, if_neg e]
      have := par_lt (k := k) (by omega)
      rw [upF_eq f g (sw l k (par k)) (par k) (by omega) (by omega)]
theorem upL_zero (l : List It) : upL l 0 = l := rfl
theorem upL_stop {l : List It} {k : Nat} (h : ahd (gt l k) (gt l (par k)) = false) : upL l k = l := by
  unfold upL
  cases k with
  | zero => rfl
  | succ k => unfold upF; rw [if_neg (by omega), if_neg (by simp [h])]
theorem upL_go {l : List It} {k : Nat} (h0 : 0 < k) (h : ahd (gt l k) (gt l (par k)) = true) : upL l k = upL (sw l k (par k)) (par k) := by
  obtain ⟨j, rfl⟩ : ∃ j, k = j + 1 := ⟨k - 1, by omega⟩
  show (if j + 1 = 0 then l else if ahd (gt l (j + 1)) (gt l (par (j + 1))) = true then upF j (sw l (j + 1) (par (j + 1))) (par (j + 1)) else l) = upF (par (j + 1)) (sw l (j + 1) (par (j + 1))) (par (j + 1))
  rw [if_neg (by omega), if_pos h]
  have := par_lt h0
  exact upF_eq j (par (j + 1)) _ _ (by omega) (Nat.le_refl _)
theorem upL_stay {l : List It} {k : Nat} (h : upB l k = false) : upL l k = l := by
  unfold upB at h
  by_cases k0 : 0 < k
  · rw [decide_eq_true k0, Bool.true_and] at h
    exact upL_stop h
  · obtain rfl : k = 0 := by omega
    rfl

/-- The place of a place and its children that is ahead of the others. -/
def bestF (l : List It) (k : Nat) : Nat → Nat
  | 0 => k
  | i + 1 => if 4 * k + 1 + i < l.length ∧ ahd (gt l (4 * k + 1 + i)) (gt l (bestF l k i)) = true then 4 * k + 1 + i else bestF l k i
def best (l : List It) (k : Nat) : Nat := bestF l k 4
theorem bestF_in (l : List It) (k : Nat) : ∀ i, bestF l k i = k ∨ (4 * k + 1 ≤ bestF l k i ∧ bestF l k i < 4 * k + 1 + i ∧ bestF l k i < l.length)
  | 0 => .inl rfl
  | i + 1 => by
    unfold bestF
    by_cases h : 4 * k + 1 + i < l.length ∧ ahd (gt l (4 * k + 1 + i)) (gt l (bestF l k i)) = true
    · rw [if_pos h]; exact .inr ⟨by omega, by omega, h.1⟩
    · rw [if_neg h]
      rcases bestF_in l k i with e | ⟨a, b, c⟩
      · exact .inl e
      · exact .inr ⟨a, by omega, c⟩
theorem best_in (l : List It) (k : Nat) : best l k = k ∨ (4 * k + 1 ≤ best l k ∧ best l k < 4 * k + 5 ∧ best l k < l.length) := bestF_in l k 4
theorem bestF_self (l : List It) (k : Nat) : ∀ i, ahd (gt l k) (gt l (bestF l k i)) = false
  | 0 => ahd_irrefl _
  | i + 1 => by
    unfold bestF
    by_cases h : 4 * k + 1 + i < l.length ∧ ahd (gt l (4 * k + 1 + i)) (gt l (bestF l k i)) = true
    · rw [if_pos h]; exact nah_ahd h.2 (bestF_self l k i)
    · rw [if_neg h]; exact bestF_self l k i
theorem bestF_least (l : List It) (k : Nat) : ∀ i j, 4 * k + 1 ≤ j → j < 4 * k + 1 + i → j < l.length → ahd (gt l j) (gt l (bestF l k i)) = false
  | 0, j, a, b, _ => by omega
  | i + 1, j, a, b, c => by
    unfold bestF
    by_cases h : 4 * k + 1 + i < l.length ∧ ahd (gt l (4 * k + 1 + i)) (gt l (bestF l k i)) = true
    · rw [if_pos h]
      by_cases e : j = 4 * k + 1 + i
      · subst e; exact ahd_irrefl _
      · exact nah_ahd h.2 (bestF_least l k i j a (by omega) c)
    · rw [if_neg h]
      by_cases e : j = 4 * k + 1 + i
      · subst e
        cases g : ahd (gt l (4 * k + 1 + i)) (gt l (bestF l k i)) with
        | false => rfl
        | true => exact absurd ⟨c, g⟩ h
      · exact bestF_least l k i j a (by omega) c
theorem par_child {k j : Nat} (h0 : 0 < j) (h : par j = k) : 4 * k + 1 ≤ j ∧ j < 4 * k + 5 := by unfold par at h; omega
theorem child_par {k j : Nat} (h : 4 * k + 1 ≤ j) (h' : j < 4 * k + 5) : par j = k := by unfold par; omega
theorem best_least {l : List It} {k j : Nat} (h0 : 0 < j) (h : par j = k) (hj : j < l.length) : ahd (gt l j) (gt l (best l k)) = false := by
  have := par_child h0 h
  exact bestF_least l k 4 j this.1 (by omega) hj
theorem bestF_ahd (l : List It) (k : Nat) : ∀ i, bestF l k i ≠ k → ahd (gt l (bestF l k i)) (gt l k) = true
  | 0, h => absurd rfl h
  | i + 1, h => by
    unfold bestF at h ⊢
    by_cases g : 4 * k + 1 + i < l.length ∧ ahd (gt l (4 * k + 1 + i)) (gt l (bestF l k i)) = true
    · rw [if_pos g]
      by_cases e : bestF l k i = k
      · have := g.2; rw [e] at this; exact this
      · exact ahd_trans g.2 (bestF_ahd l k i e)
    · rw [if_neg g] at h ⊢
      exact bestF_ahd l k i h
theorem best_ahd {l : List It} {k : Nat} (h : best l k ≠ k) : ahd (gt l (best l k)) (gt l k) = true := bestF_ahd l k 4 h

/-- Going down. -/
def downF : Nat → List It → Nat → List It
  | 0, l, _ => l
  | f + 1, l, k => if best l k = k then l else downF f (sw l k (best l k)) (best l k)
def downL (l : List It) (k : Nat) : List It := downF (l.length - k) l k
theorem downF_eq : ∀ (f g : Nat) (l : List It) (k : Nat), l.length - k ≤ f → l.length - k ≤ g → downF f l k = downF g l k
  | 0, 0, _, _, _, _ => rfl
  | 0, g + 1, l, k, h, _ => by
    unfold downF
    rcases best_in l k with e | ⟨a, b, c⟩
    · rw [if_pos e]
    · omega
  | f + 1, 0, l, k, _, h => by
    unfold downF
    rcases best_in l k with e | ⟨a, b, c⟩
    · rw [if_pos e]
    · omega
  | f + 1, g + 1, l, k, h1, h2 => by
    unfold downF
    rcases best_in l k with e | ⟨a, b, c⟩
    · rw [if_pos e, if_pos e]
    · rw [if_neg (by omega), if_neg (by omega)]
      exact downF_eq f g _ _ (by rw [sw_len]; omega) (by rw [sw_len]; omega)
theorem downL_stop {l : List It} {k : Nat} (h : best l k = k) : downL l k = l := by
  unfold downL
  cases l.length - k with
  | zero => rfl
  | succ f => unfold downF; rw [if_pos h]
theorem downL_go {l : List It} {k : Nat} (h : best l k ≠ k) : downL l k = downL (sw l k (best l k)) (best l k) := by
  have b := best_in l k
  unfold downL
  obtain ⟨f, hf⟩ : ∃ f, l.length - k = f + 1 := ⟨l.length - k - 1, by omega⟩
  rw [hf]
  show (if best l k = k then l else downF f (sw l k (best l k)) (best l k)) = _
  rw [if_neg h]
  exact downF_eq _ _ _ _ (by rw [sw_len]; omega) (Nat.le_refl _)

/-- It goes up, and, if it did not, down. -/
def settleL (l : List It) (k : Nat) : List It := if upB l k = true then upL l k else downL l k
def pushL (l : List It) (x : It) : List It := upL (l ++ [x]) l.length
def setL (l : List It) (k : Nat) (x : It) : List It := settleL (l.set k x) k
def remL (l : List It) (k : Nat) : List It := if k < l.length - 1 then settleL ((l.take (l.length - 1)).set k (gt l (l.length - 1))) k else l.take (l.length - 1)

/-! ### How long, which items -/
theorem upF_perm : ∀ (f : Nat) (l : List It) (k : Nat), k < l.length → (upF f l k).Perm l
  | 0, l, _, _ => List.Perm.refl l
  | f + 1, l, k, h => by
    unfold upF
    by_cases e : k = 0
    · rw [if_pos e]
    · rw [if_neg e]
      split
      · have p := par_lt (k := k) (by omega)
        exact (upF_perm f _ _ (by rw [sw_len]; omega)).trans (sw_perm h (by omega))
      · exact List.Perm.refl l
theorem upL_perm {l : List It} {k : Nat} (h : k < l.length) : (upL l k).Perm l := upF_perm k l k h
theorem downF_perm : ∀ (f : Nat) (l : List It) (k : Nat), k < l.length → (downF f l k).Perm l
  | 0, l, _, _ => List.Perm.refl l
  | f + 1, l, k, h => by
    unfold downF
    rcases best_in l k with e | ⟨a, b, c⟩
    · rw [if_pos e]
    · rw [if_neg (by omega)]
      exact (downF_perm f _ _ (by rw [sw_len]; exact c)).trans (sw_perm h c)
theorem downL_perm {l : List It} {k : Nat} (h : k < l.length) : (downL l k).Perm l := downF_perm _ l k h
theorem settle_perm {l : List It} {k : Nat} (h : k < l.length) : (settleL l k).Perm l := by
  unfold settleL
  split
  · exact upL_perm h
  · exact downL_perm h
theorem push_perm (l : List It) (x : It) : (pushL l x).Perm (x :: l) := (upL_perm (by simp)).trans (List.perm_append_comm (l₁ := l) (l₂ := [x]))
theorem push_len (l : List It) (x : It) : (pushL l x).length = l.length + 1 := by rw [(push_perm l x).length_eq]; rfl
theorem set_perm' {l : List It} {k : Nat} (x : It) (h : k < l.length) : (setL l k x).Perm (l.set k x) := settle_perm (by simpa using h)
theorem set_len {l : List It} {k : Nat} (x : It) (h : k < l.length) : (setL l k x).length = l.length := by rw [(set_perm' x h).length_eq]; simp
theorem set_cons_perm : ∀ {l : List It} {k : Nat} (x : It) (_ : k < l.length), (gt l k :: l.set k x).Perm (x :: l)
  | a :: l, 0, x, _ => by show (a :: x :: l).Perm (x :: a :: l); exact List.Perm.swap _ _ _
  | a :: l, k + 1, x, h => by
    have h' : k < l.length := by simpa using h
    show (gt l k :: a :: l.set k x).Perm (x :: a :: l)
    exact (List.Perm.swap _ _ _).trans ((List.Perm.cons _ (set_cons_perm x h')).trans (List.Perm.swap _ _ _))
theorem take_last {l : List It} (h : 0 < l.length) : l.take (l.length - 1) ++ [gt l (l.length - 1)] = l := by
  have h1 : l.length - 1 < l.length := by omega
  have e : l.take (l.length - 1 + 1) = l.take (l.length - 1) ++ [l[l.length - 1]] := List.take_succ_eq_append_getElem h1
  rw [gt_of h1, ← e, show l.length - 1 + 1 = l.length by omega, List.take_length]
theorem rem_perm {l : List It} {k : Nat} (h : k < l.length) : (gt l k :: remL l k).Perm l := by
  unfold remL
  have h0 : 0 < l.length := by omega
  have tl := take_last h0
  by_cases e : k < l.length - 1
  · rw [if_pos e]
    have lt : k < (l.take (l.length - 1)).length := by rw [List.length_take]; omega
    have p := settle_perm (l := (l.take (l.length - 1)).set k (gt l (l.length - 1))) (k := k) (by simpa using lt)
    have q := set_cons_perm (gt l (l.length - 1)) lt
    rw [gt_take e] at q
    have r := List.perm_append_comm (l₁ := l.take (l.length - 1)) (l₂ := [gt l (l.length - 1)])
    rw [tl] at r
    exact ((List.Perm.cons _ p).trans q).trans r.symm
  · rw [if_neg e]
    have ek : k = l.length - 1 := by omega
    have r := List.perm_append_comm (l₁ := l.take (l.length - 1)) (l₂ := [gt l (l.length - 1)])
    rw [tl] at r
    rw [ek]
    exact r.symm
theorem rem_len {l : List It} {k : Nat} (h : k < l.length) : (remL l k).length = l.length - 1 := by
  have := (rem_perm h).length_eq
  simp at this
  omega

/-! ### The order -/
/-- No item is ahead of its parent. -/
def Heap (l : List It) : Prop := ∀ k, 0 < k → k < l.length → ahd (gt l k) (gt l (par k)) = false
theorem Heap.nil : Heap [] := fun k _ h => by simp at h
theorem Heap.first {l : List It} (h : Heap l) : ∀ k, k < l.length → ahd (gt l k) (gt l 0) = false := by
  intro k
  induction k using Nat.strongRecOn with
  | _ k ih =>
    intro hk
    by_cases e : k = 0
    · subst e; exact ahd_irrefl _
    · have p := par_lt (k := k) (by omega)
      exact nah_trans (ih _ p (by omega)) (h k (by omega) hk)

/-- All but the item of place k stand as they should, and its children are not ahead of its parent. -/
structure But (l : List It) (k : Nat) : Prop where
  ok : ∀ j, 0 < j → j < l.length → j ≠ k → par j ≠ k → ahd (gt l j) (gt l (par j)) = false
  far : ∀ c, 0 < c → c < l.length → par c = k → 0 < k → ahd (gt l c) (gt l (par k)) = false
theorem up_heap : ∀ (k : Nat) (l : List It), k < l.length → But l k → (∀ c, 0 < c → c < l.length → par c = k → ahd (gt l c) (gt l k) = false) → Heap (upL l k) := by
  intro k
  induction k using Nat.strongRecOn with
  | _ k ih =>
    intro l hk b kids
    by_cases k0 : 0 < k
    · have p := par_lt k0
      have hp : par k < l.length := by omega
      cases g : ahd (gt l k) (gt l (par k)) with
      | false =>
        rw [upL_stop g]
        intro j j0 j1
        by_cases e : j = k
        · subst e; exact g
        · by_cases e2 : par j = k
          · rw [e2]; exact kids j j0 j1 e2
          · exact b.ok j j0 j1 e e2
      | true =>
        rw [upL_go k0 g]
        have G := gt_sw hk hp
        refine ih (par k) p (sw l k (par k)) (by rw [sw_len]; exact hp) ⟨?_, ?_⟩ ?_
        · intro j j0 j1 e1 e2
          rw [sw_len] at j1
          rw [G, G, if_neg (Ne.symm e1), if_neg (Ne.symm e2)]
          by_cases e3 : k = j
          · exact absurd (by rw [← e3]) e2
          · rw [if_neg e3]
            by_cases e4 : k = par j
            · rw [if_pos e4]
              exact b.far j j0 j1 e4.symm k0
            · rw [if_neg e4]
              exact b.ok j j0 j1 (Ne.symm e3) (Ne.symm e4)
        · intro c c0 c1 e1 p0
          rw [sw_len] at c1
          have pp := par_lt p0
          have nc : par k ≠ c := by have := par_lt c0; omega
          rw [G, G, if_neg nc, if_neg (show par k ≠ par (par k) by omega), if_neg (show k ≠ par (par k) by omega)]
          have up := b.ok (par k) p0 hp (by omega) (by omega)
          by_cases e3 : k = c
          · rw [if_pos e3]; exact up
          · rw [if_neg e3]
            have s := b.ok c c0 c1 (Ne.symm e3) (by omega)
            rw [e1] at s
            exact nah_trans up s
        · intro c c0 c1 e1
          rw [sw_len] at c1
          have nc : par k ≠ c := by have := par_lt c0; omega
          rw [G, G, if_neg nc, if_pos rfl]
          by_cases e3 : k = c
          · rw [if_pos e3]; exact ahd_asymm g
          · rw [if_neg e3]
            have s := b.ok c c0 c1 (Ne.symm e3) (by omega)
            rw [e1] at s
            exact nah_ahd g s
    · obtain rfl : k = 0 := by omega
      rw [upL_zero]
      intro j j0 j1
      by_cases e2 : par j = 0
      · rw [e2]; exact kids j j0 j1 e2
      · exact b.ok j j0 j1 (by omega) e2

theorem down_heap : ∀ (m k : Nat) (l : List It), l.length - k ≤ m → k < l.length → But l k → (0 < k → ahd (gt l k) (gt l (par k)) = false) → Heap (downL l k) := by
  intro m
  induction m with
  | zero => intro k l h hk; omega
  | succ m ih =>
    intro k l hm hk b top
    by_cases g : best l k = k
    · rw [downL_stop g]
      intro j j0 j1
      by_cases e : j = k
      · subst e; exact top j0
      · by_cases e2 : par j = k
        · have s := best_least j0 e2 j1
          rw [g] at s
          rw [e2]; exact s
        · exact b.ok j j0 j1 e e2
    · rw [downL_go g]
      have hb := (best_in l k).resolve_left g
      have ah := best_ahd g
      have pb : par (best l k) = k := child_par hb.1 hb.2.1
      have least := fun j j0 j1 (e : par j = k) => best_least (l := l) j0 e j1
      generalize best l k = c at *
      have G := gt_sw hk hb.2.2
      refine ih c (sw l k c) (by rw [sw_len]; omega) (by rw [sw_len]; exact hb.2.2) ⟨?_, ?_⟩ ?_
      · intro j j0 j1 e1 e2
        rw [sw_len] at j1
        rw [G, G, if_neg (Ne.symm e1), if_neg (Ne.symm e2)]
        by_cases e3 : k = j
        · subst e3
          have pj := par_lt j0
          rw [if_pos rfl, if_neg (show k ≠ par k by omega)]
          exact b.far c (by omega) hb.2.2 pb j0
        · rw [if_neg e3]
          by_cases e4 : k = par j
          · rw [if_pos e4]
            exact least j j0 j1 e4.symm
          · rw [if_neg e4]
            exact b.ok j j0 j1 (Ne.symm e3) (Ne.symm e4)
      · intro j j0 j1 e1 c0
        rw [sw_len] at j1
        have pj := par_lt j0
        rw [G, G, pb, if_neg (show c ≠ j by omega), if_neg (show k ≠ j by omega), if_neg (show c ≠ k by omega), if_pos rfl]
        have s := b.ok j j0 j1 (by omega) (by omega)
        rw [e1] at s
        exact s
      · intro c0
        rw [G, G, pb, if_pos rfl, if_neg (show c ≠ k by omega), if_pos rfl]
        exact ahd_asymm ah

theorem settle_heap {l : List It} {k : Nat} (hk : k < l.length) (b : But l k) : Heap (settleL l k) := by
  unfold settleL
  by_cases g : upB l k = true
  · rw [if_pos g]
    unfold upB at g
    simp only [Bool.and_eq_true, decide_eq_true_eq] at g
    refine up_heap k l hk b fun c c0 c1 e => ?_
    exact nah_ahd g.2 (b.far c c0 c1 e g.1)
  · rw [if_neg g]
    refine down_heap _ k l (Nat.le_refl _) hk b fun k0 => ?_
    unfold upB at g
    rw [decide_eq_true k0, Bool.true_and] at g
    simpa using g

theorem push_heap {l : List It} (x : It) (h : Heap l) : Heap (pushL l x) := by
  unfold pushL
  refine up_heap l.length (l ++ [x]) (by simp) ⟨?_, ?_⟩ ?_
  · intro j j0 j1 e1 e2
    have pj := par_lt j0
    simp at j1
    rw [gt_append, gt_append, if_neg e1, if_neg (by omega)]
    exact h j j0 (by omega)
  · intro c c0 c1 e k0
    have pj := par_lt c0
    simp at c1
    omega
  · intro c c0 c1 e
    have pj := par_lt c0
    simp at c1
    omega
theorem set_but {l : List It} {k : Nat} (x : It) (hk : k < l.length) (h : Heap l) : But (l.set k x) k := by
  constructor
  · intro j j0 j1 e1 e2
    simp at j1
    rw [gt_set hk, gt_set hk, if_neg (Ne.symm e1), if_neg (Ne.symm e2)]
    exact h j j0 j1
  · intro c c0 c1 e k0
    simp at c1
    have pk := par_lt k0
    have pc := par_lt c0
    rw [gt_set hk, gt_set hk, if_neg (by omega), if_neg (by omega)]
    have s := h c c0 c1
    rw [e] at s
    exact nah_trans (h k k0 hk) s
theorem set_heap {l : List It} {k : Nat} (x : It) (hk : k < l.length) (h : Heap l) : Heap (setL l k x) :=
  settle_heap (by simpa using hk) (set_but x hk h)
theorem take_heap {l : List It} (n : Nat) (h : Heap l) : Heap (l.take n) := by
  intro j j0 j1
  rw [List.length_take] at j1
  have pj := par_lt j0
  rw [gt_take (by omega), gt_take (by omega)]
  exact h j j0 (by omega)
theorem rem_heap {l : List It} (k : Nat) (h : Heap l) : Heap (remL l k) := by
  unfold remL
  by_cases e : k < l.length - 1
  · rw [if_pos e]
    have lt : k < (l.take (l.length - 1)).length := by rw [List.length_take]; omega
    exact settle_heap (by simpa using lt) (set_but _ lt (take_heap _ h))
  · rw [if_neg e]; exact take_heap _ h

/-! ### Where an item is -/
def Nod (l : List It) : Prop := (l.map It.id).Nodup
theorem Nod.perm {l m : List It} (p : l.Perm m) (h : Nod l) : Nod m := (p.map It.id).nodup_iff.1 h
theorem Nod.one {l : List It} (h : Nod l) {i k : Nat} (hi : i < l.length) (hk : k < l.length) (e : (gt l i).id = (gt l k).id) : i = k := by
  unfold Nod at h
  rw [gt_of hi, gt_of hk] at e
  have := (List.getElem_inj (h₀ := by simpa using hi) (h₁ := by simpa using hk) h).1 (by simpa using e)
  exact this
/-- The first place of an id. -/
def place (l : List It) (d : Nat) : Option Nat := l.findIdx? (fun x => decide (x.id = d))
theorem place_some {l : List It} {d k : Nat} (h : place l d = some k) : k < l.length ∧ (gt l k).id = d := by
  unfold place at h
  obtain ⟨hk, hd, -⟩ := List.findIdx?_eq_some_iff_getElem.1 h
  exact ⟨hk, by rw [gt_of hk]; simpa using hd⟩
theorem place_none {l : List It} {d : Nat} (h : place l d = none) {k : Nat} (hk : k < l.length) : (gt l k).id ≠ d := by
  unfold place at h
  have := List.findIdx?_eq_none_iff.1 h _ (gt_mem hk)
  simpa using this
theorem place_of {l : List It} (n : Nod l) {d k : Nat} (hk : k < l.length) (e : (gt l k).id = d) : place l d = some k := by
  cases h : place l d with
  | none => exact absurd e (place_none h hk)
  | some j =>
    have p := place_some h
    rw [n.one p.1 hk (by rw [p.2, e])]
theorem place_not {l : List It} {d : Nat} (h : ∀ k, k < l.length → (gt l k).id ≠ d) : place l d = none := by
  cases e : place l d with
  | none => rfl
  | some j => exact absurd (place_some e).2 (h j (place_some e).1)
end Go.Proofs.Ytbfmmeapjfljbaa.HeapM

