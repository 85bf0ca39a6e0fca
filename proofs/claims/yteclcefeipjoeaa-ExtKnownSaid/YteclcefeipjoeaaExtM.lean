/- Layer 5 (ext): what fields' bytes say when they are read, as functions of lists; there and back; cut anywhere; what a law makes of any fields. -/
import Derived.Test.YteclcefeipjoeaaExtC
namespace Go.Proofs.Yteclcefeipjoeaa
open Go.ChangeShapes Go.WideShapes Go.ChangeAt Go.RowKit OctM

def doneX (bs : List Nat) : Prop := bs.length = 0 ∨ bs.length = 12
instance (bs : List Nat) : Decidable (doneX bs) := by unfold doneX; exact inferInstance
def lenX (bs : List Nat) : Nat := bs.getD 2 0 * 256 + bs.getD 3 0
def tyX (bs : List Nat) : Nat := bs.getD 0 0 * 256 + bs.getD 1 0
def fldX (bs : List Nat) : Nat × List Nat := (tyX bs, (bs.drop 4).take (lenX bs - 4))
/-- 0: a field stands there; else the error's number. -/
def errX (bs : List Nat) : Nat := if bs.length < 16 then 4 else if ¬ longN (lenX bs - 4) then 5 else if bs.length < lenX bs then 4 else 0
abbrev ParO := Says × List Nat × Nat
def parF : Nat → Says → List Nat → ParO
  | 0, l, bs => if doneX bs then (l, bs, 0) else if errX bs = 0 then ([], [], 7) else ([], [], errX bs)
  | r + 1, l, bs => if doneX bs then (l, bs, 0) else if errX bs = 0 then parF r (l ++ [fldX bs]) (bs.drop (lenX bs)) else ([], [], errX bs)
def parX (bs : List Nat) : ParO := parF 8 [] bs

theorem parF_done {r : Nat} {l : Says} {bs : List Nat} (h : doneX bs) : parF r l bs = (l, bs, 0) := by cases r <;> rw [parF, if_pos h]
theorem parF_err {r : Nat} {l : Says} {bs : List Nat} {e : Nat} (h : ¬ doneX bs) (he : errX bs = e) (e0 : e ≠ 0) : parF r l bs = ([], [], e) := by
  cases r <;> rw [parF, if_neg h, if_neg (by rw [he]; exact e0), he]
theorem parF_full {l : Says} {bs : List Nat} (h : ¬ doneX bs) (he : errX bs = 0) : parF 0 l bs = ([], [], 7) := by rw [parF, if_neg h, if_pos he]
theorem parF_next {r : Nat} {l : Says} {bs : List Nat} (h : ¬ doneX bs) (he : errX bs = 0) : parF (r + 1) l bs = parF r (l ++ [fldX bs]) (bs.drop (lenX bs)) := by rw [parF, if_neg h, if_pos he]

theorem bytesF_cons (x : Nat × List Nat) (t : List Nat) : bytesF x ++ t = (x.1 / 256) :: (x.1 % 256) :: ((x.2.length + 4) / 256) :: ((x.2.length + 4) % 256) :: (x.2 ++ t) := by
  unfold bytesF; rw [List.append_assoc]; rfl
theorem lenX_F (x : Nat × List Nat) (t : List Nat) : lenX (bytesF x ++ t) = x.2.length + 4 := by
  rw [bytesF_cons]
  show (x.2.length + 4) / 256 * 256 + (x.2.length + 4) % 256 = _
  omega
theorem tyX_F (x : Nat × List Nat) (t : List Nat) : tyX (bytesF x ++ t) = x.1 := by
  rw [bytesF_cons]
  show x.1 / 256 * 256 + x.1 % 256 = _
  omega
theorem fldX_F (x : Nat × List Nat) (t : List Nat) : fldX (bytesF x ++ t) = x := by
  unfold fldX
  rw [tyX_F, lenX_F, bytesF_cons, Nat.add_sub_cancel]
  show (x.1, (x.2 ++ t).take x.2.length) = x
  rw [List.take_left]
theorem drop_F (x : Nat × List Nat) (t : List Nat) : (bytesF x ++ t).drop (lenX (bytesF x ++ t)) = t := by
  rw [lenX_F, Nat.add_comm, ← bytesF_len, List.drop_left]
theorem errX_F {x : Nat × List Nat} (t : List Nat) (h : longN x.2.length) : errX (bytesF x ++ t) = 0 := by
  unfold errX
  have a := h
  unfold longN at a
  rw [lenX_F, Nat.add_sub_cancel, List.length_append, bytesF_len, if_neg (by omega), if_neg (fun g => g h), if_neg (by omega)]
theorem done_F {x : Nat × List Nat} (t : List Nat) (h : longN x.2.length) : ¬ doneX (bytesF x ++ t) := by
  unfold doneX
  unfold longN at h
  rw [List.length_append, bytesF_len]
  omega
theorem bytesX_cons (x : Nat × List Nat) (m : Says) : bytesX (x :: m) = bytesF x ++ bytesX m := by unfold bytesX; rw [List.flatMap_cons]

theorem parF_back : ∀ (m : Says) (r : Nat) (l : Says) (t : List Nat), m.length ≤ r → (∀ x ∈ m, longN x.2.length) → parF r l (bytesX m ++ t) = parF (r - m.length) (l ++ m) t
  | [], r, l, t, _, _ => by rw [List.append_nil]; rfl
  | x :: m, 0, l, t, h, _ => by simp at h
  | x :: m, r + 1, l, t, h, g => by
    have gx := g x (List.mem_cons.2 (.inl rfl))
    rw [bytesX_cons, List.append_assoc, parF_next (done_F _ gx) (errX_F _ gx), fldX_F, drop_F, parF_back m r _ t (by simpa using h) (fun y hy => g y (List.mem_cons.2 (.inr hy)))]
    rw [List.append_assoc, List.length_cons, Nat.add_sub_add_right]
    rfl
theorem parX_back {m : Says} {t : List Nat} (h : mayX m) (d : doneX t) : parX (bytesX m ++ t) = (m, t, 0) := by
  unfold parX
  rw [parF_back m 8 [] t h.2 h.1, parF_done d]
  rfl

theorem four_of {bs : List Nat} (h : 4 ≤ bs.length) : ∃ a b c d t, bs = a :: b :: c :: d :: t := by
  match bs, h with
  | a :: b :: c :: d :: t, _ => exact ⟨a, b, c, d, t, rfl⟩

theorem errX_zero {bs : List Nat} (h : errX bs = 0) : 16 ≤ bs.length ∧ longN (lenX bs - 4) ∧ lenX bs ≤ bs.length := by
  unfold errX at h
  by_cases a : bs.length < 16
  · rw [if_pos a] at h; omega
  rw [if_neg a] at h
  by_cases b : longN (lenX bs - 4)
  · rw [if_neg (fun g => g b)] at h
    by_cases c : bs.length < lenX bs
    · rw [if_pos c] at h; omega
    · exact ⟨by omega, b, by omega⟩
  · rw [if_pos b] at h; omega

/-- A field that may be. -/
def goodF (x : Nat × List Nat) : Prop := longN x.2.length ∧ x.1 < 65536 ∧ Byt x.2
theorem F_of {bs : List Nat} (hy : Byt bs) (he : errX bs = 0) : goodF (fldX bs) ∧ bs = bytesF (fldX bs) ++ bs.drop (lenX bs) := by
  obtain ⟨h16, hl, hle⟩ := errX_zero he
  obtain ⟨a, b, c, d, t, rfl⟩ := four_of (bs := bs) (by omega)
  have ya := hy a (by simp)
  have yb := hy b (by simp)
  have yc := hy c (by simp)
  have yd := hy d (by simp)
  have e : lenX (a :: b :: c :: d :: t) = c * 256 + d := rfl
  have f : fldX (a :: b :: c :: d :: t) = (a * 256 + b, t.take (c * 256 + d - 4)) := rfl
  rw [e] at hl hle
  rw [e, f]
  obtain ⟨n, hn⟩ : ∃ n, c * 256 + d = n + 4 := ⟨c * 256 + d - 4, by unfold longN at hl; omega⟩
  rw [hn, Nat.add_sub_cancel] at hl
  rw [hn] at hle
  rw [hn, Nat.add_sub_cancel]
  simp only [List.length_cons] at hle
  have tl : (t.take n).length = n := by rw [List.length_take]; omega
  refine ⟨⟨by show longN (t.take n).length; rw [tl]; exact hl, by show a * 256 + b < 65536; omega, byt_take (fun x hx => hy x (by simp [hx])) n⟩, ?_⟩
  rw [bytesF_cons]
  show _ = (a * 256 + b) / 256 :: (a * 256 + b) % 256 :: ((t.take n).length + 4) / 256 :: ((t.take n).length + 4) % 256 :: (t.take n ++ t.drop n)
  rw [tl, List.take_append_drop, ← hn]
  congr 1
  · omega
  congr 1
  · omega
  congr 1
  · omega
  congr 1
  · omega

theorem parF_spec : ∀ (r : Nat) (l : Says) (bs : List Nat) (o : Says) (t : List Nat), Byt bs → parF r l bs = (o, t, 0) →
    doneX t ∧ ∃ m, o = l ++ m ∧ m.length ≤ r ∧ (∀ x ∈ m, goodF x) ∧ bs = bytesX m ++ t := by
  intro r
  induction r with
  | zero =>
    intro l bs o t hy h
    by_cases d : doneX bs
    · rw [parF_done d] at h
      injection h with h1 h2
      injection h2 with h2 _
      subst h1 h2
      exact ⟨d, [], (List.append_nil _).symm, Nat.le_refl _, (fun x hx => by cases hx), rfl⟩
    · by_cases e : errX bs = 0
      · rw [parF_full d e] at h
        injection h with _ h2
        injection h2 with _ h3
        cases h3
      · rw [parF_err d rfl e] at h
        injection h with _ h2
        injection h2 with _ h3
        exact absurd h3 e
  | succ r ih =>
    intro l bs o t hy h
    by_cases d : doneX bs
    · rw [parF_done d] at h
      injection h with h1 h2
      injection h2 with h2 _
      subst h1 h2
      exact ⟨d, [], (List.append_nil _).symm, Nat.zero_le _, (fun x hx => by cases hx), rfl⟩
    · by_cases e : errX bs = 0
      · rw [parF_next d e] at h
        obtain ⟨g, eb⟩ := F_of hy e
        obtain ⟨dt, m, rfl, hm, hg, hb⟩ := ih _ _ _ _ (byt_drop hy _) h
        refine ⟨dt, fldX bs :: m, by rw [List.append_assoc]; rfl, by rw [List.length_cons]; omega, fun x hx => ?_, ?_⟩
        · rcases List.mem_cons.1 hx with rfl | hx
          · exact g
          · exact hg x hx
        · rw [bytesX_cons, List.append_assoc, ← hb]
          exact eb
      · rw [parF_err d rfl e] at h
        injection h with _ h2
        injection h2 with _ h3
        exact absurd h3 e
theorem parF_bad : ∀ (r : Nat) (l : Says) (bs : List Nat), (parF r l bs).2.2 ≠ 0 → (parF r l bs).1 = [] ∧ (parF r l bs).2.1 = [] := by
  intro r
  induction r with
  | zero =>
    intro l bs h
    by_cases d : doneX bs
    · rw [parF_done d] at h; exact absurd rfl h
    · by_cases e : errX bs = 0
      · rw [parF_full d e]; exact ⟨rfl, rfl⟩
      · rw [parF_err d rfl e]; exact ⟨rfl, rfl⟩
  | succ r ih =>
    intro l bs h
    by_cases d : doneX bs
    · rw [parF_done d] at h; exact absurd rfl h
    · by_cases e : errX bs = 0
      · rw [parF_next d e] at h ⊢; exact ih _ _ h
      · rw [parF_err d rfl e]; exact ⟨rfl, rfl⟩
theorem parX_spec {bs : List Nat} (hy : Byt bs) (h : (parX bs).2.2 = 0) : doneX (parX bs).2.1 ∧ mayX (parX bs).1 ∧ (∀ x ∈ (parX bs).1, goodF x) ∧ bs = bytesX (parX bs).1 ++ (parX bs).2.1 := by
  obtain ⟨d, m, e, hm, hg, hb⟩ := parF_spec 8 [] bs (parX bs).1 (parX bs).2.1 hy (by show parX bs = _; rw [← h])
  rw [List.nil_append] at e
  subst e
  exact ⟨d, ⟨fun x hx => (hg x hx).1, hm⟩, hg, hb⟩
theorem parX_good {bs : List Nat} (hy : Byt bs) : ∀ x ∈ (parX bs).1, goodF x := by
  by_cases h : (parX bs).2.2 = 0
  · exact (parX_spec hy h).2.2.1
  · intro x hx
    have e : (parX bs).1 = [] := (parF_bad 8 [] bs h).1
    rw [e] at hx
    cases hx
theorem parX_byt {bs : List Nat} (hy : Byt bs) : Byt (parX bs).2.1 := by
  by_cases h : (parX bs).2.2 = 0
  · have e := (parX_spec hy h).2.2.2
    intro d hd
    exact hy d (by rw [e]; exact List.mem_append_right _ hd)
  · have e : (parX bs).2.1 = [] := (parF_bad 8 [] bs h).2
    rw [e]
    intro d hd
    cases hd

theorem parF_cut : ∀ (m : Says) (r : Nat) (l : Says) (k : Nat), m.length ≤ r → (∀ x ∈ m, longN x.2.length) → k ≤ (bytesX m).length →
    (∃ j t, j ≤ m.length ∧ parF r l ((bytesX m).take k) = (l ++ m.take j, t, 0) ∧ doneX t ∧ bytesX (m.take j) ++ t = (bytesX m).take k) ∨ parF r l ((bytesX m).take k) = ([], [], 4)
  | [], r, l, k, _, _, hk => by
    refine .inl ⟨0, [], Nat.zero_le _, ?_, .inl rfl, ?_⟩
    · rw [bytesX_nil, List.take_nil, parF_done (.inl rfl)]; simp
    · show bytesX [] ++ [] = _; rw [bytesX_nil, List.take_nil]; rfl
  | x :: m, 0, l, k, h, _, _ => by simp at h
  | x :: m, r + 1, l, k, h, g, hk => by
    have gx := g x (List.mem_cons.2 (.inl rfl))
    have gx' := gx
    unfold longN at gx'
    have fl := bytesF_len x
    by_cases hL : (bytesF x).length ≤ k
    · have e : (bytesX (x :: m)).take k = bytesF x ++ (bytesX m).take (k - (bytesF x).length) := by
        rw [bytesX_cons, List.take_append, List.take_of_length_le hL]
      have hk' : k - (bytesF x).length ≤ (bytesX m).length := by
        rw [bytesX_cons, List.length_append] at hk; omega
      have p : parF (r + 1) l ((bytesX (x :: m)).take k) = parF r (l ++ [x]) ((bytesX m).take (k - (bytesF x).length)) := by
        rw [e, parF_next (done_F _ gx) (errX_F _ gx), fldX_F, drop_F]
      rcases parF_cut m r (l ++ [x]) (k - (bytesF x).length) (by simpa using h) (fun y hy => g y (List.mem_cons.2 (.inr hy))) hk' with ⟨j, t, hj, h1, h2, h3⟩ | h1
      · refine .inl ⟨j + 1, t, by rw [List.length_cons]; omega, ?_, h2, ?_⟩
        · rw [p, h1, List.take_succ_cons, List.append_assoc]; rfl
        · rw [e, List.take_succ_cons, bytesX_cons, List.append_assoc, h3]
      · exact .inr (p.trans h1)
    · have e : (bytesX (x :: m)).take k = (bytesF x ++ []).take k := by
        rw [bytesX_cons, List.take_append_of_le_length (by omega), List.append_nil]
      have el : ((bytesX (x :: m)).take k).length = k := by rw [List.length_take]; omega
      by_cases d : doneX ((bytesX (x :: m)).take k)
      · refine .inl ⟨0, _, Nat.zero_le _, ?_, d, ?_⟩
        · rw [parF_done d]; simp
        · rw [List.take_zero, bytesX_nil]; rfl
      · refine .inr (parF_err d ?_ (by decide))
        unfold errX
        by_cases h16 : k < 16
        · rw [el, if_pos h16]
        · have e2 : lenX ((bytesX (x :: m)).take k) = x.2.length + 4 := by
            obtain ⟨q, rfl⟩ : ∃ q, k = q + 4 := ⟨k - 4, by omega⟩
            rw [e, bytesF_cons]
            show (x.2.length + 4) / 256 * 256 + (x.2.length + 4) % 256 = _
            omega
          rw [el, if_neg h16, e2, Nat.add_sub_cancel, if_neg (fun g => g gx), if_pos (by omega)]

/-- The first 12 fields, of at most 600 bytes each. -/
def fewX (l : Says) : Says := (l.take 12).map fun x => (x.1, x.2.take 600)
theorem fewX_idem (l : Says) : fewX (fewX l) = fewX l := by
  unfold fewX
  rw [List.take_of_length_le (l := (l.take 12).map _) (by rw [List.length_map, List.length_take]; omega), List.map_map]
  refine List.map_congr_left fun x _ => ?_
  show (x.1, (x.2.take 600).take 600) = _
  rw [List.take_take]
  rfl
/-- How many bytes a field's data is brought to have. -/
def bringN (n : Nat) : Nat := min (max n 12) 464 / 4 * 4
theorem bringN_long (n : Nat) : longN (bringN n) := by unfold longN bringN; omega
def bringF (x : Nat × List Nat) : Nat × List Nat := (x.1, x.2.take (bringN x.2.length) ++ List.replicate (bringN x.2.length - x.2.length) 0)
theorem bringF_len (x : Nat × List Nat) : (bringF x).2.length = bringN x.2.length := by
  show (x.2.take _ ++ List.replicate _ 0).length = _
  rw [List.length_append, List.length_take, List.length_replicate]
  omega
/-- Fields, brought to be some that may be. -/
def propX (l : Says) : Says := (l.take 8).map bringF
theorem propX_may (l : Says) : mayX (propX l) := by
  refine ⟨fun x hx => ?_, by unfold propX; rw [List.length_map, List.length_take]; omega⟩
  unfold propX at hx
  obtain ⟨y, _, rfl⟩ := List.mem_map.1 hx
  rw [bringF_len]
  exact bringN_long _
end Go.Proofs.Yteclcefeipjoeaa
