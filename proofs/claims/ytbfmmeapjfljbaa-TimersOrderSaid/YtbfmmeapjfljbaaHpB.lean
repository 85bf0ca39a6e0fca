/- Layer 13 (heap), the program's own: Ahead (over the library's Compare and Or), made, parent. -/
import Derived.Test.YtbfmmeapjfljbaaHpA
set_option maxRecDepth 100000
namespace Go.Proofs.Ytbfmmeapjfljbaa
open Go.ChangeShapes Go.WideShapes Go.ChangeAt Go.RowKit Go.Maps HeapM

def cmpZ (a b : Int) : Int := if a < b then -1 else if b < a then 1 else 0
theorem cmpZ_alt (a b : Int) : (a < b ∧ cmpZ a b = -1) ∨ (b < a ∧ cmpZ a b = 1) ∨ (a = b ∧ cmpZ a b = 0) := by
  unfold cmpZ
  by_cases h : a < b
  · rw [if_pos h]; exact .inl ⟨h, rfl⟩
  · rw [if_neg h]
    by_cases g : b < a
    · rw [if_pos g]; exact .inr (.inl ⟨g, rfl⟩)
    · rw [if_neg g]; exact .inr (.inr ⟨by omega, rfl⟩)
theorem pnan_i (w : World) (a : Int) : Calls Try.prog 41 #[.int .i64 a] w fun e w' => e = .returned (.bool false) ∧ w' = w := by
  have h : (a != a) = false := by simp
  go_enter Try.func41, Try.ntmps41
  go_wp2
  go_ret
  exact ⟨rfl, rfl⟩
theorem pnan_u (w : World) (a : Int) : Calls Try.prog 42 #[.int .u64 a] w fun e w' => e = .returned (.bool false) ∧ w' = w := by
  have h : (a != a) = false := by simp
  go_enter Try.func42, Try.ntmps42
  go_wp2
  go_ret
  exact ⟨rfl, rfl⟩
theorem pcmp_i (w : World) (a b : Int) : Calls Try.prog 38 #[.int .i64 a, .int .i64 b] w fun e w' => e = .returned (.int .i64 (cmpZ a b)) ∧ w' = w := by
  have c := cmpZ_alt a b
  obtain ⟨r, hr⟩ : ∃ r, cmpZ a b = r := ⟨_, rfl⟩
  rw [hr] at c ⊢
  have NA := Lib.hid (pnan_i w)
  rcases c with ⟨h, rfl⟩ | ⟨h, rfl⟩ | ⟨rfl, rfl⟩
  · have d1 : decide (a < b) = true := decide_eq_true h
    clear h hr
    go_enter Try.func38, Try.ntmps38
    go_wp2_with (go_at_call 41; refine (NA.out _).mono ?_; rintro e w' ⟨rfl, rfl⟩)
    go_ret
    exact ⟨rfl, rfl⟩
  · have d1 : decide (a < b) = false := decide_eq_false (by omega)
    have d2 : decide (b < a) = true := decide_eq_true h
    have h' : ¬ a < b := by omega
    clear hr
    go_enter Try.func38, Try.ntmps38
    go_wp2_with (go_at_call 41; refine (NA.out _).mono ?_; rintro e w' ⟨rfl, rfl⟩)
    go_ret
    exact ⟨rfl, rfl⟩
  · have d1 : decide (a < a) = false := decide_eq_false (by omega)
    have h' : ¬ a < a := by omega
    clear hr
    go_enter Try.func38, Try.ntmps38
    go_wp2_with (go_at_call 41; refine (NA.out _).mono ?_; rintro e w' ⟨rfl, rfl⟩)
    go_ret
    exact ⟨rfl, rfl⟩
theorem pcmp_u (w : World) (a b : Int) : Calls Try.prog 39 #[.int .u64 a, .int .u64 b] w fun e w' => e = .returned (.int .i64 (cmpZ a b)) ∧ w' = w := by
  have c := cmpZ_alt a b
  obtain ⟨r, hr⟩ : ∃ r, cmpZ a b = r := ⟨_, rfl⟩
  rw [hr] at c ⊢
  have NA := Lib.hid (pnan_u w)
  rcases c with ⟨h, rfl⟩ | ⟨h, rfl⟩ | ⟨rfl, rfl⟩
  · have d1 : decide (a < b) = true := decide_eq_true h
    clear h hr
    go_enter Try.func39, Try.ntmps39
    go_wp2_with (go_at_call 42; refine (NA.out _).mono ?_; rintro e w' ⟨rfl, rfl⟩)
    go_ret
    exact ⟨rfl, rfl⟩
  · have d1 : decide (a < b) = false := decide_eq_false (by omega)
    have d2 : decide (b < a) = true := decide_eq_true h
    have h' : ¬ a < b := by omega
    clear hr
    go_enter Try.func39, Try.ntmps39
    go_wp2_with (go_at_call 42; refine (NA.out _).mono ?_; rintro e w' ⟨rfl, rfl⟩)
    go_ret
    exact ⟨rfl, rfl⟩
  · have d1 : decide (a < a) = false := decide_eq_false (by omega)
    have h' : ¬ a < a := by omega
    clear hr
    go_enter Try.func39, Try.ntmps39
    go_wp2_with (go_at_call 42; refine (NA.out _).mono ?_; rintro e w' ⟨rfl, rfl⟩)
    go_ret
    exact ⟨rfl, rfl⟩

def or3 (a b c : Int) : Int := if a ≠ 0 then a else if b ≠ 0 then b else c
theorem por_any (w : World) (B : Nat) (a b c : Int) (h0 : w.cell? ⟨B, 0, none⟩ = some (.int .i64 a)) (h1 : w.cell? ⟨B, 1, none⟩ = some (.int .i64 b)) (h2 : w.cell? ⟨B, 2, none⟩ = some (.int .i64 c)) :
    Calls Try.prog 37 #[.slice (some ⟨B, 0, none⟩) 3 3] w fun e w' => e = .returned (.int .i64 (or3 a b c)) ∧ w' = w := by
  obtain ⟨r, hr⟩ : ∃ r, or3 a b c = r := ⟨_, rfl⟩
  rw [hr]
  have hr := Lib.hid hr
  have HC : Hid (w.cell? ⟨B, 0, none⟩ = some (.int .i64 a) ∧ w.cell? ⟨B, 1, none⟩ = some (.int .i64 b) ∧ w.cell? ⟨B, 2, none⟩ = some (.int .i64 c)) := ⟨h0, h1, h2⟩
  clear h0 h1 h2
  go_enter Try.func37, Try.ntmps37
  go_wp2
  go_loopw [8] (fun i wr => Hid (wr = w) ∧ (i = .int .i64 0 ∨ (i = .int .i64 1 ∧ Hid (a = 0)) ∨ (i = .int .i64 2 ∧ Hid (a = 0 ∧ b = 0)) ∨ (i = .int .i64 3 ∧ Hid (a = 0 ∧ b = 0 ∧ c = 0)))) (fun i _ => 4 - (intOf i).toNat)
  case atStart => exact ⟨rfl, .inl rfl⟩
  case round =>
    obtain ⟨ew, hi⟩ := hrel
    obtain rfl := ew.out
    clear ew
    obtain ⟨c0, c1, c2⟩ := HC.out
    clear HC
    rcases hi with rfl | ⟨rfl, h⟩ | ⟨rfl, h⟩ | ⟨rfl, h⟩
    · by_cases z : a = 0
      · subst z
        go_wp2
        go_roundw
        case rel => exact ⟨Lib.hid trivial, .inr (.inl ⟨rfl, Lib.hid trivial⟩)⟩
        case measure => simp [intOf]
      · have z1 : (a != 0) = true := by simpa using z
        have F : Hid (r = a) := by have := hr.out; unfold or3 at this; rw [if_pos z] at this; exact this.symm
        obtain rfl := F.out
        clear F hr
        go_wp2
        go_ret
        exact ⟨rfl, rfl⟩
    · by_cases z : b = 0
      · subst z
        have A0 := h.out
        clear h
        have H2 := Lib.hid A0
        clear A0
        go_wp2
        go_roundw
        case rel => exact ⟨Lib.hid trivial, .inr (.inr (.inl ⟨rfl, Lib.hid ⟨H2.out, trivial⟩⟩))⟩
        case measure => simp [intOf]
      · have z1 : (b != 0) = true := by simpa using z
        have F : Hid (r = b) := by have := hr.out; unfold or3 at this; rw [if_neg (by simpa using h.out), if_pos z] at this; exact this.symm
        obtain rfl := F.out
        clear F hr h
        go_wp2
        go_ret
        exact ⟨rfl, rfl⟩
    · by_cases z : c = 0
      · subst z
        go_wp2
        go_roundw
        case rel => exact ⟨Lib.hid trivial, .inr (.inr (.inr ⟨rfl, Lib.hid ⟨h.out.1, h.out.2, trivial⟩⟩))⟩
        case measure => simp [intOf]
      · have z1 : (c != 0) = true := by simpa using z
        have F : Hid (r = c) := by have := hr.out; unfold or3 at this; rw [if_neg (by simpa using h.out.1), if_neg (by simpa using h.out.2)] at this; exact this.symm
        obtain rfl := F.out
        clear F hr h
        go_wp2
        go_ret
        exact ⟨rfl, rfl⟩
    · have F : Hid (r = 0) := by have := hr.out; unfold or3 at this; rw [if_neg (by simpa using h.out.1), if_neg (by simpa using h.out.2.1), h.out.2.2] at this; exact this.symm
      obtain rfl := F.out
      clear F hr h
      go_wp2
      go_ret
      exact ⟨rfl, rfl⟩
theorem or_ahd (a b : It) : decide (or3 (cmpZ a.t b.t) (cmpZ a.seq b.seq) (cmpZ a.id b.id) < 0) = ahd a b := by
  unfold ahd or3
  rcases cmpZ_alt a.t b.t with ⟨h, e⟩ | ⟨h, e⟩ | ⟨h, e⟩
  · rw [e, if_pos (show (-1 : Int) ≠ 0 by decide), if_neg (show ¬ a.t = b.t by omega), decide_eq_true h]; rfl
  · rw [e, if_pos (show (1 : Int) ≠ 0 by decide), if_neg (show ¬ a.t = b.t by omega), decide_eq_false (show ¬ a.t < b.t by omega)]; rfl
  · rw [e, if_neg (show ¬ (0 : Int) ≠ 0 by decide), if_pos h]
    rcases cmpZ_alt a.seq b.seq with ⟨h, e⟩ | ⟨h, e⟩ | ⟨h, e⟩
    · rw [e, if_pos (show (-1 : Int) ≠ 0 by decide), if_neg (show ¬ a.seq = b.seq by omega), decide_eq_true (show a.seq < b.seq by omega)]; rfl
    · rw [e, if_pos (show (1 : Int) ≠ 0 by decide), if_neg (show ¬ a.seq = b.seq by omega), decide_eq_false (show ¬ a.seq < b.seq by omega)]; rfl
    · rw [e, if_neg (show ¬ (0 : Int) ≠ 0 by decide), if_pos (show a.seq = b.seq by omega)]
      rcases cmpZ_alt a.id b.id with ⟨h, e⟩ | ⟨h, e⟩ | ⟨h, e⟩
      · rw [e, decide_eq_true (show a.id < b.id by omega)]; rfl
      · rw [e, decide_eq_false (show ¬ a.id < b.id by omega)]; rfl
      · rw [e, decide_eq_false (show ¬ a.id < b.id by omega)]; rfl

set_option maxHeartbeats 4000000 in
theorem pahead13_any (w : World) (a b : It) :
    Calls Try.prog 29 #[itV a, itV b] w fun e w' => e = .returned (.bool (ahd a b)) ∧ Below w.heap.size w w' := by
  have OA := or_ahd a b
  obtain ⟨z, hz⟩ : ∃ z, ahd a b = z := ⟨_, rfl⟩
  rw [hz] at OA ⊢
  obtain ⟨i, s, t⟩ := a
  obtain ⟨j, r, u⟩ := b
  obtain ⟨l, B1, B2, sz⟩ := two_blocks w (itC ⟨i, s, t⟩) (itC ⟨j, r, u⟩) 55 55
  dsimp only at OA
  have C1 := Lib.hid (fun w' => pcmp_i w' t u)
  have C2 := Lib.hid (fun w' => pcmp_u w' s r)
  have C3 := Lib.hid (fun w' => pcmp_u w' i j)
  have CO := Lib.hid (fun w' B => por_any w' B (cmpZ t u) (cmpZ s r) (cmpZ i j))
  generalize cmpZ t u = c1 at *
  generalize cmpZ s r = c2 at *
  generalize cmpZ i j = c3 at *
  generalize or3 c1 c2 c3 = q at *
  unfold itC at B1 B2 l sz
  unfold itV
  dsimp only at B1 B2 l sz ⊢
  clear hz
  go_enter Try.func29, Try.ntmps29
  go_wp2_with fail
  generalize (w.alloc (.cells #[.int .u64 (i : Nat), .int .u64 (s : Nat), .int .i64 t] 55)).alloc (.cells #[.int .u64 (j : Nat), .int .u64 (r : Nat), .int .i64 u] 55) = v at *
  have LV := Lib.hid l
  obtain ⟨n1, hn1⟩ : ∃ n, w.heap.size = n := ⟨_, rfl⟩
  rw [hn1] at B1 B2 sz ⊢
  have HB1 := Lib.hid B1
  have HB2 := Lib.hid B2
  clear B1 B2 sz l hn1
  have KX : Hid (∀ w' : World, Below v.heap.size v w' → w'.cell? ⟨n1, 0, none⟩ = some (.int .u64 (i : Nat)) ∧ w'.cell? ⟨n1, 1, none⟩ = some (.int .u64 (s : Nat)) ∧ w'.cell? ⟨n1, 2, none⟩ = some (.int .i64 t) ∧ w'.cell? ⟨n1 + 1, 0, none⟩ = some (.int .u64 (j : Nat)) ∧ w'.cell? ⟨n1 + 1, 1, none⟩ = some (.int .u64 (r : Nat)) ∧ w'.cell? ⟨n1 + 1, 2, none⟩ = some (.int .i64 u)) := fun w' b => by
    have e1 := (b.block n1 (Array.getElem?_eq_some_iff.1 HB1.out).1).trans HB1.out
    have e2 := (b.block (n1 + 1) (Array.getElem?_eq_some_iff.1 HB2.out).1).trans HB2.out
    exact ⟨blk_cell e1, blk_cell e1, blk_cell e1, blk_cell e2, blk_cell e2, blk_cell e2⟩
  have HB0 : Below v.heap.size v v := Below.refl _ _
  have AW : Below v.heap.size v (v.drew.alloc (.cells #[.int .i64 c1, .int .i64 c2, .int .i64 c3] 3)) := HB0.drew.alloc (Nat.le_refl _) _
  have AC := heap_alloc_new v.drew (.cells #[.int .i64 c1, .int .i64 c2, .int .i64 c3] 3)
  go_region_held3 (fun w' => w'.cell? ⟨n1, 0, none⟩ = some (.int .u64 (i : Nat)) ∧ w'.cell? ⟨n1, 1, none⟩ = some (.int .u64 (s : Nat)) ∧ w'.cell? ⟨n1, 2, none⟩ = some (.int .i64 t) ∧ w'.cell? ⟨n1 + 1, 0, none⟩ = some (.int .u64 (j : Nat)) ∧ w'.cell? ⟨n1 + 1, 1, none⟩ = some (.int .u64 (r : Nat)) ∧ w'.cell? ⟨n1 + 1, 2, none⟩ = some (.int .i64 u))
    (first | exact KX.out _ HB0 | exact KX.out _ HB0.drew | exact KX.out _ AW)
    (first
      | (go_at_call 38; refine (C1.out _).mono ?_; rintro e w5 ⟨rfl, rfl⟩)
      | (go_at_call_of 39 s; refine (C2.out _).mono ?_; rintro e w5 ⟨rfl, rfl⟩)
      | (go_at_call_of 39 i; refine (C3.out _).mono ?_; rintro e w5 ⟨rfl, rfl⟩)
      | (go_at_call 37; refine (CO.out _ _ (blk_cell AC) (blk_cell AC) (blk_cell AC)).mono ?_; rintro e w5 ⟨rfl, rfl⟩))
  go_wp2
  go_ret
  exact ⟨rfl, LV.out.trans (AW.mono LV.out.size)⟩
end Go.Proofs.Ytbfmmeapjfljbaa

