/- Layer 9 (count): the closures that tell what is wrong, and the first of them. -/
import Derived.Test.YtkhhaeoofebjlaaCountA
set_option maxRecDepth 100000
namespace Go.Proofs.Ytkhhaeoofebjlaa
open Go.ChangeShapes Go.WideShapes Go.ChangeAt Go.RowKit

/-- What a call told, and what it left: new draws, new blocks, all that was there as it was. -/
def TellE (w : World) (z : Int) (r : Ending) (w' : World) : Prop := r = .returned (.int .i64 z) ∧ Below w.heap.size w w'

theorem pn1_any (w : World) (P : Nat) (b z : Int) (hp : w.cell? ⟨P, 0, none⟩ = some (.int .i64 b)) (hz : (z = 0 ∧ 8 ≤ b ∧ b ≤ 64) ∨ (z = 1 ∧ (b < 8 ∨ 64 < b))) :
    Calls Try.prog 14 #[.pointer (some ⟨P, 0, none⟩)] w (TellE w z) := by
  have W := Lib.hid (pwhen9_any w)
  have F : Hid (TellE w z (.returned (.int .i64 z)) w) := ⟨rfl, Below.refl _ _⟩
  rcases hz with ⟨rfl, h1, h2⟩ | ⟨rfl, h1 | h1⟩
  · have d1 : decide (b < 8) = false := by simp; omega
    have d2 : decide (64 < b) = false := by simp; omega
    go_enter Try.func14, Try.ntmps14
    go_wp2_with fail
    refine (W.out _ _).mono ?_; rintro e w1 ⟨rfl, rfl⟩
    go_wp2
    go_ret
    exact F.out
  · have d1 : decide (b < 8) = true := by simp; omega
    go_enter Try.func14, Try.ntmps14
    go_wp2_with fail
    refine (W.out _ _).mono ?_; rintro e w1 ⟨rfl, rfl⟩
    go_wp2
    go_ret
    exact F.out
  · have d1 : decide (b < 8) = false := by simp; omega
    have d2 : decide (64 < b) = true := by simp; omega
    go_enter Try.func14, Try.ntmps14
    go_wp2_with fail
    refine (W.out _ _).mono ?_; rintro e w1 ⟨rfl, rfl⟩
    go_wp2
    go_ret
    exact F.out

theorem pn2_any (w : World) (P Q x k : Nat) (z : Int) (hq : w.cell? ⟨Q, 0, none⟩ = some (.int .u64 (x : Nat))) (hp : w.cell? ⟨P, 0, none⟩ = some (.int .i64 (k : Nat))) (hk : k ≤ 64) (hz : (z = 0 ∧ x < 2 ^ k) ∨ (z = 1 ∧ ¬ x < 2 ^ k)) :
    Calls Try.prog 16 #[.pointer (some ⟨Q, 0, none⟩), .pointer (some ⟨P, 0, none⟩)] w (TellE w z) := by
  have W := Lib.hid (pwhen9_any w)
  have F : Hid (TellE w z (.returned (.int .i64 z)) w) := ⟨rfl, Below.refl _ _⟩
  have B := pbelow9_any w x k hk
  rcases hz with ⟨rfl, h1⟩ | ⟨rfl, h1⟩
  · rw [decide_eq_true h1] at B
    replace B := Lib.hid B
    clear hk h1
    go_enter Try.func16, Try.ntmps16
    go_wp2_with fail
    refine B.out.mono ?_; rintro e w1 ⟨rfl, rfl⟩
    go_wp2_with fail
    refine (W.out _ _).mono ?_; rintro e w1 ⟨rfl, rfl⟩
    go_wp2
    go_ret
    exact F.out
  · rw [decide_eq_false h1] at B
    replace B := Lib.hid B
    clear hk h1
    go_enter Try.func16, Try.ntmps16
    go_wp2_with fail
    refine B.out.mono ?_; rintro e w1 ⟨rfl, rfl⟩
    go_wp2_with fail
    refine (W.out _ _).mono ?_; rintro e w1 ⟨rfl, rfl⟩
    go_wp2
    go_ret
    exact F.out

theorem pr1_any (w : World) (P N k l t : Nat) (f : Bool) (hp : w.cell? ⟨P, 0, none⟩ = some (.pointer (some ⟨N, 0, none⟩))) (h : Ct w N k l t f) (hk : 0 < k) :
    Calls Try.prog 18 #[.pointer (some ⟨P, 0, none⟩)] w (TellE w 0) := by
  have W := Lib.hid (pwhen9_any w)
  have M := Lib.hid (pmade9_any w N k l t f h hk)
  have F : Hid (TellE w 0 (.returned (.int .i64 0)) w) := ⟨rfl, Below.refl _ _⟩
  clear h hk
  go_enter Try.func18, Try.ntmps18
  go_wp2_with fail
  refine M.out.mono ?_; rintro e w1 ⟨rfl, rfl⟩
  go_wp2_with fail
  refine (W.out _ _).mono ?_; rintro e w1 ⟨rfl, rfl⟩
  go_wp2
  go_ret
  exact F.out
theorem pr1_none (w : World) (P : Nat) (hp : w.cell? ⟨P, 0, none⟩ = some (.pointer none)) :
    Calls Try.prog 18 #[.pointer (some ⟨P, 0, none⟩)] w (TellE w 2) := by
  have W := Lib.hid (pwhen9_any w)
  have M := Lib.hid (pmade9_none w)
  have F : Hid (TellE w 2 (.returned (.int .i64 2)) w) := ⟨rfl, Below.refl _ _⟩
  go_enter Try.func18, Try.ntmps18
  go_wp2_with fail
  refine M.out.mono ?_; rintro e w1 ⟨rfl, rfl⟩
  go_wp2_with fail
  refine (W.out _ _).mono ?_; rintro e w1 ⟨rfl, rfl⟩
  go_wp2
  go_ret
  exact F.out

theorem pr2_any (w : World) (P R N k l t x : Nat) (f : Bool) (z : Int) (hr : w.cell? ⟨R, 0, none⟩ = some (.int .u64 (x : Nat))) (hp : w.cell? ⟨P, 0, none⟩ = some (.pointer (some ⟨N, 0, none⟩))) (h : Ct w N k l t f) (hk : k ≤ 64)
    (hz : (z = 0 ∧ x < 2 ^ k) ∨ (z = 1 ∧ ¬ x < 2 ^ k)) :
    Calls Try.prog 20 #[.pointer (some ⟨R, 0, none⟩), .pointer (some ⟨P, 0, none⟩)] w (TellE w z) := by
  have W := Lib.hid (fun w => pwhen9_any w)
  have F : Hid (∀ n, TellE w z (.returned (.int .i64 z)) (w.drewN n)) := fun n => ⟨rfl, below_drewN (Below.refl _ _) n⟩
  have c0 := h.at.1
  obtain ⟨b, hb⟩ : ∃ b, decide (x < 2 ^ k) = b := ⟨_, rfl⟩
  have B := Lib.hid (fun w => pbelow9_any w x k hk)
  have E : (b = true ∧ z = 0) ∨ (b = false ∧ z = 1) := by
    rw [← hb]
    rcases hz with ⟨rfl, h1⟩ | ⟨rfl, h1⟩ <;> simp [h1]
  rw [hb] at B
  clear h hk hz hb
  obtain ⟨rfl, rfl⟩ | ⟨rfl, rfl⟩ := E
  all_goals
    go_enter Try.func20, Try.ntmps20
    go_wp2_with fail
    go_quiet (first
      | (go_at_call 17; exact Calls.quiet_of_same (B.out _))
      | (go_at_call 15; exact Calls.quiet_of_same (W.out _ _ _)))
    go_wp2
    go_ret
    exact F.out _

theorem pr3_any (w : World) (P R N k l t x y : Nat) (hp : w.cell? ⟨P, 0, none⟩ = some (.pointer (some ⟨N, 0, none⟩))) (hr : w.cell? ⟨R, 0, none⟩ = some (.int .u64 (x : Nat))) (h : Ct w N k l t false) (hk : k ≤ 64) (hl : l < 2 ^ k) (hy : y < 2 ^ k) (e : x = (l + y) % 2 ^ k)
    (ht : t + y ≤ 9223372036854775807) :
    Calls Try.prog 21 #[.pointer (some ⟨P, 0, none⟩), .pointer (some ⟨R, 0, none⟩)] w (TellE w 0) := by
  have W := Lib.hid (fun w => pwhen9_any w)
  have F : Hid (∀ n, TellE w 0 (.returned (.int .i64 0)) (w.drewN n)) := fun n => ⟨rfl, below_drewN (Below.refl _ _) n⟩
  have c2 := h.at.2.2.1
  have c3 := h.at.2.2.2
  have Y := Lib.hid (fun n => pway9_any (w.drewN n) N k l t x y false (h.below (below_drewN (Below.refl _ _) n)) hk hl hy e)
  have T1 : IntKind.u64.wrap (9223372036854775807 - (t : Int)) = 9223372036854775807 - (t : Int) := by rw [IntKind.wrap_u64]; omega
  have d1 : decide ((9223372036854775807 - (t : Int)) < (y : Int)) = false := by simp; omega
  obtain ⟨v, hv⟩ : ∃ v : Int, 9223372036854775807 - (t : Int) = v := ⟨_, rfl⟩
  rw [hv] at T1 d1
  have T2 : 9223372036854775807 - (t : Int) = v := hv
  clear h hk hl hy e ht
  go_enter Try.func21, Try.ntmps21
  go_wp2_with fail
  go_quiet (first
    | (go_at_call 22; exact Calls.quiet_of_same (Y.out _))
    | (go_at_call 15; exact Calls.quiet_of_same (W.out _ _ _)))
  go_wp2
  go_ret
  exact F.out _

/-- The first of what is wrong, of any closures: what it tells is the first that is not 0. -/
theorem pfault_any (w : World) (A n : Nat) (G : Nat → FuncId) (C : Nat → Array Value) (z : Int) (e : Nat → Int) (hn : n ≤ 100)
    (hc : ∀ i < n, w.cell? ⟨A, i, none⟩ = some (.func (.func (G i)) #[] (C i)))
    (hg : ∀ i < n, ∀ args w, (callFunc (G i) args).run Try.prog w = .ok (.enter (G i) args) w)
    (hs : ∀ i < n, (∀ j < i, e j = 0) → ∀ w', Below w.heap.size w w' → Calls Try.prog (G i) (C i) w' (TellE w' (e i)))
    (hz : (∃ i, i < n ∧ z ≠ 0 ∧ e i = z ∧ ∀ j < i, e j = 0) ∨ (z = 0 ∧ ∀ j < n, e j = 0)) :
    Calls Try.prog 13 #[.slice (some ⟨A, 0, none⟩) n n] w (TellE w z) := by
  have HC := Lib.hid hc
  have HS := Lib.hid hs
  have HG := Lib.hid hg
  have HZ := Lib.hid hz
  have HN := Lib.hid hn
  have nb : (n : Int) ≤ 100 := by omega
  clear hc hs hz hg
  go_enter Try.func13, Try.ntmps13
  go_wp2_with fail
  go_loopw [8] (fun i wr => ∃ k : Nat, i = .int .i64 k ∧ Hid (k ≤ n) ∧ Hid (∀ j < k, e j = 0) ∧ Hid (Below w.heap.size w wr)) (fun i _ => 1000 - (intOf i).toNat)
  case atStart => exact ⟨0, rfl, Nat.zero_le _, fun j hj => absurd hj (Nat.not_lt_zero _), Below.refl _ _⟩
  case round =>
    obtain ⟨k, rfl, hk, hb, low⟩ := hrel
    have kb : (k : Int) ≤ 100 := by have := hk.out; omega
    by_cases h : k < n
    · have h' : (k : Int) < (n : Int) := by omega
      have c0 : wr.cell? ⟨A, k, none⟩ = some (.func (.func (G k)) #[] (C k)) := by
        have q := HC.out k h
        rw [low.out.cell (World.block_lt_of_cell? w _ q)]
        exact q
      have S := Lib.hid (HS.out k h hb.out wr low.out)
      have EN := HG.out k h
      have FZ : Hid (e k ≠ 0 → e k = z) := fun ne => by
        rcases HZ.out with ⟨i, hi, nz, rfl, hl⟩ | ⟨-, hl⟩
        · have : i = k := by
            rcases Nat.lt_trichotomy i k with q | q | q
            · exact absurd (hb.out i q) nz
            · exact q
            · exact absurd (hl k q) ne
          rw [this]
        · exact absurd (hl k h) ne
      have NB : Hid (e k = 0 → ∀ j < k + 1, e j = 0) := fun ez j hj => by
        by_cases q : j = k
        · rw [q]; exact ez
        · exact hb.out j (by omega)
      have HK : Hid (k + 1 ≤ n) := h
      generalize G k = g at *
      generalize C k = c at *
      generalize e k = ek at *
      clear hk h hb
      go_wp2_with fail
      refine S.out.mono ?_; rintro r w1 ⟨rfl, l1⟩
      have L1 : Hid (Below w.heap.size w w1) := low.out.trans (l1.mono low.out.size)
      clear l1 low
      by_cases q : ek = 0
      · have NB1 := Lib.hid (NB.out q)
        clear NB FZ
        subst q
        go_wp2
        go_roundw
        case rel => exact ⟨k + 1, by go_num, HK, NB1, L1⟩
        case measure => simp [intOf]; omega
      · have FE : Hid (TellE w z (.returned (.int .i64 ek)) w1) := ⟨ret_int (FZ.out q), L1.out⟩
        clear NB FZ
        go_wp2
        go_ret
        exact FE.out
    · have h' : (n : Int) ≤ (k : Int) := by omega
      obtain rfl : k = n := by have := hk.out; omega
      have Z0 : z = 0 := by
        rcases HZ.out with ⟨i, hi, nz, rfl, hl⟩ | ⟨q, -⟩
        · exact absurd (hb.out i hi) nz
        · exact q
      have FE : Hid (TellE w z (.returned (.int .i64 0)) wr) := ⟨ret_int Z0.symm, low.out⟩
      clear hk h hb HC HS HG HZ Z0
      go_wp2
      go_ret
      exact FE.out
end Go.Proofs.Ytkhhaeoofebjlaa
