/- Layer 5 (ext), the program's: whether fields may be. -/
import Derived.Test.YteclcefeipjoeaaExtD
import Derived.Deep.QuietTactic
import Derived.BigQuiet
namespace Go.Proofs.Yteclcefeipjoeaa
open Go.ChangeShapes Go.WideShapes Go.ChangeAt Go.RowKit OctM

/-- longN of a number that may be below 0. -/
def longZ (z : Int) : Prop := 12 ≤ z ∧ longN z.toNat
instance (z : Int) : Decidable (longZ z) := by unfold longZ; exact inferInstance
theorem longZ_nat (n : Nat) : longZ (n : Int) ↔ longN n := by unfold longZ longN; omega

theorem pdata_any (w : World) (z : Int) (hz : I64 z) :
    Calls Try.prog 31 #[.int .i64 z] w fun e w' => e = .returned (.bool (decide (longZ z))) ∧ w = w' := by
  have FIN : ∀ b, (b = true ↔ longZ z) → decide (longZ z) = b := fun b hb => by
    rw [Bool.eq_iff_iff, decide_eq_true_iff]; exact hb.symm
  unfold I64 at hz
  by_cases h1 : 12 ≤ z
  · have g1 : decide (12 ≤ z) = true := by simp; omega
    by_cases h2 : z ≤ 464
    · have g3 : decide (z ≤ 464) = true := by simp; omega
      obtain ⟨m, hm⟩ : ∃ m : Nat, m = z.toNat % 4 := ⟨_, rfl⟩
      obtain ⟨b, hb⟩ : ∃ b, b = ((m : Int) == 0) := ⟨_, rfl⟩
      have e := FIN b (by rw [hb, beq_iff_eq]; unfold longZ longN; omega)
      rw [e]
      have e4 : z % 4 = (m : Int) := by omega
      have e6 : z.tmod 4 = (m : Int) := by rw [Int.tmod_eq_emod_of_nonneg (by omega)]; exact e4
      have hb' := hb.symm
      clear e FIN hm h1 h2 hz hb
      go_enter Try.func31, Try.ntmps31
      go_wp2
      go_ret
      exact ⟨rfl, rfl⟩
    · have g3 : decide (z ≤ 464) = false := by simp; omega
      have e := FIN false (by unfold longZ longN; simp; omega)
      rw [e]
      clear e FIN h1 h2 hz
      go_enter Try.func31, Try.ntmps31
      go_wp2
      go_ret
      exact ⟨rfl, rfl⟩
  · have g1 : decide (12 ≤ z) = false := by simp; omega
    have e := FIN false (by unfold longZ longN; simp; omega)
    rw [e]
    clear e FIN h1 hz
    go_enter Try.func31, Try.ntmps31
    go_wp2
    go_ret
    exact ⟨rfl, rfl⟩

theorem rlong5_int (w : World) (z : Int) (hz : I64 z) :
    Calls Try.prog 33 #[.int .i64 z] w fun e w' => e = .returned (.bool (decide (longZ z))) ∧ w = w' := by
  unfold I64 at hz
  by_cases h0 : 0 ≤ z
  · obtain ⟨n, rfl⟩ : ∃ n : Nat, z = (n : Int) := ⟨z.toNat, by omega⟩
    have := rlong5_any w n (by omega)
    rwa [show decide (longZ (n : Int)) = decide (longN n) by rw [decide_eq_decide]; exact longZ_nat n]
  · have g1 : decide (12 ≤ z) = false := by simp; omega
    have e : decide (longZ z) = false := by rw [decide_eq_false_iff_not]; unfold longZ; omega
    rw [e]
    clear e h0 hz
    go_enter Try.func33, Try.ntmps33
    go_wp2
    go_ret
    exact ⟨rfl, rfl⟩

/-- The test that is handed to ContainsFunc: may the field not be? -/
theorem pmayNot_any (w : World) (t : Int) (p : Option Addr) (n c : Nat) (hn : n < 9223372036854775808) :
    Calls Try.prog 30 #[.agg #[.int .u16 t, .slice p n c]] w fun e w' => e = .returned (.bool (!decide (longN n))) ∧ Below w.heap.size w w' := by
  have PD := Lib.hid (fun w => pdata_any w (n : Int) (by unfold I64; omega))
  rw [show decide (longZ (n : Int)) = decide (longN n) by rw [decide_eq_decide]; exact longZ_nat n] at PD
  generalize decide (longN n) = b at *
  have L0 : Hid (Below w.heap.size w (w.alloc (.cells #[.int .u16 t, .slice p n c] 44))) := (Below.refl _ _).alloc (Nat.le_refl _) _
  clear hn
  go_enter Try.func30, Try.ntmps30
  go_wp2_with fail
  refine (PD.out _).mono ?_; rintro e w' ⟨rfl, rfl⟩
  go_wp2
  go_ret
  exact ⟨rfl, L0.out⟩

/-- The first so many fields may be. -/
def goodN (l : Says) (k : Nat) : Prop := ∀ x ∈ l.take k, longN x.2.length

set_option maxHeartbeats 1600000 in
theorem pindex_may (w : World) (p : Option Addr) (n c : Nat) (fs : List Fld) (hx : HoldsX w p n c fs) :
    Calls Try.prog 27 #[.slice p n c, .func (.func 30) #[] #[]] w fun e w' => (∃ z : Int, e = .returned (.int .i64 z) ∧ -1 ≤ z ∧ z ≤ n ∧ (0 ≤ z ↔ ¬ ∀ x ∈ says fs, longN x.2.length)) ∧ Below w.heap.size w w' := by
  have mx := hx.max
  have cp := hx.cap
  unfold maxLen at mx
  have nb : (n : Int) ≤ 9223372036854775807 := by omega
  have ln := hx.len
  have HX := Lib.hid hx
  have LN := Lib.hid ln
  have NB : Hid (n < 9223372036854775808) := by unfold Hid; omega
  clear hx mx cp ln
  go_enter Try.func27, Try.ntmps27
  go_wp2_with fail
  go_loopw [8] (fun i wr => ∃ k : Nat, i = .int .i64 k ∧ Hid (k ≤ n) ∧ Hid (goodN (says fs) k) ∧ Hid (Below w.heap.size w wr)) (fun i _ => n - (intOf i).toNat)
  case atStart => exact ⟨0, rfl, Nat.zero_le _, (fun x hx => by simp at hx), Below.refl _ _⟩
  case round =>
    obtain ⟨k, rfl, hk, ok, low⟩ := hrel
    have kb : (k : Int) ≤ 9223372036854775807 := by have := hk.out; have := NB.out; omega
    by_cases g : k < n
    · have g' : (k : Int) < (n : Int) := by omega
      obtain ⟨a, f, rfl, hf, c0, c1, hh⟩ := (HX.out.below low.out).at g
      have lf : f.ds.length = f.n := by have := hh.len; rwa [valsN_len] at this
      have fb : f.n < 9223372036854775808 := by have := hh.cap; have := hh.max; unfold maxLen at this; omega
      have PM := Lib.hid (fun w => pmayNot_any w (f.ty : Nat) f.p f.n f.c fb)
      obtain ⟨d, hd⟩ : ∃ d, decide (longN f.n) = d := ⟨_, rfl⟩
      rw [hd] at PM
      have SX := Lib.hid (take_snoc (says_get hf))
      have G := Lib.hid g
      have LF := Lib.hid lf
      have HD := Lib.hid hd
      have HF := Lib.hid (says_get hf)
      clear g hf hh lf fb hd hk
      go_wp2_with fail
      refine (PM.out _).mono ?_; rintro e w2 ⟨rfl, l2⟩
      have L2 : Hid (Below w.heap.size w w2) := low.out.trans (l2.mono low.out.size)
      clear l2
      rcases d with _ | _
      · go_wp2
        go_ret
        refine ⟨⟨(k : Int), rfl, by omega, by have := G.out; omega, fun _ h => ?_, fun _ => by omega⟩, L2.out⟩
        have h2 := of_decide_eq_false HD.out
        rw [← LF.out] at h2
        exact h2 (h _ (List.mem_of_getElem? HF.out))
      · go_wp2
        go_roundw
        case rel =>
          refine ⟨k + 1, by go_num, by have := G.out; exact this, fun x hx => ?_, L2⟩
          rw [SX.out] at hx
          rcases List.mem_append.1 hx with h | h
          · exact ok.out x h
          · obtain rfl : x = (f.ty, f.ds) := by simpa using h
            have h2 := of_decide_eq_true HD.out
            rw [← LF.out] at h2
            exact h2
        case measure => simp [intOf]; have := G.out; omega
    · have g' : (n : Int) ≤ (k : Int) := by omega
      have FIN : Hid (∀ x ∈ says fs, longN x.2.length) := by
        have o := ok.out
        unfold goodN at o
        rwa [List.take_of_length_le (by rw [says_len, LN.out]; omega)] at o
      clear g ok hk
      go_wp2
      go_ret
      exact ⟨⟨-1, rfl, by omega, by omega, fun h => absurd h (by omega), fun h => absurd FIN.out h⟩, low.out⟩

theorem pcontains_may (w : World) (p : Option Addr) (n c : Nat) (fs : List Fld) (hx : HoldsX w p n c fs) :
    Calls Try.prog 32 #[.slice p n c, .func (.func 30) #[] #[]] w fun e w' => e = .returned (.bool (!decide (∀ x ∈ says fs, longN x.2.length))) ∧ Below w.heap.size w w' := by
  have PI := Lib.hid (pindex_may w p n c fs hx)
  clear hx
  go_enter Try.func32, Try.ntmps32
  go_wp2_with fail
  refine PI.out.mono ?_; rintro e w' ⟨⟨z, rfl, z0, z1, z2⟩, low⟩
  have E : Hid (decide (0 ≤ z) = !decide (∀ x ∈ says fs, longN x.2.length)) := by
    unfold Hid
    rw [Bool.eq_iff_iff, decide_eq_true_iff, z2]
    simp
  have LOW := Lib.hid low
  clear z2 z0 z1 low
  obtain ⟨d, hd⟩ : ∃ d, decide (0 ≤ z) = d := ⟨_, rfl⟩
  rw [hd] at E
  go_wp2
  go_ret
  exact ⟨ret_bool E.out, LOW.out⟩

theorem pmay5_any (w : World) (p : Option Addr) (n c : Nat) (fs : List Fld) (hx : HoldsX w p n c fs) :
    Calls Try.prog 17 #[.slice p n c] w fun e w' => e = .returned (.bool (decide (mayX (says fs)))) ∧ Below w.heap.size w w' := by
  have PC := Lib.hid (pcontains_may w p n c fs hx)
  have ln := hx.len
  have mx := hx.max
  have cp := hx.cap
  unfold maxLen at mx
  have nb : (n : Int) ≤ 9223372036854775807 := by omega
  obtain ⟨b, hb⟩ : ∃ b, decide (mayX (says fs)) = b := ⟨_, rfl⟩
  rw [hb]
  by_cases g : n ≤ 8
  · have g1 : decide ((n : Int) ≤ 8) = true := by simp; omega
    have g2 : (n : Int) ≤ 8 := by omega
    have E : Hid (b = decide (∀ x ∈ says fs, longN x.2.length)) := by
      unfold Hid
      rw [← hb, Bool.eq_iff_iff, decide_eq_true_iff, decide_eq_true_iff]
      unfold mayX
      rw [says_len, ln]
      exact ⟨fun h => h.1, fun h => ⟨h, g⟩⟩
    obtain ⟨d, hd⟩ : ∃ d, decide (∀ x ∈ says fs, longN x.2.length) = d := ⟨_, rfl⟩
    rw [hd] at E PC
    clear hx ln mx cp hb g hd
    go_enter Try.func17, Try.ntmps17
    go_wp2_with fail
    refine PC.out.mono ?_; rintro e w' ⟨rfl, low⟩
    have LOW := Lib.hid low
    clear low
    rcases d with _ | _
    · go_wp2
      go_ret
      exact ⟨ret_bool E.out.symm, LOW.out⟩
    · go_wp2
      go_ret
      exact ⟨ret_bool E.out.symm, LOW.out⟩
  · have g1 : decide ((n : Int) ≤ 8) = false := by simp; omega
    have g2 : ¬ (n : Int) ≤ 8 := by omega
    have E : b = false := by
      rw [← hb]
      refine decide_eq_false fun m => g ?_
      have := m.2
      rwa [says_len, ln] at this
    subst E
    clear hx ln mx cp hb g PC
    go_enter Try.func17, Try.ntmps17
    go_wp2
    go_ret
    exact ⟨rfl, Below.refl _ _⟩
end Go.Proofs.Yteclcefeipjoeaa
