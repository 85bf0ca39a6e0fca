/- Layer 6 (mac), the program's own table of keys: made. -/
import Derived.Test.YtkojgegfmhoomaaMacJ
import Derived.Test.YtkojgegfmhoomaaFrameT
namespace Go.Proofs.Ytkojgegfmhoomaa
open Go.ChangeShapes Go.WideShapes Go.ChangeAt Go.RowKit Go.Maps OctM

theorem pzero_any (w : World) (k : Ky) : Calls Try.prog 26 #[keyV k] w fun e w' => e = .returned (.bool (decide (k.id = 0))) ∧ Below w.heap.size w w' := by
  obtain ⟨id, a, b⟩ := k
  have L0 : Hid (Below w.heap.size w (w.alloc (.cells #[.int .u32 (id : Nat), .int .u64 (a : Nat), .int .u64 (b : Nat)] 25))) := (Below.refl _ _).alloc (Nat.le_refl _) _
  have EQ : Hid (((id : Int) == 0) = decide (id = 0)) := by
    unfold Hid
    rw [Bool.eq_iff_iff]
    simp only [beq_iff_eq, decide_eq_true_eq]
    omega
  unfold keyV
  simp only
  rw [← EQ.out]
  go_enter Try.func26, Try.ntmps26
  go_wp2
  go_ret
  exact ⟨rfl, L0.out⟩

set_option maxHeartbeats 1600000 in
theorem pindex_zero (w : World) (p : Option Addr) (n c : Nat) (ks : List Ky) (hx : HoldsK w p n c ks) :
    Calls Try.prog 30 #[.slice p n c, .func (.func 26) #[] #[]] w fun e w' => (∃ z : Int, e = .returned (.int .i64 z) ∧ -1 ≤ z ∧ z ≤ n ∧ (0 ≤ z ↔ zeroK ks)) ∧ Below w.heap.size w w' := by
  have mx := hx.max
  have cp := hx.cap
  unfold maxLen at mx
  have nb : (n : Int) ≤ 9223372036854775807 := by omega
  have HX := Lib.hid hx
  have LN := Lib.hid hx.len
  have NB : Hid (n < 9223372036854775808) := by unfold Hid; omega
  clear hx mx cp
  go_enter Try.func30, Try.ntmps30
  go_wp2_with fail
  go_loopw [8] (fun i wr => ∃ k : Nat, i = .int .i64 k ∧ Hid (k ≤ n) ∧ Hid (nzK ks k) ∧ Hid (Below w.heap.size w wr)) (fun i _ => n - (intOf i).toNat)
  case atStart => exact ⟨0, rfl, Nat.zero_le _, (fun i k h => absurd h (Nat.not_lt_zero _)), Below.refl _ _⟩
  case round =>
    obtain ⟨i, rfl, hk, nz, low⟩ := hrel
    have kb : (i : Int) ≤ 9223372036854775807 := by have := hk.out; have := NB.out; omega
    by_cases g : i < n
    · have g' : (i : Int) < (n : Int) := by omega
      have G : Hid (i + 1 ≤ n) := g
      obtain ⟨a, k, rfl, hf, c0, c1, c2⟩ := (HX.out.below low.out).at g
      have PM := Lib.hid (fun w => pzero_any w k)
      unfold keyV at PM
      obtain ⟨x, hx⟩ : ∃ x, x = k.id := ⟨_, rfl⟩
      obtain ⟨ya, hya⟩ : ∃ x, x = k.a := ⟨_, rfl⟩
      obtain ⟨yb, hyb⟩ : ∃ x, x = k.b := ⟨_, rfl⟩
      rw [← hx] at c0 PM
      rw [← hya] at c1 PM
      rw [← hyb] at c2 PM
      obtain ⟨d, hd⟩ : ∃ d, decide (x = 0) = d := ⟨_, rfl⟩
      rw [hd] at PM
      have HD := Lib.hid hd
      have HF := Lib.hid hf
      have HXK := Lib.hid hx
      clear g hf hd hk hx hya hyb
      go_wp2_with fail
      refine (PM.out _).mono ?_; rintro e w2 ⟨rfl, l2⟩
      have L2 : Hid (Below w.heap.size w w2) := low.out.trans (l2.mono low.out.size)
      clear l2
      rcases d with _ | _
      · go_wp2
        go_roundw
        case rel =>
          refine ⟨i + 1, by go_num, G, fun j l hj hl => ?_, L2⟩
          by_cases e : j = i
          · subst e
            rw [HF.out] at hl
            injection hl with hl
            subst hl
            rw [← HXK.out]
            exact of_decide_eq_false HD.out
          · exact nz.out j l (by omega) hl
        case measure => simp [intOf]; have := G.out; omega
      · go_wp2
        go_ret
        refine ⟨⟨(i : Int), rfl, by omega, by have := G.out; omega, fun _ => ⟨k, List.mem_of_getElem? HF.out, ?_⟩, fun _ => by omega⟩, L2.out⟩
        rw [← HXK.out]
        exact of_decide_eq_true HD.out
    · have g' : (n : Int) ≤ (i : Int) := by omega
      have NZ : Hid (¬ zeroK ks) := fun ⟨k, hk', e⟩ => by
        obtain ⟨j, hj, ej⟩ := List.getElem_of_mem hk'
        exact nz.out j k (by rw [LN.out] at hj; omega) (by rw [List.getElem?_eq_getElem hj, ej]) e
      clear hk nz g
      go_wp2
      go_ret
      exact ⟨⟨-1, rfl, by omega, by omega, fun h => absurd h (by omega), fun h => absurd h NZ.out⟩, low.out⟩

theorem pcontains_zero (w : World) (p : Option Addr) (n c : Nat) (ks : List Ky) (hx : HoldsK w p n c ks) :
    Calls Try.prog 25 #[.slice p n c, .func (.func 26) #[] #[]] w fun e w' => (∃ b : Bool, e = .returned (.bool b) ∧ (b = true ↔ zeroK ks)) ∧ Below w.heap.size w w' := by
  have PI := Lib.hid (pindex_zero w p n c ks hx)
  clear hx
  go_enter Try.func25, Try.ntmps25
  go_wp2_with fail
  refine PI.out.mono ?_; rintro e w' ⟨⟨z, rfl, z1, z2, hz⟩, low⟩
  have HZ := Lib.hid hz
  obtain ⟨b, hb⟩ : ∃ b, decide (0 ≤ z) = b := ⟨_, rfl⟩
  have HB : Hid (b = true ↔ 0 ≤ z) := by unfold Hid; rw [← hb]; exact decide_eq_true_iff
  clear hz PI z1 z2
  go_wp2
  go_ret
  exact ⟨⟨b, rfl, HB.out.trans HZ.out⟩, low⟩
end Go.Proofs.Ytkojgegfmhoomaa
