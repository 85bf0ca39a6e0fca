/- Layer 16 (leap), the program's: Vote: votes are counted in an array. -/
import Derived.Test.YtpfbdpoileepoaaLpD
import Derived.Test.YtpfbdpoileepoaaLpR
set_option maxRecDepth 100000
namespace Go.Proofs.Ytpfbdpoileepoaa
open Go.ChangeShapes Go.WideShapes Go.ChangeAt Go.RowKit SmM

theorem pcounts16 (w : World) (d : Nat) : Calls Try.prog 39 #[.int .u8 (d : Nat)] w fun r w' => r = .returned (.bool (decide (d < 3))) ∧ w' = w := by
  obtain ⟨s, hs⟩ : ∃ s, decide (d < 3) = s := ⟨_, rfl⟩
  have e : decide ((d : Int) < 3) = s := by rw [← hs, decide_eq_decide]; omega
  rw [hs]
  clear hs
  go_enter Try.func39, Try.ntmps39
  go_wp2
  go_ret
  exact ⟨rfl, rfl⟩
theorem vt_0 (x y z : Value) (w : World) : (Instr.index 74 (.agg #[x, y, z]) (.int .i64 0)).run Try.prog w = .ok x w := rfl
theorem vt_1 (x y z : Value) (w : World) : (Instr.index 74 (.agg #[x, y, z]) (.int .i64 1)).run Try.prog w = .ok y w := rfl
theorem vt_2 (x y z : Value) (w : World) : (Instr.index 74 (.agg #[x, y, z]) (.int .i64 2)).run Try.prog w = .ok z w := rfl
/-- The votes, counted so far, in their block. -/
structure VtS (w wr : World) (l : List Nat) (a : Nat) : Prop where
  bk : wr.heap[w.heap.size]? = some (.cells #[.int .i64 (saidN l 0 : Nat), .int .i64 (saidN l 1 : Nat), .int .i64 (saidN l 2 : Nat)] 74 (0, 0))
  low : Below w.heap.size w wr
  sum : a = sureN l
set_option maxHeartbeats 8000000 in
theorem pvote16 (w : World) (p : Option Addr) (n c : Nat) (l : List Nat) (h : Holds w p n c (valsN .u8 l)) (hn : n ≤ 1000) :
    Calls Try.prog 18 #[.slice p n c] w fun r w' => r = .returned (.tuple #[.int .u8 ((voteN l).1 : Nat), .bool (voteN l).2]) ∧ Below w.heap.size w w' := by
  have ln : l.length = n := by have := h.len; rwa [valsN_len] at this
  have HL := Lib.hid h
  have LN := Lib.hid ln
  have nb : (n : Int) ≤ 1000 := by omega
  have CB : Hid (∀ (q : Nat → Bool) i, (l.take i).countP q ≤ i) := fun q i => by
    have := List.countP_le_length (p := q) (l := l.take i)
    have := List.length_take_le i l
    omega
  clear h hn ln
  go_enter Try.func18, Try.ntmps18
  go_wp2_with fail
  go_loopw [5, 14] (fun aa ii wr => ∃ (i a : Nat), aa = .int .i64 (a : Nat) ∧ ii = .int .i64 (i : Nat) ∧ Hid (VtS w wr (l.take i) a ∧ i ≤ n)) (fun _ ii _ => 2000 - (intOf ii).toNat)
  case atStart => exact ⟨0, 0, rfl, rfl, ⟨⟨by rw [List.take_zero]; exact heap_alloc_new _ _, (Below.refl _ _).alloc (Nat.le_refl _) _, by rw [List.take_zero]; rfl⟩, Nat.zero_le _⟩⟩
  case round =>
    obtain ⟨i, a, rfl, rfl, I⟩ := hrel
    have i0 : (0 : Int) ≤ (i : Int) := by omega
    have i1 : (i : Int) ≤ 1000 := by have := I.out.2; omega
    by_cases z : i < n
    · have z1 : (i : Int) < (n : Int) := by omega
      obtain ⟨ap, rfl, cz⟩ := (HL.out.below I.out.1.low).atN z
      have il : i < l.length := by rw [LN.out]; exact z
      have CT := count_take (l := l) (i := i) il (fun d => decide (d < 3))
      have C0 := count_take (l := l) (i := i) il (fun d => decide (d = 0))
      have C1 := count_take (l := l) (i := i) il (fun d => decide (d = 1))
      have C2 := count_take (l := l) (i := i) il (fun d => decide (d = 2))
      obtain ⟨d, hd⟩ : ∃ d, l.getD i 0 = d := ⟨_, rfl⟩
      rw [hd] at cz CT C0 C1 C2
      have b0 := CB.out (fun d => decide (d = 0)) i
      have b1 := CB.out (fun d => decide (d = 1)) i
      have b2 := CB.out (fun d => decide (d = 2)) i
      have b3 := CB.out (fun d => decide (d < 3)) i
      have a3 := I.out.1.sum
      have BK := Lib.hid I.out.1.bk
      have LW := Lib.hid I.out.1.low
      have NX : Hid (i + 1 ≤ n) := z
      have PC := Lib.hid (fun w' => pcounts16 w' d)
      unfold saidN at BK
      unfold sureN at a3
      generalize (l.take i).countP (fun d => decide (d = 0)) = v0 at *
      generalize (l.take i).countP (fun d => decide (d = 1)) = v1 at *
      generalize (l.take i).countP (fun d => decide (d = 2)) = v2 at *
      rw [← a3] at CT b3
      have a1 : (a : Int) ≤ 1000 := by omega
      have a2 : (0 : Int) ≤ (a : Int) := by omega
      have vb : (v0 : Int) ≤ 1000 ∧ (v1 : Int) ≤ 1000 ∧ (v2 : Int) ≤ 1000 := by omega
      have x0 := blk_cell (o := 0) BK.out
      have x1 := blk_cell (o := 1) BK.out
      have x2 := blk_cell (o := 2) BK.out
      have f0 := blk_free (o := 0) BK.out
      have f1 := blk_free (o := 1) BK.out
      have f2 := blk_free (o := 2) BK.out
      simp only [List.getElem?_toArray, List.getElem?_cons_zero, List.getElem?_cons_succ] at x0 x1 x2
      obtain ⟨vb0, vb1, vb2⟩ := vb
      have v00 : (0 : Int) ≤ (v0 : Int) := by omega
      have v10 : (0 : Int) ≤ (v1 : Int) := by omega
      have v20 : (0 : Int) ≤ (v2 : Int) := by omega
      by_cases q0 : d = 0
      · subst q0
        have BN : Hid (VtS w (wr.setCell ⟨w.heap.size, 0, none⟩ (.int .i64 ((v0 : Int) + 1))) (l.take (i + 1)) (a + 1)) := by
          refine ⟨?_, LW.out.setCell (p := ⟨w.heap.size, 0, none⟩) (Nat.le_refl _) _, by unfold sureN; rw [CT]; rfl⟩
          unfold saidN
          rw [C0, C1, C2]
          exact blk_set BK.out
        clear z il CT C0 C1 C2 hd b0 b1 b2 b3 a3 I
        go_wp2_with fail
        refine (PC.out _).mono ?_; rintro r7 w7 ⟨rfl, hw⟩
        obtain rfl := hw.symm
        go_wp2_with fail
        go_roundw
        case rel => exact ⟨i + 1, a + 1, by go_num, by go_num, ⟨BN.out, NX.out⟩⟩
        case measure => simp [intOf]; omega
      by_cases q1 : d = 1
      · subst q1
        have BN : Hid (VtS w (wr.setCell ⟨w.heap.size, 1, none⟩ (.int .i64 ((v1 : Int) + 1))) (l.take (i + 1)) (a + 1)) := by
          refine ⟨?_, LW.out.setCell (p := ⟨w.heap.size, 1, none⟩) (Nat.le_refl _) _, by unfold sureN; rw [CT]; rfl⟩
          unfold saidN
          rw [C0, C1, C2]
          exact blk_set BK.out
        clear z il CT C0 C1 C2 hd b0 b1 b2 b3 a3 I
        go_wp2_with fail
        refine (PC.out _).mono ?_; rintro r7 w7 ⟨rfl, hw⟩
        obtain rfl := hw.symm
        go_wp2_with fail
        go_roundw
        case rel => exact ⟨i + 1, a + 1, by go_num, by go_num, ⟨BN.out, NX.out⟩⟩
        case measure => simp [intOf]; omega
      by_cases q2 : d = 2
      · subst q2
        have BN : Hid (VtS w (wr.setCell ⟨w.heap.size, 2, none⟩ (.int .i64 ((v2 : Int) + 1))) (l.take (i + 1)) (a + 1)) := by
          refine ⟨?_, LW.out.setCell (p := ⟨w.heap.size, 2, none⟩) (Nat.le_refl _) _, by unfold sureN; rw [CT]; rfl⟩
          unfold saidN
          rw [C0, C1, C2]
          exact blk_set BK.out
        clear z il CT C0 C1 C2 hd b0 b1 b2 b3 a3 I
        go_wp2_with fail
        refine (PC.out _).mono ?_; rintro r7 w7 ⟨rfl, hw⟩
        obtain rfl := hw.symm
        go_wp2_with fail
        go_roundw
        case rel => exact ⟨i + 1, a + 1, by go_num, by go_num, ⟨BN.out, NX.out⟩⟩
        case measure => simp [intOf]; omega
      have g : ¬ d < 3 := by omega
      have g1 : decide (d < 3) = false := decide_eq_false g
      have BN : Hid (VtS w wr (l.take (i + 1)) a) := by
        refine ⟨?_, LW.out, by unfold sureN; rw [CT, g1]; rfl⟩
        unfold saidN
        rw [C0, C1, C2, decide_eq_false q0, decide_eq_false q1, decide_eq_false q2]
        exact BK.out
      rw [g1] at PC
      clear z il CT C0 C1 C2 hd b0 b1 b2 b3 a3 I q0 q1 q2 g
      go_wp2_with fail
      refine (PC.out _).mono ?_; rintro r7 w7 ⟨rfl, hw⟩
      obtain rfl := hw.symm
      go_wp2_with fail
      go_roundw
      case rel => exact ⟨i + 1, a, rfl, by go_num, ⟨BN.out, NX.out⟩⟩
      case measure => simp [intOf]; omega
    · have z1 : (n : Int) ≤ (i : Int) := by omega
      have z2 : decide ((i : Int) < (n : Int)) = false := decide_eq_false (by omega)
      have LW := Lib.hid I.out.1.low
      have BK := Lib.hid I.out.1.bk
      have SM : Hid (a = sureN l) := by
        have := I.out.1.sum
        rwa [List.take_of_length_le (by rw [LN.out]; omega)] at this
      have ab : a ≤ 1000 := by
        have := CB.out (fun d => decide (d < 3)) n
        rw [List.take_of_length_le (by rw [LN.out]; omega)] at this
        have := SM.out
        unfold sureN at this
        omega
      have s0 := CB.out (fun d => decide (d = 0)) n
      have s1 := CB.out (fun d => decide (d = 1)) n
      have s2 := CB.out (fun d => decide (d = 2)) n
      rw [List.take_of_length_le (by rw [LN.out]; omega)] at s0 s1 s2 BK
      have S0 : Hid (saidN l 0 = l.countP fun d => decide (d = 0)) := rfl
      have S1 : Hid (saidN l 1 = l.countP fun d => decide (d = 1)) := rfl
      have S2 : Hid (saidN l 2 = l.countP fun d => decide (d = 2)) := rfl
      unfold saidN at BK
      generalize (l.countP fun d => decide (d = 0)) = v0 at *
      generalize (l.countP fun d => decide (d = 1)) = v1 at *
      generalize (l.countP fun d => decide (d = 2)) = v2 at *
      have a0 : (0 : Int) ≤ (a : Int) := by omega
      have a1 : (a : Int) ≤ 1000 := by omega
      have x0 := blk_cell (o := 0) BK.out
      have x1 := blk_cell (o := 1) BK.out
      have x2 := blk_cell (o := 2) BK.out
      simp only [List.getElem?_toArray, List.getElem?_cons_zero, List.getElem?_cons_succ] at x0 x1 x2
      obtain ⟨s0, hs0'⟩ : ∃ s0, (a : Int) - (v0 : Int) = s0 := ⟨_, rfl⟩
      obtain ⟨s1, hs1'⟩ : ∃ s1, (a : Int) - (v1 : Int) = s1 := ⟨_, rfl⟩
      obtain ⟨s2, hs2'⟩ : ∃ s2, (a : Int) - (v2 : Int) = s2 := ⟨_, rfl⟩
      have hs0 := Lib.hid hs0'
      have hs1 := Lib.hid hs1'
      have hs2 := Lib.hid hs2'
      obtain ⟨u1, u2⟩ := wr16 (x := s0) (by unfold I64; omega)
      obtain ⟨u3, u4⟩ := wr16 (x := s1) (by unfold I64; omega)
      obtain ⟨u5, u6⟩ := wr16 (x := s2) (by unfold I64; omega)
      clear z I ab i1
      go_wp2_with fail
      try rw [show decide (i < n) = false from decide_eq_false (by omega)]
      clear z1 z2 i0
      obtain ⟨V, rfl⟩ : ∃ V, V = wr := ⟨_, rfl⟩
      go_loopw [30] (fun bb wr => ∃ (b : Nat) (z : Int), bb = .int .i64 z ∧ Hid (z = (b : Int) ∧ b ≤ 3 ∧ ∀ d, d < b → ¬ sureN l < 2 * saidN l d) ∧ wr = V) (fun bb _ => 10 - (intOf bb).toNat)
      case atStart => exact ⟨0, 0, rfl, ⟨rfl, by decide, fun d hd => absurd hd (Nat.not_lt_zero _)⟩, rfl⟩
      case round =>
        obtain ⟨b, z, rfl, J, rfl⟩ := hrel
        have hz := J.out.1
        have b3 : b = 0 ∨ b = 1 ∨ b = 2 ∨ b = 3 := by have := J.out.2.1; omega
        rcases b3 with e0 | e1 | e2 | e3
        · subst e0
          obtain rfl : z = 0 := hz
          have ix := vt_0 (.int .i64 (v0 : Nat)) (.int .i64 (v1 : Nat)) (.int .i64 (v2 : Nat))
          by_cases g : s0 < (v0 : Int)
          · have g1 : decide (s0 < (v0 : Int)) = true := decide_eq_true g
            have FV : Hid (voteN l = (0, true)) := vote_yes J.out.2.2 (by decide) (by have := SM.out; have := S0.out; have := hs0.out; omega)
            clear J g
            go_wp2
            go_ret2
            rw [FV.out]
            exact ⟨rfl, LW.out⟩
          · have g1 : decide (s0 < (v0 : Int)) = false := decide_eq_false g
            have IN : Hid ((1 : Int) = ((0 + 1 : Nat) : Int) ∧ 0 + 1 ≤ 3 ∧ ∀ d, d < 0 + 1 → ¬ sureN l < 2 * saidN l d) := ⟨rfl, by decide, fun d hd => by
              by_cases e : d = 0
              · have := SM.out; have := S0.out; have := hs0.out; rw [e]; omega
              · exact J.out.2.2 d (by omega)⟩
            clear J g
            go_wp2_with fail
            go_roundw
            case rel => exact ⟨0 + 1, 1, rfl, IN, trivial⟩
            case measure => simp [intOf]
        · subst e1
          obtain rfl : z = 1 := hz
          have ix := vt_1 (.int .i64 (v0 : Nat)) (.int .i64 (v1 : Nat)) (.int .i64 (v2 : Nat))
          by_cases g : s1 < (v1 : Int)
          · have g1 : decide (s1 < (v1 : Int)) = true := decide_eq_true g
            have FV : Hid (voteN l = (1, true)) := vote_yes J.out.2.2 (by decide) (by have := SM.out; have := S1.out; have := hs1.out; omega)
            clear J g
            go_wp2
            go_ret2
            rw [FV.out]
            exact ⟨rfl, LW.out⟩
          · have g1 : decide (s1 < (v1 : Int)) = false := decide_eq_false g
            have IN : Hid ((2 : Int) = ((1 + 1 : Nat) : Int) ∧ 1 + 1 ≤ 3 ∧ ∀ d, d < 1 + 1 → ¬ sureN l < 2 * saidN l d) := ⟨rfl, by decide, fun d hd => by
              by_cases e : d = 1
              · have := SM.out; have := S1.out; have := hs1.out; rw [e]; omega
              · exact J.out.2.2 d (by omega)⟩
            clear J g
            go_wp2_with fail
            go_roundw
            case rel => exact ⟨1 + 1, 2, rfl, IN, trivial⟩
            case measure => simp [intOf]
        · subst e2
          obtain rfl : z = 2 := hz
          have ix := vt_2 (.int .i64 (v0 : Nat)) (.int .i64 (v1 : Nat)) (.int .i64 (v2 : Nat))
          by_cases g : s2 < (v2 : Int)
          · have g1 : decide (s2 < (v2 : Int)) = true := decide_eq_true g
            have FV : Hid (voteN l = (2, true)) := vote_yes J.out.2.2 (by decide) (by have := SM.out; have := S2.out; have := hs2.out; omega)
            clear J g
            go_wp2
            go_ret2
            rw [FV.out]
            exact ⟨rfl, LW.out⟩
          · have g1 : decide (s2 < (v2 : Int)) = false := decide_eq_false g
            have IN : Hid ((3 : Int) = ((2 + 1 : Nat) : Int) ∧ 2 + 1 ≤ 3 ∧ ∀ d, d < 2 + 1 → ¬ sureN l < 2 * saidN l d) := ⟨rfl, by decide, fun d hd => by
              by_cases e : d = 2
              · have := SM.out; have := S2.out; have := hs2.out; rw [e]; omega
              · exact J.out.2.2 d (by omega)⟩
            clear J g
            go_wp2_with fail
            go_roundw
            case rel => exact ⟨2 + 1, 3, rfl, IN, trivial⟩
            case measure => simp [intOf]
        · subst e3
          obtain rfl : z = 3 := hz
          have FV : Hid (voteN l = (0, false)) := vote_no fun d hd => J.out.2.2 d hd
          clear J
          go_wp2
          go_ret2
          rw [FV.out]
          exact ⟨rfl, LW.out⟩
end Go.Proofs.Ytpfbdpoileepoaa
