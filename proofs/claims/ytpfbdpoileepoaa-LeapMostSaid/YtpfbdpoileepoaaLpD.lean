/- Layer 16 (leap), work ahead, the document's own: Vote. -/
import Derived.Test.YtpfbdpoileepoaaLpS
import Derived.Test.YtpfbdpoileepoaaSlice
set_option maxRecDepth 100000
namespace Go.Proofs.Ytpfbdpoileepoaa
open Go.ChangeShapes Go.WideShapes Go.ChangeAt Go.RowKit SmM

theorem count_take {l : List Nat} {i : Nat} (h : i < l.length) (p : Nat → Bool) : (l.take (i + 1)).countP p = (l.take i).countP p + (if p (l.getD i 0) = true then 1 else 0) := by
  rw [List.take_succ_eq_append_getElem h, List.countP_append, List.countP_singleton, List.getD_eq_getElem?_getD, List.getElem?_eq_getElem h]
  rfl
theorem vote_yes {l : List Nat} {b : Nat} (no : ∀ d, d < b → ¬ sureN l < 2 * saidN l d) (h : b < 3) (y : sureN l < 2 * saidN l b) : voteN l = (b, true) := by
  unfold voteN
  rcases b with _ | _ | _ | b
  · rw [if_pos y]
  · rw [if_neg (no 0 (by omega)), if_pos y]
  · rw [if_neg (no 0 (by omega)), if_neg (no 1 (by omega)), if_pos y]
  · omega
theorem vote_no {l : List Nat} (no : ∀ d, d < 3 → ¬ sureN l < 2 * saidN l d) : voteN l = (0, false) := by
  unfold voteN
  rw [if_neg (no 0 (by omega)), if_neg (no 1 (by omega)), if_neg (no 2 (by omega))]
set_option maxHeartbeats 8000000 in
theorem rvote16 (w : World) (p : Option Addr) (n c : Nat) (l : List Nat) (h : Holds w p n c (valsN .u8 l)) (hd : ∀ d ∈ l, d < 256) (hn : n ≤ 1000) :
    Calls Try.prog 19 #[.slice p n c] w fun r w' => r = .returned (.tuple #[.int .u8 ((voteN l).1 : Nat), .bool (voteN l).2]) ∧ w' = w := by
  have ln : l.length = n := by have := h.len; rwa [valsN_len] at this
  have HL := Lib.hid h
  have LN := Lib.hid ln
  have HH : Hid (∀ i, i < n → l.getD i 0 < 256) := fun i hi => by
    rw [List.getD_eq_getElem?_getD, List.getElem?_eq_getElem (by omega)]
    exact hd _ (List.getElem_mem _)
  have nb : (n : Int) ≤ 1000 := by omega
  have CB : Hid (∀ (q : Nat → Bool) i, (l.take i).countP q ≤ i) := fun q i => by
    have := List.countP_le_length (p := q) (l := l.take i)
    have := List.length_take_le i l
    omega
  clear h hd hn ln
  go_enter Try.func19, Try.ntmps19
  go_wp2_with fail
  go_loopw [4, 5] (fun aa ii wr => ∃ (i a : Nat), aa = .int .i64 (a : Nat) ∧ ii = .int .i64 (i : Nat) ∧ Hid (a = sureN (l.take i) ∧ i ≤ n) ∧ wr = w) (fun _ ii _ => 2000 - (intOf ii).toNat)
  case atStart => exact ⟨0, 0, rfl, rfl, ⟨by rw [List.take_zero]; rfl, Nat.zero_le _⟩, rfl⟩
  case round =>
    obtain ⟨i, a, rfl, rfl, I, rfl⟩ := hrel
    have i0 : (0 : Int) ≤ (i : Int) := by omega
    by_cases z : i < n
    · have z1 : (i : Int) < (n : Int) := by omega
      obtain ⟨ap, rfl, cz⟩ := HL.out.atN z
      have CT := count_take (l := l) (i := i) (by rw [LN.out]; exact z) (fun d => decide (d < 3))
      have DB := HH.out i z
      obtain ⟨d, hd⟩ : ∃ d, l.getD i 0 = d := ⟨_, rfl⟩
      rw [hd] at cz CT DB
      have ab : a ≤ i := by rw [I.out.1]; exact CB.out _ i
      have ia : a = (l.take i).countP (fun d => decide (d < 3)) := I.out.1
      rw [← ia] at CT
      have a0 : (0 : Int) ≤ (a : Int) := by omega
      have a1 : (a : Int) ≤ 1000 := by omega
      have NX : Hid (i + 1 ≤ n) := z
      by_cases g : d < 3
      · have g1 : (d : Int) < 3 := by omega
        have g2 : decide ((d : Int) < 3) = true := decide_eq_true g1
        rw [if_pos (decide_eq_true g)] at CT
        have IN : Hid (a + 1 = sureN (l.take (i + 1)) ∧ i + 1 ≤ n) := ⟨CT.symm, NX.out⟩
        clear z CT DB hd ab ia I g
        go_wp2_with fail
        go_roundw
        case rel => exact ⟨i + 1, a + 1, by go_num, by go_num, IN, trivial⟩
        case measure => simp [intOf]; omega
      · have g1 : (3 : Int) ≤ (d : Int) := by omega
        have g2 : decide ((d : Int) < 3) = false := decide_eq_false (by omega)
        rw [if_neg (by simpa using g)] at CT
        have IN : Hid (a = sureN (l.take (i + 1)) ∧ i + 1 ≤ n) := ⟨CT.symm, NX.out⟩
        clear z CT DB hd ab ia I g
        go_wp2_with fail
        go_roundw
        case rel => exact ⟨i + 1, a, rfl, by go_num, IN, trivial⟩
        case measure => simp [intOf]; omega
    · have z1 : (n : Int) ≤ (i : Int) := by omega
      have z2 : decide ((i : Int) < (n : Int)) = false := decide_eq_false (by omega)
      have SA : Hid (a = sureN l) := by
        have := I.out.1
        rwa [List.take_of_length_le (by rw [LN.out]; omega)] at this
      have ab : a ≤ n := by rw [I.out.1]; have := CB.out (fun d => decide (d < 3)) i; unfold sureN; have := I.out.2; omega
      have a0 : (0 : Int) ≤ (a : Int) := by omega
      have a1 : (a : Int) ≤ 1000 := by omega
      clear z I ab
      go_wp2_with fail
      try rw [show decide (i < n) = false from decide_eq_false (by omega)]
      clear z1 z2 i0
      obtain ⟨V, rfl⟩ : ∃ V, V = wr := ⟨_, rfl⟩
      go_loopw [6] (fun bb wr => ∃ b : Nat, bb = .int .u8 (b : Nat) ∧ Hid (b ≤ 3 ∧ ∀ d, d < b → ¬ sureN l < 2 * saidN l d) ∧ wr = V) (fun bb _ => 10 - (intOf bb).toNat)
      case atStart => exact ⟨0, rfl, ⟨by decide, fun d hd => absurd hd (by omega)⟩, rfl⟩
      case round =>
        obtain ⟨b, rfl, I, rfl⟩ := hrel
        have b0 : (0 : Int) ≤ (b : Int) := by omega
        by_cases z : b < 3
        · have z1 : (b : Int) < 3 := by omega
          have z2 : decide ((b : Int) < 3) = true := decide_eq_true z1
          have B3 : Hid (b < 3) := z
          clear z
          go_wp2_with fail
          obtain ⟨V, rfl⟩ : ∃ V, V = wr := ⟨_, rfl⟩
          go_loopw [7, 8] (fun nn ii wr => ∃ (i k : Nat), nn = .int .i64 (k : Nat) ∧ ii = .int .i64 (i : Nat) ∧ Hid (k = saidN (l.take i) b ∧ i ≤ n) ∧ wr = V) (fun _ ii _ => 2000 - (intOf ii).toNat)
          case atStart => exact ⟨0, 0, rfl, rfl, ⟨by rw [List.take_zero]; rfl, Nat.zero_le _⟩, rfl⟩
          case round =>
            obtain ⟨i, k, rfl, rfl, J, rfl⟩ := hrel
            have i0 : (0 : Int) ≤ (i : Int) := by omega
            by_cases y : i < n
            · have y1 : (i : Int) < (n : Int) := by omega
              obtain ⟨ap, rfl, cz⟩ := HL.out.atN y
              have CT := count_take (l := l) (i := i) (by rw [LN.out]; exact y) (fun d => decide (d = b))
              obtain ⟨d, hd⟩ : ∃ d, l.getD i 0 = d := ⟨_, rfl⟩
              rw [hd] at cz CT
              have kb : k ≤ i := by rw [J.out.1]; exact CB.out _ i
              have ik : k = (l.take i).countP (fun d => decide (d = b)) := J.out.1
              rw [← ik] at CT
              have k0 : (0 : Int) ≤ (k : Int) := by omega
              have k1 : (k : Int) ≤ 1000 := by omega
              have NX : Hid (i + 1 ≤ n) := y
              by_cases g : d = b
              · have g1 : ((d : Int) == (b : Int)) = true := by rw [beq_iff_eq, g]
                rw [if_pos (decide_eq_true g)] at CT
                have IN : Hid (k + 1 = saidN (l.take (i + 1)) b ∧ i + 1 ≤ n) := ⟨CT.symm, NX.out⟩
                clear y CT hd kb ik J
                subst g
                go_wp2_with fail
                go_roundw
                case rel => exact ⟨i + 1, k + 1, by go_num, by go_num, IN, trivial⟩
                case measure => simp [intOf]; omega
              · have g1 : ((d : Int) == (b : Int)) = false := by rw [beq_eq_false_iff_ne]; omega
                have g2 : ¬ (d : Int) = (b : Int) := by omega
                rw [if_neg (by simpa using g)] at CT
                have IN : Hid (k = saidN (l.take (i + 1)) b ∧ i + 1 ≤ n) := ⟨CT.symm, NX.out⟩
                clear y CT hd kb ik J
                go_wp2_with fail
                go_roundw
                case rel => exact ⟨i + 1, k, rfl, by go_num, IN, trivial⟩
                case measure => simp [intOf]; omega
            · have y1 : (n : Int) ≤ (i : Int) := by omega
              have y2 : decide ((i : Int) < (n : Int)) = false := decide_eq_false (by omega)
              have SK : Hid (k = saidN l b) := by
                have := J.out.1
                rwa [List.take_of_length_le (by rw [LN.out]; omega)] at this
              have kb : k ≤ n := by rw [J.out.1]; have := CB.out (fun d => decide (d = b)) i; unfold saidN; have := J.out.2; omega
              have k0 : (0 : Int) ≤ (k : Int) := by omega
              have k1 : (k : Int) ≤ 1000 := by omega
              obtain ⟨s, hs⟩ : ∃ s, (a : Int) - (k : Int) = s := ⟨_, rfl⟩
              obtain ⟨e1, e2⟩ := wr16 (x := s) (by unfold I64; omega)
              by_cases g : s < (k : Int)
              · have g1 : decide (s < (k : Int)) = true := decide_eq_true g
                have FV : Hid (voteN l = (b, true)) := vote_yes I.out.2 B3.out (by have := SA.out; have := SK.out; omega)
                clear y J kb g
                go_wp2
                go_ret2
                rw [FV.out]
                exact ⟨rfl, rfl⟩
              · have g1 : decide (s < (k : Int)) = false := decide_eq_false g
                have IN : Hid (b + 1 ≤ 3 ∧ ∀ d, d < b + 1 → ¬ sureN l < 2 * saidN l d) := ⟨B3.out, fun d hd => by
                  by_cases e : d = b
                  · rw [e, ← SA.out, ← SK.out]; omega
                  · exact I.out.2 d (by omega)⟩
                have u8 : IntKind.u8.wrap ((b : Int) + 1) = (b : Int) + 1 := by rw [IntKind.wrap_u8]; omega
                clear y J kb g
                go_wp2_with fail
                go_roundw
                case rel => exact ⟨b + 1, by go_num, IN, trivial⟩
                case measure => simp [intOf]; omega
        · have z1 : (3 : Int) ≤ (b : Int) := by omega
          have z2 : decide ((b : Int) < 3) = false := decide_eq_false (by omega)
          have FV : Hid (voteN l = (0, false)) := vote_no fun d hd => I.out.2 d (by omega)
          clear z I
          go_wp2
          go_ret2
          rw [FV.out]
          exact ⟨rfl, rfl⟩
end Go.Proofs.Ytpfbdpoileepoaa
