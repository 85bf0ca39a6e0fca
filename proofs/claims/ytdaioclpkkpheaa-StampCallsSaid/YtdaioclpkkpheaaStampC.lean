/- Contracts of package stamp (layer 2): StampNs, the nearest era by its closure. -/
import Derived.Test.YtdaioclpkkpheaaStampB
import Derived.LoopTactic
namespace Go.Proofs.Ytdaioclpkkpheaa
open Go.ChangeShapes Go.WideShapes Go.ChangeAt Go.RowKit StampM

theorem far_in (x p : Int) (h1 : -4294967296000000000 ≤ x) (h2 : x ≤ 8589934592000000000) (g1 : 0 ≤ p) (g2 : p ≤ 4611686018427387904) : 0 ≤ far x p ∧ far x p ≤ 9223372036854775807 := by
  unfold far; split <;> omega

theorem away_of (x p d : Int) (h1 : -4294967296000000000 ≤ x) (h2 : x ≤ 8589934592000000000) (g1 : 0 ≤ p) (g2 : p ≤ 4611686018427387904) (hd : far x p = d) (a : Addr) (w : World) (hc : w.cell? a = some (.int .i64 p)) :
    Calls Try.prog 23 #[.int .i64 x, .pointer (some a)] w fun e w' => e = .returned (.int .i64 d) ∧ w = w' := by
  by_cases c : x < p
  · have D : Hid (p - x = d) := by unfold Hid; rw [← hd]; unfold far; rw [if_pos c]
    clear hd
    go_enter Try.func23, Try.ntmps23
    go_wp2
    go_ret
    exact ⟨ret_int D.out, rfl⟩
  · have D : Hid (x - p = d) := by unfold Hid; rw [← hd]; unfold far; rw [if_neg c]
    have c' : p ≤ x := by omega
    clear hd c
    go_enter Try.func23, Try.ntmps23
    go_wp2
    go_ret
    exact ⟨ret_int D.out, rfl⟩

theorem away_at (x p d : Int) (h1 : -4294967296000000000 ≤ x) (h2 : x ≤ 8589934592000000000) (g1 : 0 ≤ p) (g2 : p ≤ 4611686018427387904) (hd : Hid (far x p = d)) (a : Addr) (w : World) (hc : w.cell? a = some (.int .i64 p)) :
    Calls Try.prog 23 #[.int .i64 x, .pointer (some a)] w fun e w' => e = .returned (.int .i64 d) ∧ w = w' := away_of x p d h1 h2 g1 g2 hd.out a w hc

theorem eras_0 (w : World) : (Instr.index 48 (.agg #[.int .i64 (-1), .int .i64 0, .int .i64 1]) (.int .i64 0)).run Try.prog w = .ok (.int .i64 (-1)) w := by
  rfl
theorem eras_1 (w : World) : (Instr.index 48 (.agg #[.int .i64 (-1), .int .i64 0, .int .i64 1]) (.int .i64 1)).run Try.prog w = .ok (.int .i64 0) w := by
  rfl
theorem eras_2 (w : World) : (Instr.index 48 (.agg #[.int .i64 (-1), .int .i64 0, .int .i64 1]) (.int .i64 2)).run Try.prog w = .ok (.int .i64 1) w := by
  rfl

set_option maxHeartbeats 1600000 in
theorem stampns_any (u : Nat) (hu : u < 18446744073709551616) (p : Int) (h : I64 p) (w : World) :
    Calls Try.prog 14 #[.int .u64 u, .int .i64 p] w fun e w' => e = .returned (.int .i64 (stampNsN u p)) ∧ Out w w' := by
  obtain ⟨P, hP⟩ : ∃ P, P = inP p := ⟨_, rfl⟩
  obtain ⟨hi, lo, md, W, -, l0, E1, -, E3, E4, hW, b1, b2, b3, b4⟩ := within_parts u hu
  have EM : bits .and .u64 (u : Int) 4294967295 = (lo : Int) := by rw [Go.Proofs.Mul64.maskN u hu, l0]
  have EP : min (max p 0) 4611686018427387904 = P := by rw [hP]; exact inP_minmax p
  have g1 : 0 ≤ P := by rw [hP]; exact (inP_in p).1
  have g2 : P ≤ 4611686018427387904 := by rw [hP]; exact (inP_in p).2
  obtain ⟨d0, d1, d2, B1, e1, B2, D0, D1, D2, D3, cs1, cs2, hB⟩ := three W P
  have fin : Hid (stampNsN u p = B2) := by unfold Hid stampNsN; rw [hB, ← hP, ← hW]
  replace D0 := Lib.hid D0
  replace D1 := Lib.hid D1
  replace D2 := Lib.hid D2
  replace D3 := Lib.hid D3
  have B1b : -4294967296000000000 ≤ B1 ∧ B1 ≤ 4294967296000000000 := by omega
  replace cs1 := Lib.hid cs1
  replace cs2 := Lib.hid cs2
  obtain ⟨p1, p2⟩ := h
  obtain ⟨B1a, B1b⟩ := B1b
  clear hP hW hB l0
  have i0 := eras_0
  have i1 := eras_1
  have i2 := eras_2
  go_enter Try.func14, Try.ntmps14
  go_wp2_with fail
  have cell : ((w.alloc (Obj.cells #[Value.int IntKind.i64 P] 2)).alloc (Obj.cells #[Value.int IntKind.i64 (-1), Value.int IntKind.i64 0, Value.int IntKind.i64 1] 48)).cell? ⟨w.heap.size, 0, none⟩ = some (.int .i64 P) := by simp [go_sem]
  replace cell := Lib.hid cell
  go_loop [33, 8] (fun k b => (k = .int .i64 0 ∧ b = .int .i64 (W + -4294967296000000000)) ∨ (k = .int .i64 1 ∧ b = .int .i64 (W + -4294967296000000000)) ∨ (k = .int .i64 2 ∧ b = .int .i64 B1) ∨ (k = .int .i64 3 ∧ b = .int .i64 B2)) (fun k _ => (3 - intOf k).toNat)
  case atStart => exact .inl ⟨rfl, rfl⟩
  case round =>
    rcases hrel with ⟨rfl, rfl⟩ | ⟨rfl, rfl⟩ | ⟨rfl, rfl⟩ | ⟨rfl, rfl⟩
    · go_wp2_with fail
      refine (away_at _ P d0 (by omega) (by omega) g1 g2 D0 ⟨w.heap.size, 0, none⟩ _ cell.out).mono ?_
      rintro e w' ⟨rfl, rfl⟩
      go_wp2_with fail
      refine (away_at _ P d0 (by omega) (by omega) g1 g2 D0 ⟨w.heap.size, 0, none⟩ _ cell.out).mono ?_
      rintro e w' ⟨rfl, rfl⟩
      go_wp2
      go_round
      case rel => exact .inr (.inl ⟨rfl, rfl⟩)
      case measure => simp [intOf]
    · rcases cs1.out with ⟨c, rfl⟩ | ⟨c, rfl⟩
      · go_wp2_with fail
        refine (away_at _ P d1 (by omega) (by omega) g1 g2 D1 ⟨w.heap.size, 0, none⟩ _ cell.out).mono ?_
        rintro e w' ⟨rfl, rfl⟩
        go_wp2_with fail
        refine (away_at _ P d0 (by omega) (by omega) g1 g2 D0 ⟨w.heap.size, 0, none⟩ _ cell.out).mono ?_
        rintro e w' ⟨rfl, rfl⟩
        go_wp2
        go_round
        case rel => exact .inr (.inr (.inl ⟨rfl, rfl⟩))
        case measure => simp [intOf]
      · go_wp2_with fail
        refine (away_at _ P d1 (by omega) (by omega) g1 g2 D1 ⟨w.heap.size, 0, none⟩ _ cell.out).mono ?_
        rintro e w' ⟨rfl, rfl⟩
        go_wp2_with fail
        refine (away_at _ P d0 (by omega) (by omega) g1 g2 D0 ⟨w.heap.size, 0, none⟩ _ cell.out).mono ?_
        rintro e w' ⟨rfl, rfl⟩
        go_wp2
        go_round
        case rel => exact .inr (.inr (.inl ⟨rfl, rfl⟩))
        case measure => simp [intOf]

    · rcases cs2.out with ⟨c, rfl⟩ | ⟨c, rfl⟩
      · go_wp2_with fail
        refine (away_at _ P d2 (by omega) (by omega) g1 g2 D2 ⟨w.heap.size, 0, none⟩ _ cell.out).mono ?_
        rintro e w' ⟨rfl, rfl⟩
        go_wp2_with fail
        refine (away_at _ P e1 (by omega) (by omega) g1 g2 D3 ⟨w.heap.size, 0, none⟩ _ cell.out).mono ?_
        rintro e w' ⟨rfl, rfl⟩
        go_wp2
        go_round
        case rel => exact .inr (.inr (.inr ⟨rfl, rfl⟩))
        case measure => simp [intOf]
      · go_wp2_with fail
        refine (away_at _ P d2 (by omega) (by omega) g1 g2 D2 ⟨w.heap.size, 0, none⟩ _ cell.out).mono ?_
        rintro e w' ⟨rfl, rfl⟩
        go_wp2_with fail
        refine (away_at _ P e1 (by omega) (by omega) g1 g2 D3 ⟨w.heap.size, 0, none⟩ _ cell.out).mono ?_
        rintro e w' ⟨rfl, rfl⟩
        go_wp2
        go_round
        case rel => exact .inr (.inr (.inr ⟨rfl, rfl⟩))
        case measure => simp [intOf]

    · go_wp2
      go_ret
      exact ⟨ret_int fin.out.symm, ((Out.refl w).alloc _ _).alloc _ _⟩
end Go.Proofs.Ytdaioclpkkpheaa
