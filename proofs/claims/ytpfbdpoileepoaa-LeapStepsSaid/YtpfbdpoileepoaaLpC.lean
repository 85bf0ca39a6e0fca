/- Layer 16 (leap), work ahead, the document's own: Bits, Even. -/
import Derived.Test.YtpfbdpoileepoaaLpB
set_option maxRecDepth 100000
namespace Go.Proofs.Ytpfbdpoileepoaa
open Go.ChangeShapes Go.WideShapes Go.ChangeAt Go.RowKit SmM

set_option maxHeartbeats 2000000 in
theorem rbits16 {w : World} {N : Nat} {p : Option Addr} {n c : Nat} {l : List Lp} {e b : Int} (h : RfP w N p n c l e b) (t : Int) :
    Calls Try.prog 36 #[.pointer (some ⟨N, 0, none⟩), .int .i64 t] w fun e1 w' => e1 = .returned (.int .u8 (bitsI l e t : Nat)) ∧ Below w.heap.size w w' := by
  have x1 := blk_cell (o := 1) h.bk
  simp only [List.getElem?_toArray, List.getElem?_cons_zero, List.getElem?_cons_succ] at x1
  by_cases g : e ≤ t
  · have g1 : decide (e ≤ t) = true := decide_eq_true g
    have E : bitsI l e t = 3 := by unfold bitsI; rw [if_pos g]
    rw [E]
    clear h E
    go_enter Try.func36, Try.ntmps36
    go_wp2
    go_ret
    exact ⟨rfl, Below.refl _ _⟩
  · have g1 : decide (e ≤ t) = false := decide_eq_false g
    have NX := Lib.hid (rnext16 h t)
    have E : bitsI l e t = bitsO t (nextI l t) := by unfold bitsI; rw [if_neg g]
    have IN : ∀ y, nextI l t = some y → dayI ≤ y.t ∧ y.t ≤ topI := fun y hy => by
      have := h.ok.1 y (List.mem_of_find?_eq_some hy)
      exact ⟨this.1, this.2.1⟩
    unfold NextE at NX
    rw [E]
    generalize nextI l t = o at *
    clear h E g
    cases o with
    | none =>
      have E0 : bitsO t none = 0 := rfl
      rw [E0]
      go_enter Try.func36, Try.ntmps36
      go_wp2_with fail
      refine NX.out.mono ?_; rintro e1 w1 ⟨rfl, b1⟩
      have L1 := Lib.hid (b1.alloc b1.size (.cells #[.int .i64 0, .int .i64 0] 33))
      clear b1 NX
      go_wp2
      go_ret
      exact ⟨rfl, L1.out⟩
    | some y =>
      have yb := IN y rfl
      unfold bitsO
      obtain ⟨yt, yk⟩ := y
      unfold dayI topI at yb
      unfold dayI
      dsimp only at yb NX ⊢
      obtain ⟨f, hf⟩ : ∃ f, yt - 86400000000000 = f := ⟨_, rfl⟩
      rw [hf]
      obtain ⟨w1, w2⟩ := wr16 (x := f) (by unfold I64; omega)
      clear yb IN
      by_cases q : t < f
      · have q1 : decide (t < f) = true := decide_eq_true q
        rw [if_pos q]
        clear q
        go_enter Try.func36, Try.ntmps36
        go_wp2_with fail
        refine NX.out.mono ?_; rintro e1 w1 ⟨rfl, b1⟩
        have L1 := Lib.hid (b1.alloc b1.size (.cells #[.int .i64 yt, .int .i64 yk] 33))
        clear b1 NX
        go_wp2
        go_ret
        exact ⟨rfl, L1.out⟩
      · have q1 : decide (t < f) = false := decide_eq_false q
        rw [if_neg q]
        clear q
        by_cases k1 : yk = 1
        · have k2 : (yk == 1) = true := by rw [beq_iff_eq]; exact k1
          rw [if_pos k1]
          clear k1
          go_enter Try.func36, Try.ntmps36
          go_wp2_with fail
          refine NX.out.mono ?_; rintro e1 w1 ⟨rfl, b1⟩
          have L1 := Lib.hid (b1.alloc b1.size (.cells #[.int .i64 yt, .int .i64 yk] 33))
          clear b1 NX
          go_wp2
          go_ret
          exact ⟨rfl, L1.out⟩
        · have k2 : (yk == 1) = false := by rw [beq_eq_false_iff_ne]; exact k1
          rw [if_neg k1]
          go_enter Try.func36, Try.ntmps36
          go_wp2_with fail
          refine NX.out.mono ?_; rintro e1 w1 ⟨rfl, b1⟩
          have L1 := Lib.hid (b1.alloc b1.size (.cells #[.int .i64 yt, .int .i64 yk] 33))
          clear b1 NX
          go_wp2
          go_ret
          exact ⟨rfl, L1.out⟩

/-! ### Even -/
def CandP (l : List Lp) (b p : Int) (i : Bool) (t : Int) : Prop := 0 ≤ t ∧ t ≤ topI ∧ labI l b t = p ∧ insB l t = i
/-- The least of those that were looked at; -1: none. -/
def BestI (l : List Lp) (b p : Int) (i : Bool) (n v : Int) : Prop :=
  (v = -1 ∧ ∀ m, -1040 ≤ m → m < n → ¬ CandP l b p i (p + m * 1000000000)) ∨ (∃ m, -1040 ≤ m ∧ m < n ∧ v = p + m * 1000000000 ∧ CandP l b p i v ∧ ∀ m', -1040 ≤ m' → m' < m → ¬ CandP l b p i (p + m' * 1000000000))
theorem best_end {l : List Lp} (ok : OkL l) (hl : l.length ≤ 32) {b : Int} (bb : -1000 ≤ b ∧ b ≤ 1000) {p v : Int} {i : Bool} (h : BestI l b p i 1041 v) : (v < 0 → EvenP l b p i 0 false) ∧ (0 ≤ v → EvenP l b p i v true) := by
  have all : ∀ u, labI l b u = p → ∃ m, -1040 ≤ m ∧ m < 1041 ∧ u = p + m * 1000000000 := fun u hu => by
    have := off_bound ok hl bb u
    unfold labI at hu
    exact ⟨offI l b u, by omega, by omega, by omega⟩
  rcases h with ⟨rfl, no⟩ | ⟨m, m0, m1, rfl, c, no⟩
  · refine ⟨fun _ => .inr ⟨rfl, rfl, fun u u0 u1 q => ?_⟩, fun g => absurd g (by omega)⟩
    obtain ⟨m, m0, m1, hm⟩ := all u q.1
    exact no m m0 m1 (by rw [← hm]; exact ⟨u0, u1, q⟩)
  · refine ⟨fun g => absurd g (by have := c.1; omega), fun _ => .inl ⟨rfl, c.1, c.2.1, c.2.2.1, c.2.2.2, fun u u0 u1 q => ?_⟩⟩
    obtain ⟨m', m0', m1', hm⟩ := all u q.1
    exact no m' m0' (by omega) (by rw [← hm]; exact ⟨u0, by have := c.2.1; omega, q⟩)
theorem best_no {l : List Lp} {b p n v : Int} {i : Bool} (h : BestI l b p i n v) (q : ¬ CandP l b p i (p + n * 1000000000)) : BestI l b p i (n + 1) v := by
  rcases h with ⟨rfl, no⟩ | ⟨m, m0, m1, e, c, no⟩
  · refine .inl ⟨rfl, fun m m0 m1 => ?_⟩
    by_cases e : m = n
    · rw [e]; exact q
    · exact no m m0 (by omega)
  · exact .inr ⟨m, m0, by omega, e, c, no⟩
theorem best_yes {l : List Lp} {b p n v : Int} {i : Bool} (h : BestI l b p i n v) (n0 : -1040 ≤ n) (q : CandP l b p i (p + n * 1000000000)) : (v < 0 → BestI l b p i (n + 1) (p + n * 1000000000)) ∧ (0 ≤ v → BestI l b p i (n + 1) v ∧ v < p + n * 1000000000) := by
  rcases h with ⟨rfl, no⟩ | ⟨m, m0, m1, e, c, no⟩
  · exact ⟨fun _ => .inr ⟨n, n0, by omega, rfl, q, no⟩, fun g => absurd g (by omega)⟩
  · exact ⟨fun g => absurd g (by have := c.1; omega), fun _ => ⟨.inr ⟨m, m0, by omega, e, c, no⟩, by omega⟩⟩
set_option maxHeartbeats 4000000 in
theorem reven16 {w : World} {N : Nat} {pp : Option Addr} {n c : Nat} {l : List Lp} {e b : Int} (h : RfP w N pp n c l e b) (p : Int) (hp : -4611700000000000000 ≤ p ∧ p ≤ 4611700000000000000) (i : Bool) :
    Calls Try.prog 37 #[.pointer (some ⟨N, 0, none⟩), .int .i64 p, .bool i] w fun e1 w' => (∃ t b', e1 = .returned (.tuple #[.int .i64 t, .bool b']) ∧ EvenP l b p i t b') ∧ w' = w := by
  have LA := Lib.hid (fun t (ht : TmI t) => rlab16 h t ht)
  have BE := Lib.hid (fun v (hv : BestI l b p i 1041 v) => best_end h.ok (by rw [h.row.len]; exact h.few) h.bb hv)
  have HP := Lib.hid hp
  clear h hp
  go_enter Try.func37, Try.ntmps37
  go_wp2_with fail
  go_loopw [8, 9] (fun vv mm wr => ∃ v m : Int, vv = .int .i64 v ∧ mm = .int .i64 m ∧ Hid ((-1040 ≤ m ∧ m ≤ 1041) ∧ BestI l b p i m v) ∧ wr = w) (fun _ mm _ => (2000 - intOf mm).toNat)
  case atStart => exact ⟨-1, -1040, rfl, rfl, ⟨⟨by decide, by decide⟩, .inl ⟨rfl, fun m m0 m1 => absurd m1 (by omega)⟩⟩, rfl⟩
  case round =>
    obtain ⟨v, m, rfl, rfl, I, rfl⟩ := hrel
    obtain ⟨⟨m0, m1⟩, BI⟩ := I.out
    by_cases z : m ≤ 1040
    · have z1 : decide (m ≤ 1040) = true := decide_eq_true z
      obtain ⟨s, hs⟩ : ∃ s, m * 1000000000 = s := ⟨_, rfl⟩
      obtain ⟨t, ht⟩ : ∃ t, p + s = t := ⟨_, rfl⟩
      obtain ⟨k, hk⟩ : ∃ k, m + 1 = k := ⟨_, rfl⟩
      have hp := HP.out
      obtain ⟨w1, w2⟩ := wr16 (x := s) (by unfold I64; omega)
      obtain ⟨w3, w4⟩ := wr16 (x := t) (by unfold I64; omega)
      obtain ⟨w5, w6⟩ := wr16 (x := k) (by unfold I64; omega)
      have KB : Hid (-1040 ≤ k ∧ k ≤ 1041) := by unfold Hid; omega
      have MS : Hid ((2000 - k).toNat < (2000 - m).toNat) := by unfold Hid; omega
      have NO : Hid (¬ CandP l b p i t → BestI l b p i k v) := fun q => by rw [← hk]; exact best_no BI (by rw [hs, ht]; exact q)
      have YE := fun q => best_yes BI m0 q
      rw [hs, ht, hk] at YE
      have YES := Lib.hid YE
      have TB : Hid (0 ≤ t → t ≤ 4611686018427387904 → TmI t) := fun a b => ⟨by omega, b⟩
      clear I BI YE hp z
      by_cases g1 : t < 0
      · have g2 : decide (t < 0) = true := decide_eq_true g1
        have NX := Lib.hid (NO.out fun q => absurd q.1 (by omega))
        clear NO YES TB g1
        go_wp2_with fail
        go_roundw
        case rel => exact ⟨v, k, rfl, rfl, ⟨KB.out, NX.out⟩, trivial⟩
        case measure => exact MS.out
      · have g2 : decide (t < 0) = false := decide_eq_false g1
        by_cases g3 : 4611686018427387904 < t
        · have g4 : decide (4611686018427387904 < t) = true := decide_eq_true g3
          have NX := Lib.hid (NO.out fun q => absurd q.2.1 (by unfold topI; omega))
          clear NO YES TB g1 g3
          go_wp2_with fail
          go_roundw
          case rel => exact ⟨v, k, rfl, rfl, ⟨KB.out, NX.out⟩, trivial⟩
          case measure => exact MS.out
        · have g4 : decide (4611686018427387904 < t) = false := decide_eq_false g3
          have LT := Lib.hid (LA.out t (TB.out (by omega) (by omega)))
          have CD : Hid (labI l b t = p → insB l t = i → CandP l b p i t) := fun a b => ⟨by omega, by unfold topI; omega, a, b⟩
          obtain ⟨r, hr⟩ : ∃ r, labI l b t = r := ⟨_, rfl⟩
          obtain ⟨j, hj⟩ : ∃ j, insB l t = j := ⟨_, rfl⟩
          rw [hr, hj] at LT CD
          have HR := Lib.hid (And.intro hr hj)
          clear TB g1 g3 hr hj
          go_wp2_with fail
          refine LT.out.mono ?_; rintro e1 w7 ⟨rfl, hw⟩
          obtain rfl := hw.symm
          clear LT
          by_cases q1 : r = p
          · have q2 : (r == p) = true := by rw [beq_iff_eq]; exact q1
            by_cases q3 : j = i
            · have q4 : (j == i) = true := by rw [beq_iff_eq]; exact q3
              have YS := Lib.hid (YES.out (CD.out q1 q3))
              clear NO YES CD
              by_cases v0 : v < 0
              · have v1 : decide (v < 0) = true := decide_eq_true v0
                have NX := Lib.hid (YS.out.1 v0)
                clear YS v0 q1 q3
                go_wp2_with fail
                go_roundw
                case rel => exact ⟨t, k, rfl, rfl, ⟨KB.out, NX.out⟩, trivial⟩
                case measure => exact MS.out
              · have v1 : decide (v < 0) = false := decide_eq_false v0
                have NX := Lib.hid (YS.out.2 (by omega))
                have v2 : decide (t < v) = false := decide_eq_false (by have := NX.out.2; omega)
                clear YS v0 q1 q3
                go_wp2_with fail
                go_roundw
                case rel => exact ⟨v, k, rfl, rfl, ⟨KB.out, NX.out.1⟩, trivial⟩
                case measure => exact MS.out
            · have q4 : (j == i) = false := by rw [beq_eq_false_iff_ne]; exact q3
              have NX := Lib.hid (NO.out fun q => q3 (HR.out.2.symm.trans q.2.2.2))
              clear NO YES CD q1
              go_wp2_with fail
              go_roundw
              case rel => exact ⟨v, k, rfl, rfl, ⟨KB.out, NX.out⟩, trivial⟩
              case measure => exact MS.out
          · have q2 : (r == p) = false := by rw [beq_eq_false_iff_ne]; exact q1
            have NX := Lib.hid (NO.out fun q => q1 (HR.out.1.symm.trans q.2.2.1))
            clear NO YES CD
            go_wp2_with fail
            go_roundw
            case rel => exact ⟨v, k, rfl, rfl, ⟨KB.out, NX.out⟩, trivial⟩
            case measure => exact MS.out
    · have z1 : decide (m ≤ 1040) = false := decide_eq_false z
      obtain rfl : m = 1041 := by omega
      have BB := Lib.hid (BE.out v BI)
      clear I BI z LA
      by_cases v0 : v < 0
      · have v1 : decide (v < 0) = true := decide_eq_true v0
        have F := Lib.hid (BB.out.1 v0)
        clear BB v0
        go_wp2
        go_ret2
        exact ⟨⟨0, false, rfl, F.out⟩, rfl⟩
      · have v1 : decide (v < 0) = false := decide_eq_false v0
        have F := Lib.hid (BB.out.2 (by omega))
        clear BB v0
        go_wp2
        go_ret2
        exact ⟨⟨v, true, rfl, F.out⟩, rfl⟩
end Go.Proofs.Ytpfbdpoileepoaa
