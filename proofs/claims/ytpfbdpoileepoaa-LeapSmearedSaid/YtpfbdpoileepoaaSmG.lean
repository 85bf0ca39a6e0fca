/- Layer 15 (smear), the program's: Taken, To. -/
import Derived.Test.YtpfbdpoileepoaaSmF
set_option maxRecDepth 100000
namespace Go.Proofs.Ytpfbdpoileepoaa
open Go.ChangeShapes Go.WideShapes Go.ChangeAt Go.RowKit SmM

/-- A pointer whose leaps lie so: of a table, of none. -/
structure HasL (w : World) (P : Option Addr) (p : Option Addr) (n c : Nat) (l : List Lp) : Prop where
  held : ∀ w', Below w.heap.size w w' → Calls Try.prog 52 #[.pointer P] w' fun e w'' => e = .returned (.slice p n c) ∧ w'' = w'
  row : HoldsL w p n c l
  all : InL l
  few : n ≤ 32
theorem HasL.below {w w' : World} {P p : Option Addr} {n c : Nat} {l : List Lp} (h : HasL w P p n c l) (b : Below w.heap.size w w') : HasL w' P p n c l :=
  ⟨fun w'' k => h.held w'' (b.trans (k.mono b.size)), h.row.below b, h.all, h.few⟩
theorem PSm.has {w : World} {N : Nat} {p : Option Addr} {c : Nat} {l : List Lp} (h : PSm w N p c l) : HasL w (some ⟨N, 0, none⟩) p l.length c l :=
  ⟨fun _ b => pheld15 (h.below b), h.ow.holds, h.ok.1, h.fit⟩
theorem has_none (w : World) : HasL w none none 0 0 [] :=
  ⟨fun _ _ => pheld15_none _, ⟨rfl, Nat.le_refl _, Nat.zero_le _, fun i hi => absurd hi (by omega)⟩, fun y hy => (by cases hy), Nat.zero_le _⟩

/-- While it is added up. -/
structure TkS (w wr : World) (t v : Int) : Prop where
  a : wr.heap[w.heap.size]? = some (.cells #[.int .i64 t] 2 (0, 0))
  b : wr.heap[w.heap.size + 1]? = some (.cells #[.int .i64 v] 2 (0, 0))
  low : Below w.heap.size w wr
theorem TkS.more {w wr : World} {t v : Int} (h : TkS w wr t v) (o : Obj) : TkS w (wr.alloc o) t v := by
  have B : Below wr.heap.size wr (wr.alloc o) := (Below.refl _ _).alloc (Nat.le_refl _) _
  exact ⟨(B.block _ (Array.getElem?_eq_some_iff.1 h.a).1).trans h.a, (B.block _ (Array.getElem?_eq_some_iff.1 h.b).1).trans h.b, h.low.trans (B.mono h.low.size)⟩
theorem TkS.took {w wr w' : World} {t v v2 : Int} (h : TkS w wr t v) (k : TkP wr (w.heap.size + 1) v2 w') : TkS w w' t v2 :=
  ⟨(k.t.keep _ (by omega) (Array.getElem?_eq_some_iff.1 h.a).1).trans h.a, k.b, h.low.trans (k.t.low _ (by omega) h.low.size)⟩
set_option maxHeartbeats 4000000 in
theorem ptaken_any {w : World} {P p : Option Addr} {n c : Nat} {l : List Lp} (h : HasL w P p n c l) (t : Int) :
    Calls Try.prog 51 #[.pointer P, .int .i64 t] w fun e w' => e = .returned (.int .i64 (takenI l (nearI t))) ∧ Below w.heap.size w w' := by
  have HE := Lib.hid h.held
  have HL := Lib.hid h.row
  have HI := Lib.hid h.all
  have LN := Lib.hid h.row.len
  have nb : (n : Int) ≤ 32 := by have := h.few; omega
  have B1 : Below w.heap.size w (w.alloc (.cells #[.int .i64 t] 2)) := (Below.refl _ _).alloc (Nat.le_refl _) _
  have C1 : (w.alloc (.cells #[.int .i64 t] 2)).heap[w.heap.size]? = some (.cells #[.int .i64 t] 2 (0, 0)) := heap_alloc_new w _
  have s1 : (w.alloc (.cells #[.int .i64 t] 2)).heap.size = w.heap.size + 1 := by simp
  have C2 := heap_alloc_new (w.alloc (.cells #[.int .i64 t] 2)) (.cells #[.int .i64 0] 2)
  rw [s1] at C2
  have B2 : Below (w.alloc (.cells #[.int .i64 t] 2)).heap.size (w.alloc (.cells #[.int .i64 t] 2)) ((w.alloc (.cells #[.int .i64 t] 2)).alloc (.cells #[.int .i64 0] 2)) := (Below.refl _ _).alloc (Nat.le_refl _) _
  have ST : Hid (TkS w ((w.alloc (.cells #[.int .i64 t] 2)).alloc (.cells #[.int .i64 0] 2)) t 0) := ⟨(B2.block _ (by omega)).trans C1, C2, B1.trans (B2.mono B1.size)⟩
  clear h B1 C1 s1 C2 B2
  go_enter Try.func51, Try.ntmps51
  go_wp2_with (go_at_call 52; refine (HE.out _ ST.out.low).mono ?_; rintro e w5 ⟨rfl, rfl⟩)
  go_loopw [13] (fun ii wr => ∃ (i : Nat) (v : Int), ii = .int .i64 (i : Nat) ∧ Hid (v = takenI (l.take i) (nearI t) ∧ i ≤ n) ∧ Hid (TkS w wr t v)) (fun ii _ => 1000 - (intOf ii).toNat)
  case atStart => exact ⟨0, 0, rfl, ⟨by rw [List.take_zero]; rfl, Nat.zero_le _⟩, ST⟩
  case round =>
    clear ST
    obtain ⟨i, v, rfl, I, S⟩ := hrel
    have i0 : (0 : Int) ≤ (i : Int) := by omega
    by_cases z : i < n
    · have z1 : (i : Int) < (n : Int) := by omega
      obtain ⟨a, rfl, c0, c1⟩ := (HL.out.below S.out.low).cell i z
      have il : i < l.length := by rw [LN.out]; exact z
      obtain ⟨x, hx⟩ : ∃ x, gl l i = x := ⟨_, rfl⟩
      have XI := HI.out x (by rw [← hx]; exact gl_mem il)
      rw [hx] at c0 c1
      have VB : v + oneI x (nearI t) = takenI (l.take (i + 1)) (nearI t) := by rw [taken_take il, ← I.out.1, hx]
      have TB := taken_bound (l.take i) (nearI t)
      rw [← I.out.1, List.length_take] at TB
      have TK : Hid (∀ w', TkS w w' t v → Calls Try.prog 56 #[.agg #[.int .i64 x.t, .int .i64 x.k], .pointer (some ⟨w.heap.size, 0, none⟩), .pointer (some ⟨w.heap.size + 1, 0, none⟩)] w' fun e w'' => e = .returned (.tuple #[]) ∧ TkS w w'' t (takenI (l.take (i + 1)) (nearI t))) := fun w' k =>
        (ptk15 w' x t v _ w.heap.size (w.heap.size + 1) k.a k.b XI (by omega) VB).mono fun e w'' ⟨q, r⟩ => ⟨q, k.took r⟩
      have IN : Hid (i + 1 ≤ n) := z
      obtain ⟨xt, xk⟩ := x
      dsimp only at c0 c1 TK
      have S2 := Lib.hid (S.out.more (.cells #[.int .i64 xt, .int .i64 xk] 33))
      clear z il XI hx VB TB I
      go_wp2_with fail
      refine (TK.out _ S2.out).mono ?_; rintro e w7 ⟨rfl, S7⟩
      have S7 := Lib.hid S7
      clear TK S2 S c0 c1
      go_wp2_with fail
      go_roundw
      case rel => exact ⟨i + 1, _, by go_num, ⟨rfl, IN.out⟩, S7⟩
      case measure => simp [intOf]; omega
    · have z1 : (n : Int) ≤ (i : Int) := by omega
      have z2 : decide ((i : Int) < (n : Int)) = false := decide_eq_false (by omega)
      have x0 := blk_cell (o := 0) S.out.b
      simp only [List.getElem?_toArray, List.getElem?_cons_zero] at x0
      have FV : Hid (Ending.returned (.int .i64 v) = .returned (.int .i64 (takenI l (nearI t)))) := by
        have e : i = l.length := by have := I.out.2; have := LN.out; omega
        unfold Hid
        rw [I.out.1, e, List.take_length]
      have SL := Lib.hid S.out.low
      clear z I S
      go_wp2
      go_ret
      exact ⟨FV.out, SL.out⟩
theorem pto_any {w : World} {P p : Option Addr} {n c : Nat} {l : List Lp} (h : HasL w P p n c l) (t : Int) :
    Calls Try.prog 26 #[.pointer P, .int .i64 t] w fun e w' => e = .returned (.int .i64 (toI l t)) ∧ Below w.heap.size w w' := by
  have TK := Lib.hid (ptaken_any h t)
  have NE := Lib.hid (pinst15 w t)
  have tb := taken_bound l (nearI t)
  rw [h.row.len] at tb
  have few := h.few
  have sb := near_in t
  unfold topI at sb
  obtain ⟨v, hv⟩ : ∃ v, toI l t = v := ⟨_, rfl⟩
  rw [hv]
  unfold toI at hv
  generalize takenI l (nearI t) = k at *
  generalize nearI t = s at *
  have v1 : wrap64 v = v := by unfold wrap64; omega
  have v3 : IntKind.i64.wrap v = v := by rw [IntKind.wrap_i64]; omega
  clear tb sb h few
  go_enter Try.func26, Try.ntmps26
  go_wp2_with (first
    | (go_at_call 50; refine NE.out.mono ?_; rintro e w5 ⟨rfl, rfl⟩)
    | (go_at_call 51; refine TK.out.mono ?_; rintro e w6 ⟨rfl, L6⟩; have L6 := Lib.hid L6))
  go_ret
  exact ⟨rfl, L6.out⟩
end Go.Proofs.Ytpfbdpoileepoaa

