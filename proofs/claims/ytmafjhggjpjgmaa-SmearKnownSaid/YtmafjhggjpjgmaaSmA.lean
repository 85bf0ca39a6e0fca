/- Layer 15 (smear), work ahead, the document's own: rows of leaps; near, one, Taken, To. -/
import Derived.Test.YtmafjhggjpjgmaaSmM
import Derived.Test.YtmafjhggjpjgmaaSlice
import Derived.Test.YtmafjhggjpjgmaaTurn
import Derived.OneCell
import Derived.Deep.RegionHeld3
set_option maxRecDepth 100000
namespace Go.Proofs.Ytmafjhggjpjgmaa
open Go.ChangeShapes Go.WideShapes Go.ChangeAt Go.RowKit SmM

def zeroL : Lp := ⟨0, 0⟩
def gl (l : List Lp) (i : Nat) : Lp := l.getD i zeroL
theorem gl_of {l : List Lp} {i : Nat} (h : i < l.length) : gl l i = l[i] := by
  unfold gl
  rw [List.getD_eq_getElem?_getD, List.getElem?_eq_getElem h]
  rfl
theorem gl_mem {l : List Lp} {i : Nat} (h : i < l.length) : gl l i ∈ l := by rw [gl_of h]; exact List.getElem_mem h
/-- Leaps behind a slice, as what may be read. -/
structure HoldsL (w : World) (p : Option Addr) (n c : Nat) (l : List Lp) : Prop where
  len : l.length = n
  cap : n ≤ c
  max : c ≤ maxLen
  cell : ∀ i, i < n → ∃ a, p = some a ∧ w.cell? (a.add (i * 2)) = some (.int .i64 (gl l i).t) ∧ w.cell? ⟨(a.add (i * 2)).block, (a.add (i * 2)).off + 1, none⟩ = some (.int .i64 (gl l i).k)
theorem HoldsL.below {w w' : World} {p : Option Addr} {n c : Nat} {l : List Lp} (h : HoldsL w p n c l) (b : Below w.heap.size w w') : HoldsL w' p n c l :=
  ⟨h.len, h.cap, h.max, fun i hi => by
    obtain ⟨a, ha, c1, c2⟩ := h.cell i hi
    exact ⟨a, ha, (b.cell (World.block_lt_of_cell? w _ c1)).trans c1, (b.cell (World.block_lt_of_cell? w _ c2)).trans c2⟩⟩
/-- Leaps that may be. -/
def InL (l : List Lp) : Prop := ∀ y ∈ l, dayI ≤ y.t ∧ y.t ≤ topI ∧ (y.k = 1 ∨ y.k = -1)

theorem rnear15 (w : World) (t : Int) : Calls Try.prog 30 #[.int .i64 t] w fun e w' => e = .returned (.int .i64 (nearI t)) ∧ w' = w := by
  by_cases a : t < 0
  · have e : nearI t = 0 := by unfold nearI; rw [if_pos a]
    have a1 : decide (t < 0) = true := decide_eq_true a
    rw [e]
    go_enter Try.func30, Try.ntmps30
    go_wp2
    go_ret
    exact ⟨rfl, rfl⟩
  · have a1 : decide (t < 0) = false := decide_eq_false a
    have a0 : 0 ≤ t := by omega
    by_cases b : 4611686018427387904 < t
    · have e : nearI t = 4611686018427387904 := by unfold nearI topI; rw [if_neg a, if_pos b]
      have b1 : decide (4611686018427387904 < t) = true := decide_eq_true b
      rw [e]
      clear a
      go_enter Try.func30, Try.ntmps30
      go_wp2
      go_ret
      exact ⟨rfl, rfl⟩
    · have e : nearI t = t := by unfold nearI topI; rw [if_neg a, if_neg b]
      have b1 : decide (4611686018427387904 < t) = false := decide_eq_false b
      rw [e]
      clear a b
      go_enter Try.func30, Try.ntmps30
      go_wp2
      go_ret
      exact ⟨rfl, rfl⟩
set_option maxHeartbeats 2000000 in
theorem rone15 (w : World) (x : Lp) (t : Int) (h0 : 0 ≤ t) (h1 : t ≤ topI) (hx : dayI ≤ x.t ∧ x.t ≤ topI ∧ (x.k = 1 ∨ x.k = -1)) :
    Calls Try.prog 34 #[.agg #[.int .i64 x.t, .int .i64 x.k], .int .i64 t] w fun e w' => e = .returned (.int .i64 (oneI x t)) ∧ Below w.heap.size w w' := by
  obtain ⟨r, hr⟩ : ∃ r, oneI x t = r := ⟨_, rfl⟩
  rw [hr]
  have F : Hid (∀ v w', v = r → Below w.heap.size w w' → Ending.returned (.int .i64 v) = .returned (.int .i64 r) ∧ Below w.heap.size w w') := fun v w' e b => ⟨by rw [e], b⟩
  unfold oneI halfI at hr
  unfold dayI topI at hx
  unfold topI at h1
  obtain ⟨xt, xk⟩ := x
  dsimp only at hr hx ⊢
  have B := Lib.hid ((Below.refl w.heap.size w).alloc (Nat.le_refl _) (.cells #[.int .i64 xt, .int .i64 xk] 26))
  obtain ⟨a, ha⟩ : ∃ a, xt - 43200000000000 = a := ⟨_, rfl⟩
  obtain ⟨b, hb⟩ : ∃ b, xt + 43200000000000 = b := ⟨_, rfl⟩
  have w1 : wrap64 a = a := by unfold wrap64; omega
  have w2 : IntKind.i64.wrap a = a := by rw [IntKind.wrap_i64]; omega
  have w3 : wrap64 b = b := by unfold wrap64; omega
  have w4 : IntKind.i64.wrap b = b := by rw [IntKind.wrap_i64]; omega
  rw [ha, hb] at hr
  by_cases c : t ≤ a
  · rw [if_pos c] at hr
    subst hr
    have c1 : decide (t ≤ a) = true := decide_eq_true c
    clear hx h0 h1
    go_enter Try.func34, Try.ntmps34
    go_wp2
    go_ret
    exact F.out _ _ rfl B.out
  · rw [if_neg c] at hr
    have c1 : decide (t ≤ a) = false := decide_eq_false c
    have c2 : a < t := by omega
    obtain ⟨d, hd⟩ : ∃ d, t - a = d := ⟨_, rfl⟩
    have d0 : 0 ≤ d := by omega
    obtain ⟨q, hq⟩ : ∃ q, d.tdiv 86400 = q := ⟨_, rfl⟩
    have q1 : q = d / 86400 := by rw [← hq]; exact Int.tdiv_eq_ediv_of_nonneg d0
    have q2 : 0 ≤ q := by rw [q1]; exact Int.ediv_nonneg d0 (by decide)
    have q3 : q ≤ d := by rw [q1]; exact Int.ediv_le_self _ d0
    rw [hd, ← q1] at hr
    have w5 : wrap64 d = d := by unfold wrap64; omega
    have w6 : IntKind.i64.wrap d = d := by rw [IntKind.wrap_i64]; omega
    have w7 : wrap64 q = q := by unfold wrap64; omega
    have w8 : IntKind.i64.wrap q = q := by rw [IntKind.wrap_i64]; omega
    obtain ⟨q', hq'⟩ : ∃ q', -q = q' := ⟨_, rfl⟩
    have w9 : wrap64 q' = q' := by unfold wrap64; omega
    have w10 : IntKind.i64.wrap q' = q' := by rw [IntKind.wrap_i64]; omega
    by_cases e : t < b
    · have e1 : decide (t < b) = true := decide_eq_true e
      rw [if_pos e] at hr
      rcases hx.2.2 with k | k
      · subst k
        rw [if_neg (by decide)] at hr
        subst hr
        clear hx h0 h1 q1 q2 q3 d0 c
        go_enter Try.func34, Try.ntmps34
        go_wp2
        go_ret
        exact F.out _ _ rfl B.out
      · subst k
        rw [if_pos (by decide), hq'] at hr
        subst hr
        clear hx h0 h1 q1 q2 q3 d0 c
        go_enter Try.func34, Try.ntmps34
        go_wp2
        go_ret
        exact F.out _ _ rfl B.out
    · have e1 : decide (t < b) = false := decide_eq_false e
      have e2 : b ≤ t := by omega
      rw [if_neg e] at hr
      rcases hx.2.2 with k | k
      · subst k
        rw [if_neg (by decide)] at hr
        subst hr
        clear hx h0 h1 q1 q2 q3 d0 c e
        go_enter Try.func34, Try.ntmps34
        go_wp2
        go_ret
        exact F.out _ _ rfl B.out
      · subst k
        rw [if_pos (by decide)] at hr
        subst hr
        clear hx h0 h1 q1 q2 q3 d0 c e
        go_enter Try.func34, Try.ntmps34
        go_wp2
        go_ret
        exact F.out _ _ rfl B.out

theorem taken_take {l : List Lp} {i : Nat} (h : i < l.length) (t : Int) : takenI (l.take (i + 1)) t = takenI (l.take i) t + oneI (gl l i) t := by
  unfold takenI
  rw [List.take_succ_eq_append_getElem h, List.map_append, List.sum_append, List.map_cons, List.map_nil, List.sum_cons, List.sum_nil, Int.add_zero, gl_of h]
set_option maxHeartbeats 2000000 in
theorem rtaken15 (w : World) (p : Option Addr) (n c : Nat) (l : List Lp) (h : HoldsL w p n c l) (hl : InL l) (hn : n ≤ 32) (t : Int) :
    Calls Try.prog 20 #[.slice p n c, .int .i64 t] w fun e w' => e = .returned (.int .i64 (takenI l (nearI t))) ∧ Below w.heap.size w w' := by
  obtain ⟨s, hs⟩ : ∃ s, nearI t = s := ⟨_, rfl⟩
  have SB : Hid (0 ≤ s ∧ s ≤ topI) := by rw [← hs]; exact near_in t
  have NE := Lib.hid (fun w => rnear15 w t)
  rw [hs] at NE ⊢
  have HL := Lib.hid h
  have HI := Lib.hid hl
  have LN := Lib.hid h.len
  have nb : (n : Int) ≤ 32 := by omega
  clear h hl hs hn
  go_enter Try.func20, Try.ntmps20
  go_wp2_with fail
  go_loopw [5, 6] (fun ss ii wr => ∃ (i : Nat) (v : Int), ss = .int .i64 v ∧ ii = .int .i64 (i : Nat) ∧ Hid (v = takenI (l.take i) s ∧ i ≤ n) ∧ Hid (Below w.heap.size w wr)) (fun _ ii _ => 1000 - (intOf ii).toNat)
  case atStart => exact ⟨0, 0, rfl, rfl, ⟨by rw [List.take_zero]; rfl, Nat.zero_le _⟩, Below.refl _ _⟩
  case round =>
    obtain ⟨i, v, rfl, rfl, I, L⟩ := hrel
    have i0 : (0 : Int) ≤ (i : Int) := by omega
    by_cases z : i < n
    · have z1 : (i : Int) < (n : Int) := by omega
      obtain ⟨a, rfl, -, -⟩ := HL.out.cell i z
      obtain ⟨x, hx⟩ : ∃ x, gl l i = x := ⟨_, rfl⟩
      have CE : Hid (∀ w', Below wr.heap.size wr w' → w'.cell? (a.add (i * 2)) = some (.int .i64 x.t) ∧ w'.cell? ⟨(a.add (i * 2)).block, (a.add (i * 2)).off + 1, none⟩ = some (.int .i64 x.k)) := fun w' k => by
        obtain ⟨a', ea, c1, c2⟩ := (HL.out.below (L.out.trans (k.mono L.out.size))).cell i z
        injection ea with ea
        subst ea
        rw [hx] at c1 c2
        exact ⟨c1, c2⟩
      have il : i < l.length := by rw [LN.out]; exact z
      have XI := HI.out x (by rw [← hx]; exact gl_mem il)
      obtain ⟨o, ho⟩ : ∃ o, oneI x s = o := ⟨_, rfl⟩
      have ON : Hid (∀ w', Below wr.heap.size wr w' → Calls Try.prog 34 #[.agg #[.int .i64 x.t, .int .i64 x.k], .int .i64 s] w' fun e w'' => e = .returned (.int .i64 o) ∧ Below wr.heap.size wr w'') := fun w' k => (rone15 w' x s SB.out.1 SB.out.2 XI).mono fun e w'' ⟨a, b⟩ => ⟨by rw [a, ho], k.trans (b.mono k.size)⟩
      have NN : Hid (∀ w', Below wr.heap.size wr w' → Calls Try.prog 30 #[.int .i64 t] w' fun e w'' => e = .returned (.int .i64 s) ∧ Below wr.heap.size wr w'') := fun w' k => (NE.out w').mono fun e w'' ⟨a, b⟩ => ⟨a, by rw [b]; exact k⟩
      obtain ⟨v2, hv2⟩ : ∃ v2, v + o = v2 := ⟨_, rfl⟩
      have VB : v2 = takenI (l.take (i + 1)) s := by rw [taken_take il, ← I.out.1, hx, ho, hv2]
      have TB := taken_bound (l.take (i + 1)) s
      rw [← VB, show (l.take (i + 1)).length = i + 1 by rw [List.length_take]; omega] at TB
      have v1 : wrap64 v2 = v2 := by unfold wrap64; omega
      have v3 : IntKind.i64.wrap v2 = v2 := by rw [IntKind.wrap_i64]; omega
      have IN : Hid (v2 = takenI (l.take (i + 1)) s ∧ i + 1 ≤ n) := ⟨VB, z⟩
      have HB0 : Below wr.heap.size wr wr := Below.refl _ _
      obtain ⟨xt, xk⟩ := x
      dsimp only at CE ON
      clear z il XI hx ho VB TB I NE
      go_wp2_with fail
      go_region_held3 (fun w' => w'.cell? (a.add (i * 2)) = some (.int .i64 xt) ∧ w'.cell? ⟨(a.add (i * 2)).block, (a.add (i * 2)).off + 1, none⟩ = some (.int .i64 xk))
        (first | exact CE.out _ HB0 | exact CE.out _ HB0.drew)
        (first
          | (go_at_call 30; refine (NN.out _ (by first | exact HB0 | exact HB0.drew)).mono ?_; rintro e w5 ⟨rfl, HB0⟩)
          | (go_at_call 34; refine (ON.out _ (by first | exact HB0 | exact HB0.drew)).mono ?_; rintro e w5 ⟨rfl, HB0⟩))
      have L5 := Lib.hid (L.out.trans (HB0.mono L.out.size))
      clear HB0 L CE ON NN
      go_wp2_with fail
      go_roundw
      case rel => exact ⟨i + 1, v2, rfl, by go_num, IN, L5⟩
      case measure => simp [intOf]; omega
    · have z1 : (n : Int) ≤ (i : Int) := by omega
      have z2 : decide ((i : Int) < (n : Int)) = false := decide_eq_false (by omega)
      have FV : Hid (Ending.returned (.int .i64 v) = .returned (.int .i64 (takenI l s))) := by
        have e : i = l.length := by have := I.out.2; have := LN.out; omega
        unfold Hid
        rw [I.out.1, e, List.take_length]
      clear z I
      go_wp2
      go_ret
      exact ⟨FV.out, L.out⟩
/-- The smeared time, as the document's. -/
theorem rto15 (w : World) (p : Option Addr) (n c : Nat) (l : List Lp) (h : HoldsL w p n c l) (hl : InL l) (hn : n ≤ 32) (t : Int) :
    Calls Try.prog 18 #[.slice p n c, .int .i64 t] w fun e w' => e = .returned (.int .i64 (toI l t)) ∧ Below w.heap.size w w' := by
  have TK := Lib.hid (rtaken15 w p n c l h hl hn t)
  have NE := Lib.hid (rnear15 w t)
  have tb := taken_bound l (nearI t)
  rw [h.len] at tb
  have sb := near_in t
  unfold topI at sb
  obtain ⟨v, hv⟩ : ∃ v, toI l t = v := ⟨_, rfl⟩
  rw [hv]
  unfold toI at hv
  generalize takenI l (nearI t) = k at *
  generalize nearI t = s at *
  have v1 : wrap64 v = v := by unfold wrap64; omega
  have v3 : IntKind.i64.wrap v = v := by rw [IntKind.wrap_i64]; omega
  clear tb sb h hl hn
  go_enter Try.func18, Try.ntmps18
  go_wp2_with (first
    | (go_at_call 30; refine NE.out.mono ?_; rintro e w5 ⟨rfl, rfl⟩)
    | (go_at_call 20; refine TK.out.mono ?_; rintro e w6 ⟨rfl, L6⟩; have L6 := Lib.hid L6))
  go_ret
  exact ⟨rfl, L6.out⟩
end Go.Proofs.Ytmafjhggjpjgmaa
