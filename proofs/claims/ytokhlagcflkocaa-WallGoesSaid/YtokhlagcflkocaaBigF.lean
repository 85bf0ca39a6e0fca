/- Contracts of the document's own answers for layer 1: sums. -/
import Derived.Test.YtokhlagcflkocaaBigE
import Derived.Deep.RegionHeld3
namespace Go.Proofs.Ytokhlagcflkocaa
open Go.ChangeShapes Go.WideShapes Go.ChangeAt Go.RowKit BigM

/-- A sum by its signs and sizes: its sign (ahead of trimming) and its size. -/
def sumM (ma : Bool) (na : Nat) (mb : Bool) (nb : Nat) : Bool := if ma = mb then ma else if na < nb then mb else ma
def sumN (ma : Bool) (na : Nat) (mb : Bool) (nb : Nat) : Nat := if ma = mb then na + nb else if na < nb then nb - na else na - nb

theorem sum_sg (ma : Bool) (na : Nat) (mb : Bool) (nb : Nat) : sg (sumM ma na mb nb && decide (sumN ma na mb nb ≠ 0)) (sumN ma na mb nb) = sg ma na + sg mb nb := by
  have h0 : ∀ (m : Bool) (n : Nat), sg (m && decide (n ≠ 0)) n = sg m n := by
    intro m n
    by_cases h : n = 0
    · subst h; cases m <;> rfl
    · simp [h]
  rw [h0]
  by_cases h : na < nb <;> cases ma <;> cases mb <;> simp [sumM, sumN, sg, h] <;> omega

structure HeldTwo (w : World) (ma : Bool) (va : Value) (mb : Bool) (vb : Value) (w' : World) : Prop where
  c0 : w'.cell? ⟨w.heap.size, 0, none⟩ = some (.bool ma)
  c1 : w'.cell? ⟨w.heap.size, 1, none⟩ = some va
  c2 : w'.cell? ⟨w.heap.size + 1, 0, none⟩ = some (.bool mb)
  c3 : w'.cell? ⟨w.heap.size + 1, 1, none⟩ = some vb
  b2 : w'.heap[w.heap.size + 2]? = some (.cells #[.bool false, .slice none 0 0] 54 (0, 0))

def three (w : World) (ma : Bool) (va : Value) (mb : Bool) (vb : Value) : World :=
  ((w.alloc (.cells #[.bool ma, va] 54)).alloc (.cells #[.bool mb, vb] 54)).alloc (.cells #[.bool false, .slice none 0 0] 54)

theorem three_held (w : World) (ma : Bool) (va : Value) (mb : Bool) (vb : Value) (w' : World) (h : Below (w.heap.size + 3) (three w ma va mb vb) w') : HeldTwo w ma va mb vb w' := by
  have b0 : w'.heap[w.heap.size]? = some (.cells #[.bool ma, va] 54 (0, 0)) := by
    rw [h.block _ (by omega)]
    unfold three
    rw [Below.heap_alloc _ _ _ (by simp; omega), Below.heap_alloc _ _ _ (by simp)]
    exact heap_alloc_new w _
  have b1 : w'.heap[w.heap.size + 1]? = some (.cells #[.bool mb, vb] 54 (0, 0)) := by
    rw [h.block _ (by omega)]
    unfold three
    rw [Below.heap_alloc _ _ _ (by simp)]
    exact (two_new w _ _).2
  have b2 : w'.heap[w.heap.size + 2]? = some (.cells #[.bool false, .slice none 0 0] 54 (0, 0)) := by
    rw [h.block _ (by omega)]
    have h3 := heap_alloc_new ((w.alloc (.cells #[.bool ma, va] 54)).alloc (.cells #[.bool mb, vb] 54)) (.cells #[.bool false, .slice none 0 0] 54)
    have e : ((w.alloc (.cells #[.bool ma, va] 54)).alloc (.cells #[.bool mb, vb] 54)).heap.size = w.heap.size + 2 := by simp
    rw [e] at h3
    exact h3
  exact ⟨cell_blk b0, cell_blk b0, cell_blk b1, cell_blk b1, b2⟩

theorem three_size (w : World) (ma : Bool) (va : Value) (mb : Bool) (vb : Value) : (three w ma va mb vb).heap.size = w.heap.size + 3 := by
  unfold three
  simp

theorem three_below (w : World) (ma : Bool) (va : Value) (mb : Bool) (vb : Value) : Below w.heap.size w (three w ma va mb vb) := by
  unfold three
  exact (((Below.refl _ _).alloc (Nat.le_refl _) _).alloc (by simp) _).alloc (by simp; omega) _

theorem trim_to (w : World) (m m' : Bool) (p : Option Addr) (k c : Nat) (ds : List Nat) (n L : Nat) (o : Own w (.slice p k c) ds) (hd : Dig ds) (hv : val ds = n) (hl : ds.length ≤ L) (hL : L ≤ 1000) (hm : (m && decide (n ≠ 0)) = m') :
    Calls Try.prog 47 #[.agg #[.bool m, .slice p k c]] w (BigPost w m' n L) := by
  rw [← hm]
  exact trim_raw w _ m n L ⟨_, ds, rfl, o, hd, hv, hl⟩ hL

theorem BigIs.slice {w : World} {x : Value} {m : Bool} {n L : Nat} (h : BigIs w x m n L) : ∃ p k c, x = .agg #[.bool m, .slice p k c] := by
  obtain ⟨v, ds, rfl, h2, _⟩ := h.out
  obtain ⟨p, c, rfl⟩ := own_len h2 rfl
  exact ⟨p, _, c, rfl⟩

theorem BigIs.set {w : World} {x : Value} {m : Bool} {n L N o : Nat} {cs : Array Value} {T : TypeId} {fr : Nat × Nat} (h : BigIs w x m n L) (hN : w.heap[N]? = some (.cells cs T fr)) (hT : T ≠ 69) (u : Value) : BigIs (w.setCell ⟨N, o, none⟩ u) x m n L := by
  obtain ⟨v, ds, h1, h2, h3, h4, h5, h6⟩ := h.out
  exact ⟨v, ds, h1, own_set h2 hN hT u, h3, h4, h5, h6⟩

theorem far2 {w : World} {N M : Nat} (o o1 o2 : Nat) (a : Value) {b : Value} (h : N ≠ M) : ((w.setCell ⟨N, o1, none⟩ a).setCell ⟨N, o2, none⟩ b).cell? ⟨M, o, none⟩ = w.cell? ⟨M, o, none⟩ := by
  rw [World.cell?_setCell_other _ _ _ _ (by intro e; injection e with e _ _; exact h e), World.cell?_setCell_other _ _ _ _ (by intro e; injection e with e _ _; exact h e)]

/-- The last store of a sum, and what it answers. -/
theorem plus_fin {w W0 w2 : World} {x : Value} {m : Bool} {n L : Nat} (h : BigIs w2 x m n L) (tb : Below w.heap.size w W0) (hb : Below (w.heap.size + 3) W0 w2) (b2 : w2.heap[w.heap.size + 2]? = some (.cells #[.bool false, .slice none 0 0] 54 (0, 0))) (a b : Value) :
    BigPost w m n L (.returned x) ((w2.setCell ⟨w.heap.size + 2, 0, none⟩ a).setCell ⟨w.heap.size + 2, 1, none⟩ b) := by
  refine ⟨x, rfl, (h.set b2 (by decide) a).set (set_block b2) (by decide) b, ?_⟩
  exact ((tb.trans (hb.mono (by omega))).setCell (by simp) _).setCell (by simp) _

set_option maxHeartbeats 2000000 in
theorem plus_same (w : World) (m m' : Bool) (va vb : Value) (a b : List Nat) (n L : Nat) (oa : Own w va a) (ob : Own w vb b) (ha : Dig a) (hb : Dig b) (la : a.length ≤ 900) (lb : b.length ≤ 900)
    (hn : val a + val b = n) (hL : max a.length b.length + 1 = L) (hm : (m && decide (n ≠ 0)) = m') :
    Calls Try.prog 32 #[.agg #[.bool m, va], .agg #[.bool m, vb]] w (BigPost w m' n L) := by
  obtain ⟨na, hna⟩ : ∃ n, n = a.length := ⟨_, rfl⟩
  obtain ⟨nb, hnb⟩ : ∃ n, n = b.length := ⟨_, rfl⟩
  obtain ⟨pa, ca, rfl⟩ := own_len oa hna
  obtain ⟨pb, cb, rfl⟩ := own_len ob hnb
  have K := Lib.hid (three_held w m (.slice pa na ca) m (.slice pb nb cb))
  have PL := Lib.hid (fun (w' : World) (h : Below w.heap.size w w') => plus_any w' _ _ a b (own_below oa h) (own_below ob h) ha hb (by omega) (by omega))
  rw [hn, hL] at PL
  have LL : Hid (L ≤ 1000) := by unfold Hid; omega
  have HM := Lib.hid hm
  have TB := three_below w m (.slice pa na ca) m (.slice pb nb cb)
  have TS := three_size w m (.slice pa na ca) m (.slice pb nb cb)
  have HTB := Lib.hid TB
  have HTS := Lib.hid TS
  clear oa ob ha hb hna hnb la lb TB TS hn hL hm
  go_enter Try.func32, Try.ntmps32
  go_wp2
  obtain ⟨W0, hW0⟩ : ∃ W0, three w m (.slice pa na ca) m (.slice pb nb cb) = W0 := ⟨_, rfl⟩
  rw [hW0] at K HTB HTS
  rw [show (((w.alloc (.cells #[.bool m, .slice pa na ca] 54)).alloc (.cells #[.bool m, .slice pb nb cb] 54)).alloc (.cells #[.bool false, .slice none 0 0] 54)) = W0 from hW0]
  clear hW0
  have HB0 : Below (w.heap.size + 3) W0 W0.drew := (Below.refl _ _).drew
  go_region_held3 (fun w' => w'.cell? ⟨w.heap.size, 0, none⟩ = some (.bool m) ∧ w'.cell? ⟨w.heap.size, 1, none⟩ = some (.slice pa na ca) ∧ w'.cell? ⟨w.heap.size + 1, 1, none⟩ = some (.slice pb nb cb))
    (first | exact ⟨(K.out _ HB0).c0, (K.out _ HB0).c1, (K.out _ HB0).c3⟩ | exact ⟨(K.out _ HB1).c0, (K.out _ HB1).c1, (K.out _ HB1).c3⟩ | exact ⟨(K.out _ HB2).c0, (K.out _ HB2).c1, (K.out _ HB2).c3⟩ | exact ⟨(far2 _ _ _ _ (by omega)).trans (K.out _ HB2).c0, (far2 _ _ _ _ (by omega)).trans (K.out _ HB2).c1, (far2 _ _ _ _ (by omega)).trans (K.out _ HB2).c3⟩)
    (first
      | (go_at_call 48; refine (PL.out _ (HTB.out.drew)).mono ?_; rintro e w1 ⟨v, ds, rfl, p1, p2, p3, p4, p5⟩; obtain ⟨nn, hnn⟩ : ∃ k, k = ds.length := ⟨_, rfl⟩; obtain ⟨pp, cc, rfl⟩ := own_len p1 hnn; have HB1 : Below (w.heap.size + 3) W0 w1 := HB0.trans (p5.mono (by show w.heap.size + 3 ≤ W0.heap.size; have := HTS.out; omega)); have P1 := Lib.hid p1; have P2 := Lib.hid p2; have P3 := Lib.hid p3; have P4 := Lib.hid p4; clear p1 p2 p3 p4 p5 hnn)
      | (go_at_call 47; refine (trim_to _ m m' _ _ _ _ n L P1.out P2.out P3.out P4.out LL.out HM.out).mono ?_; rintro e w2 ⟨y, rfl, g, hb⟩; obtain ⟨p', k', c', rfl⟩ := g.slice; have HB2 : Below (w.heap.size + 3) W0 w2 := HB1.trans (hb.mono (by have := HB1.size; have := HTS.out; omega)); have D0 : w2.cell? ⟨w.heap.size + 1 + 1, 0, none⟩ = some (.bool false) := cell_blk (K.out _ HB2).b2; have D1 : w2.cell? ⟨w.heap.size + 1 + 1, 1, none⟩ = some (.slice none 0 0) := cell_blk (K.out _ HB2).b2; have E0 : w2.frozen? ⟨w.heap.size + 1 + 1, 0, none⟩ = false := free_blk (K.out _ HB2).b2; have E1 : w2.frozen? ⟨w.heap.size + 1 + 1, 1, none⟩ = false := free_blk (K.out _ HB2).b2; have FIN := Lib.hid (plus_fin g HTB.out HB2 (K.out _ HB2).b2 (.bool m') (.slice p' k' c')); clear g hb))
  all_goals (go_wp2; exact bodyPost_ret (v := .agg #[.bool m', .slice p' k' c']) (by simp [results, Try.results32, go_sem, D0, D1]) rfl FIN.out)

set_option maxHeartbeats 2000000 in
theorem plus_lt (w : World) (ma mb m' : Bool) (va vb : Value) (a b : List Nat) (n L : Nat) (oa : Own w va a) (ob : Own w vb b) (ha : Dig a) (hb : Dig b) (ca' : Canon a) (cb' : Canon b) (la : a.length ≤ 900) (lb : b.length ≤ 900)
    (hne : (ma == mb) = false) (hc : val a < val b) (hn : val b - val a = n) (hL : b.length = L) (hm : (mb && decide (n ≠ 0)) = m') :
    Calls Try.prog 32 #[.agg #[.bool ma, va], .agg #[.bool mb, vb]] w (BigPost w m' n L) := by
  obtain ⟨na, hna⟩ : ∃ n, n = a.length := ⟨_, rfl⟩
  obtain ⟨nb, hnb⟩ : ∃ n, n = b.length := ⟨_, rfl⟩
  obtain ⟨pa, ca, rfl⟩ := own_len oa hna
  obtain ⟨pb, cb, rfl⟩ := own_len ob hnb
  have K := Lib.hid (three_held w ma (.slice pa na ca) mb (.slice pb nb cb))
  have CMP := Lib.hid (fun (w' : World) (h : Below w.heap.size w w') => Less_any w' _ _ a b (own_below oa h) (own_below ob h) ha hb ca' cb' (by omega) (by omega))
  have PL := Lib.hid (fun (w' : World) (h : Below w.heap.size w w') => less_any w' _ _ b a (own_below ob h) (own_below oa h) hb ha ca' (by omega) (by omega))
  rw [hn, hL] at PL
  have LL : Hid (L ≤ 1000) := by unfold Hid; omega
  have HM := Lib.hid hm
  have HC := Lib.hid hc
  have TB := three_below w ma (.slice pa na ca) mb (.slice pb nb cb)
  have TS := three_size w ma (.slice pa na ca) mb (.slice pb nb cb)
  have HTB := Lib.hid TB
  have HTS := Lib.hid TS
  clear oa ob ha hb hna hnb la lb TB TS hn hL hm hc ca' cb'
  go_enter Try.func32, Try.ntmps32
  go_wp2_with fail
  obtain ⟨W0, hW0⟩ : ∃ W0, three w ma (.slice pa na ca) mb (.slice pb nb cb) = W0 := ⟨_, rfl⟩
  rw [hW0] at K HTB HTS
  rw [show (((w.alloc (.cells #[.bool ma, .slice pa na ca] 54)).alloc (.cells #[.bool mb, .slice pb nb cb] 54)).alloc (.cells #[.bool false, .slice none 0 0] 54)) = W0 from hW0]
  clear hW0
  refine (CMP.out W0 HTB.out).mono ?_
  rintro e w' ⟨ans, rfl, hans, nd, rfl⟩
  obtain rfl : ans = true := by exact hans.2 HC.out
  clear hans
  have HB0 : Below (w.heap.size + 3) W0 (W0.drewN nd).drew := (below_drewN (Below.refl _ _) nd).drew
  have HTB1 : Hid (Below w.heap.size w (W0.drewN nd).drew) := (below_drewN HTB.out nd).drew
  go_wp2
  go_region_held3 (fun w' => w'.cell? ⟨w.heap.size + 1, 0, none⟩ = some (.bool mb) ∧ w'.cell? ⟨w.heap.size + 1, 1, none⟩ = some (.slice pb nb cb) ∧ w'.cell? ⟨w.heap.size, 1, none⟩ = some (.slice pa na ca))
    (first | exact ⟨(K.out _ HB0).c2, (K.out _ HB0).c3, (K.out _ HB0).c1⟩ | exact ⟨(K.out _ HB1).c2, (K.out _ HB1).c3, (K.out _ HB1).c1⟩ | exact ⟨(K.out _ HB2).c2, (K.out _ HB2).c3, (K.out _ HB2).c1⟩ | exact ⟨(far2 _ _ _ _ (by omega)).trans (K.out _ HB2).c2, (far2 _ _ _ _ (by omega)).trans (K.out _ HB2).c3, (far2 _ _ _ _ (by omega)).trans (K.out _ HB2).c1⟩)
    (first
      | (go_at_call 50; refine (PL.out _ HTB1.out).mono ?_; rintro e w1 ⟨v, ds, rfl, p1, p2, p3, p4, p5⟩; obtain ⟨nn, hnn⟩ : ∃ k, k = ds.length := ⟨_, rfl⟩; obtain ⟨pp, cc, rfl⟩ := own_len p1 hnn; have HB1 : Below (w.heap.size + 3) W0 w1 := HB0.trans (p5.mono (by show w.heap.size + 3 ≤ W0.heap.size; have := HTS.out; omega)); have P1 := Lib.hid p1; have P2 := Lib.hid p2; have P3 := Lib.hid p3; have P4 := Lib.hid p4; clear p1 p2 p3 p4 p5 hnn)
      | (go_at_call 47; refine (trim_to _ mb m' _ _ _ _ n L P1.out P2.out P3.out P4.out LL.out HM.out).mono ?_; rintro e w2 ⟨y, rfl, g, hb⟩; obtain ⟨p', k', c', rfl⟩ := g.slice; have HB2 : Below (w.heap.size + 3) W0 w2 := HB1.trans (hb.mono (by have := HB1.size; have := HTS.out; omega)); have D0 : w2.cell? ⟨w.heap.size + 1 + 1, 0, none⟩ = some (.bool false) := cell_blk (K.out _ HB2).b2; have D1 : w2.cell? ⟨w.heap.size + 1 + 1, 1, none⟩ = some (.slice none 0 0) := cell_blk (K.out _ HB2).b2; have E0 : w2.frozen? ⟨w.heap.size + 1 + 1, 0, none⟩ = false := free_blk (K.out _ HB2).b2; have E1 : w2.frozen? ⟨w.heap.size + 1 + 1, 1, none⟩ = false := free_blk (K.out _ HB2).b2; have FIN := Lib.hid (plus_fin g HTB.out HB2 (K.out _ HB2).b2 (.bool m') (.slice p' k' c')); clear g hb))
  all_goals (go_wp2; exact bodyPost_ret (v := .agg #[.bool m', .slice p' k' c']) (by simp [results, Try.results32, go_sem, D0, D1]) rfl FIN.out)

set_option maxHeartbeats 2000000 in
theorem plus_ge (w : World) (ma mb m' : Bool) (va vb : Value) (a b : List Nat) (n L : Nat) (oa : Own w va a) (ob : Own w vb b) (ha : Dig a) (hb : Dig b) (ca' : Canon a) (cb' : Canon b) (la : a.length ≤ 900) (lb : b.length ≤ 900)
    (hne : (ma == mb) = false) (hc : ¬ val a < val b) (hn : val a - val b = n) (hL : a.length = L) (hm : (ma && decide (n ≠ 0)) = m') :
    Calls Try.prog 32 #[.agg #[.bool ma, va], .agg #[.bool mb, vb]] w (BigPost w m' n L) := by
  obtain ⟨na, hna⟩ : ∃ n, n = a.length := ⟨_, rfl⟩
  obtain ⟨nb, hnb⟩ : ∃ n, n = b.length := ⟨_, rfl⟩
  obtain ⟨pa, ca, rfl⟩ := own_len oa hna
  obtain ⟨pb, cb, rfl⟩ := own_len ob hnb
  have K := Lib.hid (three_held w ma (.slice pa na ca) mb (.slice pb nb cb))
  have CMP := Lib.hid (fun (w' : World) (h : Below w.heap.size w w') => Less_any w' _ _ a b (own_below oa h) (own_below ob h) ha hb ca' cb' (by omega) (by omega))
  have PL := Lib.hid (fun (w' : World) (h : Below w.heap.size w w') => less_any w' _ _ a b (own_below oa h) (own_below ob h) ha hb cb' (by omega) (by omega))
  rw [hn, hL] at PL
  have LL : Hid (L ≤ 1000) := by unfold Hid; omega
  have HM := Lib.hid hm
  have HC := Lib.hid hc
  have TB := three_below w ma (.slice pa na ca) mb (.slice pb nb cb)
  have TS := three_size w ma (.slice pa na ca) mb (.slice pb nb cb)
  have HTB := Lib.hid TB
  have HTS := Lib.hid TS
  clear oa ob ha hb hna hnb la lb TB TS hn hL hm hc ca' cb'
  go_enter Try.func32, Try.ntmps32
  go_wp2_with fail
  obtain ⟨W0, hW0⟩ : ∃ W0, three w ma (.slice pa na ca) mb (.slice pb nb cb) = W0 := ⟨_, rfl⟩
  rw [hW0] at K HTB HTS
  rw [show (((w.alloc (.cells #[.bool ma, .slice pa na ca] 54)).alloc (.cells #[.bool mb, .slice pb nb cb] 54)).alloc (.cells #[.bool false, .slice none 0 0] 54)) = W0 from hW0]
  clear hW0
  refine (CMP.out W0 HTB.out).mono ?_
  rintro e w' ⟨ans, rfl, hans, nd, rfl⟩
  obtain rfl : ans = false := by cases ans; rfl; exact absurd (hans.1 rfl) HC.out
  clear hans
  have HB0 : Below (w.heap.size + 3) W0 (W0.drewN nd).drew := (below_drewN (Below.refl _ _) nd).drew
  have HTB1 : Hid (Below w.heap.size w (W0.drewN nd).drew) := (below_drewN HTB.out nd).drew
  go_wp2
  go_region_held3 (fun w' => w'.cell? ⟨w.heap.size, 0, none⟩ = some (.bool ma) ∧ w'.cell? ⟨w.heap.size, 1, none⟩ = some (.slice pa na ca) ∧ w'.cell? ⟨w.heap.size + 1, 1, none⟩ = some (.slice pb nb cb))
    (first | exact ⟨(K.out _ HB0).c0, (K.out _ HB0).c1, (K.out _ HB0).c3⟩ | exact ⟨(K.out _ HB1).c0, (K.out _ HB1).c1, (K.out _ HB1).c3⟩ | exact ⟨(K.out _ HB2).c0, (K.out _ HB2).c1, (K.out _ HB2).c3⟩ | exact ⟨(far2 _ _ _ _ (by omega)).trans (K.out _ HB2).c0, (far2 _ _ _ _ (by omega)).trans (K.out _ HB2).c1, (far2 _ _ _ _ (by omega)).trans (K.out _ HB2).c3⟩)
    (first
      | (go_at_call 50; refine (PL.out _ HTB1.out).mono ?_; rintro e w1 ⟨v, ds, rfl, p1, p2, p3, p4, p5⟩; obtain ⟨nn, hnn⟩ : ∃ k, k = ds.length := ⟨_, rfl⟩; obtain ⟨pp, cc, rfl⟩ := own_len p1 hnn; have HB1 : Below (w.heap.size + 3) W0 w1 := HB0.trans (p5.mono (by show w.heap.size + 3 ≤ W0.heap.size; have := HTS.out; omega)); have P1 := Lib.hid p1; have P2 := Lib.hid p2; have P3 := Lib.hid p3; have P4 := Lib.hid p4; clear p1 p2 p3 p4 p5 hnn)
      | (go_at_call 47; refine (trim_to _ ma m' _ _ _ _ n L P1.out P2.out P3.out P4.out LL.out HM.out).mono ?_; rintro e w2 ⟨y, rfl, g, hb⟩; obtain ⟨p', k', c', rfl⟩ := g.slice; have HB2 : Below (w.heap.size + 3) W0 w2 := HB1.trans (hb.mono (by have := HB1.size; have := HTS.out; omega)); have D0 : w2.cell? ⟨w.heap.size + 1 + 1, 0, none⟩ = some (.bool false) := cell_blk (K.out _ HB2).b2; have D1 : w2.cell? ⟨w.heap.size + 1 + 1, 1, none⟩ = some (.slice none 0 0) := cell_blk (K.out _ HB2).b2; have E0 : w2.frozen? ⟨w.heap.size + 1 + 1, 0, none⟩ = false := free_blk (K.out _ HB2).b2; have E1 : w2.frozen? ⟨w.heap.size + 1 + 1, 1, none⟩ = false := free_blk (K.out _ HB2).b2; have FIN := Lib.hid (plus_fin g HTB.out HB2 (K.out _ HB2).b2 (.bool m') (.slice p' k' c')); clear g hb))
  all_goals (go_wp2; exact bodyPost_ret (v := .agg #[.bool m', .slice p' k' c']) (by simp [results, Try.results32, go_sem, D0, D1]) rfl FIN.out)

/-- A sum of any two. -/
theorem Plus_any (w : World) (x y : Value) (ma mb : Bool) (na nb La Lb : Nat) (hx : BigIs w x ma na La) (hy : BigIs w y mb nb Lb) (la : La ≤ 900) (lb : Lb ≤ 900) :
    Calls Try.prog 32 #[x, y] w fun e w' => BigPost w (sumM ma na mb nb && decide (sumN ma na mb nb ≠ 0)) (sumN ma na mb nb) (max La Lb + 1) e w' := by
  obtain ⟨va, a, rfl, a1, a2, a3, rfl, a5⟩ := hx.out
  obtain ⟨vb, b, rfl, b1, b2, b3, rfl, b5⟩ := hy.out
  have wide : ∀ (m : Bool) (n L L' : Nat) e w', L ≤ L' → BigPost w m n L e w' → BigPost w m n L' e w' := by
    rintro m n L L' e w' hl ⟨z, h1, ⟨v, ds, g1, g2, g3, g4, g5, g6⟩, h3⟩
    exact ⟨z, h1, ⟨v, ds, g1, g2, g3, g4, g5, by omega⟩, h3⟩
  by_cases hm : ma = mb
  · subst hm
    have e1 : sumM ma (val a) ma (val b) = ma := by simp [sumM]
    have e2 : sumN ma (val a) ma (val b) = val a + val b := by simp [sumN]
    rw [e1, e2]
    exact (plus_same w ma _ va vb a b _ _ a1 b1 a2 b2 (by omega) (by omega) rfl rfl rfl).mono fun e w' h => wide _ _ _ _ e w' (by omega) h
  · have hne : (ma == mb) = false := by simpa using hm
    by_cases hc : val a < val b
    · have e1 : sumM ma (val a) mb (val b) = mb := by simp [sumM, hm, hc]
      have e2 : sumN ma (val a) mb (val b) = val b - val a := by simp [sumN, hm, hc]
      rw [e1, e2]
      exact (plus_lt w ma mb _ va vb a b _ _ a1 b1 a2 b2 a3 b3 (by omega) (by omega) hne hc rfl rfl rfl).mono fun e w' h => wide _ _ _ _ e w' (by omega) h
    · have e1 : sumM ma (val a) mb (val b) = ma := by simp [sumM, hc]
      have e2 : sumN ma (val a) mb (val b) = val a - val b := by simp [sumN, hm, hc]
      rw [e1, e2]
      exact (plus_ge w ma mb _ va vb a b _ _ a1 b1 a2 b2 a3 b3 (by omega) (by omega) hne hc rfl rfl rfl).mono fun e w' h => wide _ _ _ _ e w' (by omega) h
end Go.Proofs.Ytokhlagcflkocaa

