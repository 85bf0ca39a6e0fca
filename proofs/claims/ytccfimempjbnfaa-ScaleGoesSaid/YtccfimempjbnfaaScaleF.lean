/- Layer 10 (scale): the document's own: New, Tick, Total, To. -/
import Derived.Test.YtccfimempjbnfaaScaleE
import Derived.Test.YtccfimempjbnfaaScaleC
set_option maxRecDepth 100000
namespace Go.Proofs.Ytccfimempjbnfaa
open Go.ChangeShapes Go.WideShapes Go.ChangeAt Go.RowKit ScaleM BigM

/-- In a block lies the document's own scale of so many hertz, of which so many ticks went. -/
def RSc (w : World) (M h n : Nat) : Prop := ∃ p k c, w.heap[M]? = some (.cells #[.int .i64 (h : Nat), .bool false, .slice p k c] 46 (0, 0)) ∧ BigIs w (.agg #[.bool false, .slice p k c]) false n 5
theorem RSc.lt {w : World} {M h n : Nat} (c : RSc w M h n) : M < w.heap.size := by
  obtain ⟨p, k, c', h1, -⟩ := c
  exact (Array.getElem?_eq_some_iff.1 h1).1
theorem RSc.below {w w' : World} {M h n : Nat} (c : RSc w M h n) (b : Below w.heap.size w w') : RSc w' M h n := by
  have := c.lt
  obtain ⟨p, k, c', h1, h2⟩ := c
  exact ⟨p, k, c', (b.block M this).trans h1, h2.below b⟩

theorem own_turn {N : Nat} {w w' : World} {v : Value} {ds : List Nat} {cs : Array Value} {T : TypeId} {fr : Nat × Nat} (t : Turn N w w') (h : Own w v ds) (hN : w.heap[N]? = some (.cells cs T fr)) (hT : T ≠ 36) : Own w' v ds := by
  refine ⟨h.1, ?_⟩
  rcases h.2 with hn | ⟨g, cap, cur, rfl, hb, hg, r⟩
  · exact .inl hn
  · refine .inr ⟨g, cap, cur, rfl, hb, ?_, r⟩
    have hne : g ≠ N := by
      rintro rfl
      rw [hN] at hg
      injection hg with hg
      injection hg with _ h2 _
      exact hT h2
    rw [t.keep g hne (Array.getElem?_eq_some_iff.1 hg).1]
    exact hg
theorem BigIs.turn {N : Nat} {w w' : World} {x : Value} {m : Bool} {n L : Nat} {cs : Array Value} {T : TypeId} {fr : Nat × Nat} (h : BigIs w x m n L) (t : Turn N w w') (hN : w.heap[N]? = some (.cells cs T fr)) (hT : T ≠ 36) : BigIs w' x m n L := by
  obtain ⟨v, ds, h1, h2, h3, h4, h5, h6⟩ := h.out
  exact ⟨v, ds, h1, own_turn t h2 hN hT, h3, h4, h5, h6⟩
theorem RSc.turn {N : Nat} {w w' : World} {M h n : Nat} {cs : Array Value} {T : TypeId} {fr : Nat × Nat} (c : RSc w M h n) (t : Turn N w w') (hN : w.heap[N]? = some (.cells cs T fr)) (hT : T ≠ 36) (ne : M ≠ N) : RSc w' M h n := by
  have := c.lt
  obtain ⟨p, k, c', h1, h2⟩ := c
  exact ⟨p, k, c', (t.keep M ne this).trans h1, h2.turn t hN hT⟩

def RNewP10 (w : World) (h : Nat) (r : Ending) (w' : World) : Prop := ∃ M, r = .returned (.tuple #[.pointer (some ⟨M, 0, none⟩), .int .i64 0]) ∧ RSc w' M h 0 ∧ w.heap.size ≤ M ∧ Below w.heap.size w w'
theorem big_zero (w : World) (L : Nat) : BigIs w (.agg #[.bool false, .slice none 0 0]) false 0 L := ⟨_, [], rfl, own_nil 0 w, by intro d hd; simp at hd, canon_nil, rfl, by simp⟩

theorem rnew10_ok (w : World) (h : Nat) (h0 : 0 < h) (h1 : h ≤ 1000000000000) :
    Calls Try.prog 9 #[.int .u64 (h : Nat)] w (RNewP10 w h) := by
  have F : Hid (RNewP10 w h (.returned (.tuple #[.pointer (some ⟨w.heap.size, 0, none⟩), .int .i64 0])) (w.alloc (.cells #[.int .i64 (h : Nat), .bool false, .slice none 0 0] 46))) :=
    ⟨_, rfl, ⟨_, _, _, heap_alloc_new _ _, big_zero _ _⟩, Nat.le_refl _, (Below.refl _ _).alloc (Nat.le_refl _) _⟩
  have e1 : ¬ (h : Int) < 1 := by omega
  have e2 : decide ((h : Int) < 1) = false := decide_eq_false e1
  have e3 : decide (1000000000000 < (h : Int)) = false := decide_eq_false (by omega)
  have e4 : IntKind.i64.wrap (h : Int) = (h : Int) := by rw [IntKind.wrap_i64]; omega
  have e5 : (h : Int) ≤ 1000000000000 := by omega
  have e6 : (1 : Int) ≤ (h : Int) := by omega
  clear h0 h1
  go_enter Try.func9, Try.ntmps9
  go_wp2
  go_ret2
  exact F.out
theorem rnew10_no (w : World) (h : Nat) (hb : h < 18446744073709551616) (h0 : ¬ (0 < h ∧ h ≤ 1000000000000)) :
    Calls Try.prog 9 #[.int .u64 (h : Nat)] w (NoneP10 w) := by
  by_cases z : h = 0
  · subst z
    clear h0 hb
    go_enter Try.func9, Try.ntmps9
    go_wp2
    go_ret2
    exact ⟨rfl, Below.refl _ _⟩
  · have e2 : decide ((h : Int) < 1) = false := decide_eq_false (by omega)
    have e3 : decide (1000000000000 < (h : Int)) = true := decide_eq_true (by omega)
    have e5 : 1000000000000 < (h : Int) := by omega
    have e6 : (1 : Int) ≤ (h : Int) := by omega
    clear h0 hb z
    go_enter Try.func9, Try.ntmps9
    go_wp2
    go_ret2
    exact ⟨rfl, Below.refl _ _⟩

theorem rtick10_any (w : World) (h : Nat) (hb : h < 18446744073709551616) :
    Calls Try.prog 11 #[.int .u64 (h : Nat)] w fun r w' => r = .returned (.int .i64 (tickN h : Nat)) ∧ w' = w := by
  by_cases g : 0 < h ∧ h ≤ 1000000000000
  · have E : Hid (tickN h = tickT h) := by unfold tickN; rw [if_pos g]; rfl
    have td := tick_div g.1
    obtain ⟨q, hq⟩ : ∃ q, 1000000000 / h = q := ⟨_, rfl⟩
    obtain ⟨p, hp⟩ : ∃ p, q * h = p := ⟨_, rfl⟩
    have dm := Nat.div_add_mod 1000000000 h
    rw [hq, Nat.mul_comm, hp] at dm
    rw [hq] at td
    have ql : q ≤ 1000000000 := by rw [← hq]; exact Nat.div_le_self _ _
    have d1 : (1000000000 : Int) / (h : Int) = (q : Int) := by rw [← hq]; simp
    have d2 : IntKind.u64.wrap (q : Int) = (q : Int) := by rw [IntKind.wrap_u64]; omega
    have d3 : (q : Int) * (h : Int) = (p : Int) := by rw [← hp]; simp
    have d4 : IntKind.u64.wrap (p : Int) = (p : Int) := by rw [IntKind.wrap_u64]; omega
    have d5 : IntKind.i64.wrap (q : Int) = (q : Int) := by rw [IntKind.wrap_i64]; omega
    have n1 : ((h : Int) == 0) = false := by rw [beq_eq_false_iff_ne]; omega
    have n2 : ¬ (h : Int) = 0 := by omega
    have n3 : ¬ h = 0 := by omega
    have e1 : ¬ (h : Int) < 1 := by omega
    have e2 : decide ((h : Int) < 1) = false := decide_eq_false e1
    have e3 : decide (1000000000000 < (h : Int)) = false := decide_eq_false (by omega)
    have e5 : (h : Int) ≤ 1000000000000 := by omega
    have e6 : (1 : Int) ≤ (h : Int) := by omega
    by_cases z : 1000000000 % h = 0
    · rw [if_pos z] at td
      have TD := Lib.hid td
      have f1 : decide ((p : Int) < 1000000000) = false := decide_eq_false (by omega)
      have f2 : (1000000000 : Int) ≤ (p : Int) := by omega
      clear g hq hp dm td ql z hb
      go_enter Try.func11, Try.ntmps11
      go_wp2
      go_ret
      exact ⟨ret_int (by rw [E.out, TD.out]), rfl⟩
    · rw [if_neg z] at td
      obtain ⟨t, ht⟩ : ∃ t, t = q + 1 := ⟨_, rfl⟩
      rw [← ht] at td
      have TD := Lib.hid td
      have f1 : decide ((p : Int) < 1000000000) = true := decide_eq_true (by omega)
      have f2 : (p : Int) < 1000000000 := by omega
      have f3 : (q : Int) + 1 = (t : Int) := by omega
      have f4 : IntKind.u64.wrap (t : Int) = (t : Int) := by rw [IntKind.wrap_u64]; omega
      have f5 : IntKind.i64.wrap (t : Int) = (t : Int) := by rw [IntKind.wrap_i64]; omega
      clear g hq hp dm td ql z hb ht
      go_enter Try.func11, Try.ntmps11
      go_wp2
      go_ret
      exact ⟨ret_int (by rw [E.out, TD.out]), rfl⟩
  · have E : Hid (tickN h = 0) := by unfold tickN; rw [if_neg g]; rfl
    by_cases z : h = 0
    · subst z
      clear g hb
      go_enter Try.func11, Try.ntmps11
      go_wp2
      go_ret
      exact ⟨by rw [E.out]; rfl, rfl⟩
    · have e2 : decide ((h : Int) < 1) = false := decide_eq_false (by omega)
      have e3 : decide (1000000000000 < (h : Int)) = true := decide_eq_true (by omega)
      have e5 : 1000000000000 < (h : Int) := by omega
      have e6 : (1 : Int) ≤ (h : Int) := by omega
      clear g hb z
      go_enter Try.func11, Try.ntmps11
      go_wp2
      go_ret
      exact ⟨by rw [E.out]; rfl, rfl⟩

/-- A quotient's digits. -/
theorem over10_any (w : World) (p1 : Option Addr) (k1 c1 : Nat) (p2 : Option Addr) (k2 c2 a b La Lb : Nat) (hx : BigIs w (.agg #[.bool false, .slice p1 k1 c1]) false a La) (hy : BigIs w (.agg #[.bool false, .slice p2 k2 c2]) false b Lb) (la : La ≤ 100) (lb : Lb ≤ 100) (b0 : 0 < b) (q : Nat) (hq : a / b = q) :
    Calls Try.prog 27 #[.slice p1 k1 c1, .slice p2 k2 c2] w fun e w' => ∃ p k c vr, e = .returned (.tuple #[.slice p k c, vr]) ∧ BigRaw w' (.agg #[.bool false, .slice p k c]) false q La ∧ Below w.heap.size w w' := by
  obtain ⟨v1, d1, e1, o1, g1, n1, h1, l1⟩ := hx.out
  obtain ⟨v2, d2, e2, o2, g2, n2, h2, l2⟩ := hy.out
  injection e1 with e1
  injection e2 with e2
  have e1' : Value.slice p1 k1 c1 = v1 := by simpa using e1
  have e2' : Value.slice p2 k2 c2 = v2 := by simpa using e2
  subst e1' e2'
  refine (Over_any w _ _ d1 d2 o1 o2 g1 g2 n2 b h2 b0 (by omega) (by omega)).mono ?_
  rintro e w' ⟨vq, vr, qs, rs, rfl, i1, i2, i3, i4, -, -, -, -, i9⟩
  obtain ⟨p, c, rfl⟩ := own_len i1 rfl
  rw [h1, hq] at i3
  exact ⟨p, _, c, vr, rfl, ⟨_, qs, rfl, i1, i2, i3, by omega⟩, i9⟩
end Go.Proofs.Ytccfimempjbnfaa
