/- Layer 11 (mono): the program's clock and the document's own, side by side. -/
import Derived.Test.YtogkjgglpokkaaaMonoG
import Derived.Test.YtogkjgglpokkaaaMonoH
import Derived.Test.YtogkjgglpokkaaaFrameA
set_option maxRecDepth 100000
namespace Go.Proofs.Ytogkjgglpokkaaa
open Go.ChangeShapes Go.WideShapes Go.ChangeAt Go.RowKit MonoM

/-- A clock behind so many calls. -/
structure Fwd (w wr : World) (N : Nat) (x : Mo) (q : Nat) : Prop where
  c : Clk wr N x
  ok : x.Ok
  f : x.full = false
  r : x.raw ≤ q * 1125899906842624
  m : x.mono ≤ q * 2251799813685248
  low : Below w.heap.size w wr
theorem Fwd.far {w wr : World} {N : Nat} {x : Mo} {q : Nat} (h : Fwd w wr N x q) (b : q ≤ 100) : Far x := ⟨h.ok, h.f, by have := h.r; omega, by have := h.m; omega⟩
theorem Fwd.below {w wr w' : World} {N : Nat} {x : Mo} {q : Nat} (h : Fwd w wr N x q) (b : Below wr.heap.size wr w') : Fwd w w' N x q := ⟨h.c.below b, h.ok, h.f, h.r, h.m, h.low.trans (b.mono h.low.size)⟩
theorem Fwd.more {w wr : World} {N : Nat} {x : Mo} {q : Nat} (h : Fwd w wr N x q) : Fwd w wr N x (q + 1) := ⟨h.c, h.ok, h.f, by have := h.r; omega, by have := h.m; omega, h.low⟩
theorem fwd_rate {w wr w' : World} {N : Nat} {x : Mo} {q : Nat} {s : Int} (h : Fwd w wr N x q) (hN : w.heap.size ≤ N) (c : Clk w' N (rateX x s)) (t : Turn N wr w') : Fwd w w' N (rateX x s) (q + 1) := by
  have e : (rateX x s).raw = x.raw ∧ (rateX x s).mono = x.mono ∧ (rateX x s).full = x.full := by unfold rateX; split <;> exact ⟨rfl, rfl, rfl⟩
  exact ⟨c, rate_ok h.ok s, by rw [e.2.2]; exact h.f, by rw [e.1]; have := h.r; omega, by rw [e.2.1]; have := h.m; omega, t.below h.low hN⟩
theorem fwd_go {w wr w' : World} {N : Nat} {x : Mo} {q : Nat} {d : Int} (h : Fwd w wr N x q) (b : q ≤ 100) (hN : w.heap.size ≤ N) (h0 : 0 ≤ d) (h1 : d ≤ 1125899906842624) (c : Clk w' N (x.after d)) (t : Turn N wr w') : Fwd w w' N (x.after d) (q + 1) := by
  have F := h.far b
  refine ⟨c, Mo.after_ok h.ok h0, F.full h0 h1, ?_, ?_, t.below h.low hN⟩
  · rw [F.raw h0 h1]; have := h.r; omega
  · rw [F.mono h0 h1]; have := h.m; have := Mo.to_hi (x := x) (d := d) h.ok h0; omega

theorem Fwd.turn {w wr w' : World} {N M : Nat} {x : Mo} {q : Nat} (h : Fwd w wr N x q) (t : Turn M wr w') (ne : N ≠ M) (hM : w.heap.size ≤ M) : Fwd w w' N x q := ⟨t.clk h.c ne, h.ok, h.f, h.r, h.m, t.below h.low hM⟩

/-- Both clocks hold the same. -/
structure Both (w wr : World) (N M : Nat) (x : Mo) (q : Nat) : Prop where
  fw : Fwd w wr N x q
  r : RClk wr M x
  ne : N ≠ M
  hN : w.heap.size ≤ N
  hM : w.heap.size ≤ M
theorem Both.below {w wr w' : World} {N M : Nat} {x : Mo} {q : Nat} (h : Both w wr N M x q) (b : Below wr.heap.size wr w') : Both w w' N M x q := ⟨h.fw.below b, h.r.below b, h.ne, h.hN, h.hM⟩
theorem Both.more {w wr : World} {N M : Nat} {x : Mo} {q : Nat} (h : Both w wr N M x q) : Both w wr N M x (q + 1) := ⟨h.fw.more, h.r, h.ne, h.hN, h.hM⟩
theorem both_new {w w1 : World} {N : Nat} (hN : w.heap.size ≤ N) (c : Clk w1 N zeroM) (l : Below w.heap.size w w1) : Both w (w1.alloc (.cells #[.int .i64 0, .int .i64 0, .int .i64 0, .int .i64 0, .bool false] 27)) N w1.heap.size zeroM 0 := by
  have b : Below w1.heap.size w1 (w1.alloc (.cells #[.int .i64 0, .int .i64 0, .int .i64 0, .int .i64 0, .bool false] 27)) := (Below.refl _ _).alloc (Nat.le_refl _) _
  exact ⟨⟨c.below b, zero_ok, rfl, by decide, by decide, l.trans (b.mono l.size)⟩, heap_alloc_new _ _, by have := c.lt; omega, hN, l.size⟩
theorem act_ne {w wr : World} {N M Na : Nat} {x : Mo} {q : Nat} {cs : Array Value} (a : wr.heap[Na]? = some (.cells cs 29 (0, 0))) (h : Both w wr N M x q) : Na ≠ N ∧ Na ≠ M := by
  constructor
  · rintro rfl
    have g := h.fw.c
    unfold Clk at g
    rw [a] at g
    injection g with g
    injection g with _ g _
    exact absurd g (by decide)
  · rintro rfl
    have g := h.r
    unfold RClk at g
    rw [a] at g
    injection g with g
    injection g with _ g _
    exact absurd g (by decide)
/-- Both go on. -/
theorem both_go {w wr : World} {N M : Nat} {x : Mo} {q : Nat} (h : Both w wr N M x q) (b : q ≤ 100) (v : Int) : ∃ (y : Mo) (e1 e2 g1 g2 : Int),
    Calls Try.prog 11 #[.pointer (some ⟨N, 0, none⟩), .int .i64 v] wr (GoP11 wr N y g1 e1) ∧
    (∀ w', RClk w' M x → Calls Try.prog 12 #[.pointer (some ⟨M, 0, none⟩), .int .i64 v] w' (RGoP11 w' M y g2 e2)) ∧
    (∀ w', Clk w' N y → Turn N wr w' → Fwd w w' N y (q + 1)) ∧ e1 = e2 ∧ g1 = g2 := by
  have G := pgo11_any wr N x v h.fw.c h.fw.ok
  by_cases hb : badD v
  · have e := go_no x hb
    rw [e.1, e.2.1, e.2.2] at G
    exact ⟨x, 1, 1, 0, 0, G, fun w' c => rgo11_arg w' M x v c hb, fun w' c t => (⟨c, h.fw.ok, h.fw.f, h.fw.r, h.fw.m, t.below h.fw.low h.hN⟩ : Fwd w w' N x q).more, rfl, rfl⟩
  · have h0 : 0 ≤ v := by unfold badD at hb; omega
    have h1 : v ≤ 1125899906842624 := by unfold badD at hb; omega
    have F := h.fw.far b
    have e := F.go h0 h1
    rw [e.1, e.2.1, e.2.2] at G
    have tl := F.to_le h0 h1
    have r := F.r
    exact ⟨x.after v, 0, 0, v + x.q v, v + x.q v, G, fun w' c => rgo11_far w' M x v c h.fw.ok h.fw.f h0 h1 (by omega) (by omega), fun w' c t => fwd_go h.fw b h.hN h0 h1 c t, rfl, rfl⟩
theorem ahead_end {w wr : World} {N M : Nat} {x : Mo} {q : Nat} (h : Both w wr N M x q) (b : q ≤ 100) (t : Int) : ∀ d, 0 ≤ d → d ≤ 1125899906842624 → (t ≤ (x.after d).mono → decide (t ≤ x.to d) = true) ∧ ((x.after d).mono < t → decide (t ≤ x.to d) = false) := by
  intro d h0 h1
  rw [(h.fw.far b).mono h0 h1]
  exact ⟨fun g => decide_eq_true g, fun g => decide_eq_false (by omega)⟩
end Go.Proofs.Ytogkjgglpokkaaa
