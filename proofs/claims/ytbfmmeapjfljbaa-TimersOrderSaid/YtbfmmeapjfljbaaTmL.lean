/- Layer 14 (timers): timers that are all new, call by call; what the laws call alive: the chapter's rows. -/
import Derived.Test.YtbfmmeapjfljbaaTmK
set_option maxRecDepth 100000
namespace Go.Proofs.Ytbfmmeapjfljbaa
open Go.ChangeShapes Go.WideShapes Go.ChangeAt Go.RowKit Go.Maps HeapM

/-- Timers and a row of what fired, all new. -/
structure TRow (w wr : World) (N : Nat) (s : TS) (p : Option Addr) (n c : Nat) (fs : List FdT) : Prop where
  out : ∃ F, TmP wr F N s ∧ (∀ M, F M → w.heap.size ≤ M) ∧ ∀ a, p = some a → ¬ F a.block
  own : OwnF wr w.heap.size p n c fs
  low : Below w.heap.size w wr
section
variable {w wr w' : World} {N : Nat} {s s' : TS} {p : Option Addr} {n c : Nat} {fs : List FdT}
theorem TRow.tat (h : TRow w wr N s p n c fs) : TAt w wr N s := by
  obtain ⟨F, h1, h2, -⟩ := h.out
  exact ⟨⟨F, h1, h2⟩, h.low⟩
theorem TRow.len (h : TRow w wr N s p n c fs) : n = fs.length := by
  have := h.own.1
  rw [cellsF_len] at this
  omega
theorem TAt.row (h : TAt w wr N s) : TRow w wr N s none 0 0 [] := by
  obtain ⟨F, h1, h2⟩ := h.out
  exact ⟨⟨F, h1, h2, fun a ha => by cases ha⟩, OwnF.nil _ _, h.low⟩
theorem TAt.ok (h : TAt w wr N s) : s.Ok := by
  obtain ⟨F, h1, -⟩ := h.out
  exact h1.ok
theorem TAt.below (h : TAt w wr N s) (b : Below wr.heap.size wr w') : TAt w w' N s := by
  obtain ⟨F, h1, h2⟩ := h.out
  exact ⟨⟨F, h1.below b, h2⟩, h.low.trans (b.mono h.low.size)⟩
theorem TRow.below (h : TRow w wr N s p n c fs) (b : Below wr.heap.size wr w') : TRow w w' N s p n c fs := by
  obtain ⟨F, h1, h2, h3⟩ := h.out
  exact ⟨⟨F, h1.below b, h2, h3⟩, h.own.below b, h.low.trans (b.mono h.low.size)⟩
theorem TRow.turn {F : Nat → Prop} (h2 : ∀ M, F M → w.heap.size ≤ M) (h3 : ∀ a, p = some a → ¬ F a.block) (own : OwnF wr w.heap.size p n c fs) (low : Below w.heap.size w wr) (k : TmR wr F N s' w') : TRow w w' N s' p n c fs := by
  obtain ⟨F', h1, t, n'⟩ := k
  refine ⟨⟨F', h1, fun M hM => ?_, fun a ha f => ?_⟩, own.keep fun a ha => ?_, low.trans (t.low _ h2 low.size)⟩
  · rcases n' M hM with q | q
    · exact h2 M q
    · exact Nat.le_trans low.size q
  · subst ha
    rcases n' _ f with q | q
    · exact h3 a rfl q
    · have := own.lt.1; omega
  · subst ha
    exact t.keep _ (h3 a rfl) own.lt.1
/-- A call that tells as much. -/
theorem TRow.call {f : FuncId} {args : Array Value} {E : Ending → Prop} (h : TRow w wr N s p n c fs) (k : ∀ F, TmP wr F N s → Calls Try.prog f args wr fun r w' => E r ∧ TmR wr F N s' w') : Calls Try.prog f args wr fun r w' => E r ∧ TRow w w' N s' p n c fs := by
  obtain ⟨F, h1, h2, h3⟩ := h.out
  exact (k F h1).mono fun r w' ⟨a, b⟩ => ⟨a, TRow.turn h2 h3 h.own h.low b⟩
theorem TAt.call {f : FuncId} {args : Array Value} {E : Ending → Prop} (h : TAt w wr N s) (k : ∀ F, TmP wr F N s → Calls Try.prog f args wr fun r w' => E r ∧ TmR wr F N s' w') : Calls Try.prog f args wr fun r w' => E r ∧ TAt w w' N s' :=
  (h.row.call k).mono fun _ _ ⟨a, b⟩ => ⟨a, b.tat⟩
theorem TAt.add (h : TAt w wr N s) (k : Bool) (a e : Int) (a0 : 0 ≤ a) (a1 : a ≤ topT) (e0 : 0 ≤ e) (e1 : e ≤ topT) (sm : s.ad + 1 < 18446744073709551616 ∧ s.ca + 1 < 18446744073709551616) (len : (s.l false).length + (s.l true).length < 256) :
    Calls Try.prog 7 #[.pointer (some ⟨N, 0, none⟩), .agg #[.bool k, .int .i64 a, .int .i64 e]] wr fun r w' => r = .returned (.tuple #[.int .u64 (s.ad + 1 : Nat), .int .i64 0]) ∧ TAt w w' N (addS s k a e) :=
  h.call fun F q => padd14 wr F N s q k a e a0 a1 e0 e1 sm len
theorem TAt.reset (h : TAt w wr N s) (k : Bool) (d j : Nat) (a e : Int) (hp : place (s.l k) d = some j) (a0 : 0 ≤ a) (a1 : a ≤ topT) (e0 : 0 ≤ e) (e1 : e ≤ topT) (sm : s.ca + 1 < 18446744073709551616) :
    Calls Try.prog 10 #[.pointer (some ⟨N, 0, none⟩), .int .u64 (d : Nat), .int .i64 a, .int .i64 e] wr fun r w' => r = .returned (.int .i64 0) ∧ TAt w w' N (resS s k j d a e) :=
  h.call fun F q => preset14 wr F N s q k d j a e hp a0 a1 e0 e1 sm
theorem TAt.next (h : TAt w wr N s) (k : Bool) :
    Calls Try.prog 18 #[.pointer (some ⟨N, 0, none⟩), .bool k] wr fun r w' => r = .returned (.tuple #[.int .i64 (popX (s.l k)).t, .bool (decide (0 < (s.l k).length))]) ∧ Below wr.heap.size wr w' := by
  obtain ⟨F, h1, -⟩ := h.out
  exact pNext14 wr F N s h1 k
theorem TAt.cancel_none (h : TAt w wr N s) (d : Nat) (hd : d < 18446744073709551616) (n : ∀ k, d ∉ (s.l k).map It.id) :
    Calls Try.prog 19 #[.pointer (some ⟨N, 0, none⟩), .int .u64 (d : Nat)] wr fun r w' => r = .returned (.int .i64 6) ∧ Below wr.heap.size wr w' := by
  obtain ⟨F, h1, -⟩ := h.out
  exact pcancel14_none wr F N s h1 d hd n
theorem TAt.count (h : TAt w wr N s) :
    Calls Try.prog 11 #[.pointer (some ⟨N, 0, none⟩)] wr fun r w' => r = .returned (.int .i64 ((s.l false).length + (s.l true).length : Nat)) ∧ w' = wr := by
  obtain ⟨F, h1, -⟩ := h.out
  exact pLen14 wr F N s h1
end
/-- All that are due fire: what is told lies in a row of its own; another row stays. -/
structure FireA (w : World) (N : Nat) (s : TS) (mo wa : Int) (q : Option Addr) (m d : Nat) (gs : List FdT) (r : Ending) (w' : World) (p : Option Addr) (n c : Nat) (ds0 m0 ds1 m1 : List It) : Prop where
  r : r = .returned (.slice p n c)
  d0 : FireD s false mo ds0 m0
  d1 : FireD (s.putL false m0) true wa ds1 m1
  hn : n = ds0.length + ds1.length
  new : TRow w w' N ((s.putL false m0).putL true m1) p n c (ds0.map (fireS s false mo) ++ ds1.map (fireS s true wa))
  old : TRow w w' N ((s.putL false m0).putL true m1) q m d gs
theorem TRow.fire {w wr : World} {N : Nat} {s : TS} {q : Option Addr} {m d : Nat} {gs : List FdT} (h : TRow w wr N s q m d gs) (mono wall : Int) (h1 : I64 mono) (h2 : I64 wall) :
    Calls Try.prog 8 #[.pointer (some ⟨N, 0, none⟩), .int .i64 mono, .int .i64 wall] wr fun r w' => ∃ p n c ds0 m0 ds1 m1, FireA w N s (min mono topT) (min wall topT) q m d gs r w' p n c ds0 m0 ds1 m1 := by
  obtain ⟨F, t1, t2, t3⟩ := h.out
  refine (pfire14 wr F N s t1 mono wall h1 h2).mono fun r w' ⟨p, n, c, ds0, m0, ds1, m1, r1, f0, f1, hn, fs⟩ => ⟨p, n, c, ds0, m0, ds1, m1, r1, f0, f1, hn, ?_, ?_⟩
  · obtain ⟨F', g1, gt, gn, ga⟩ := fs.out
    refine ⟨⟨F', g1, fun M hM => ?_, ga⟩, ?_, h.low.trans (gt.low _ t2 h.low.size)⟩
    · rcases gn M hM with e | e
      · exact t2 M e
      · exact Nat.le_trans h.low.size e
    · have o := fs.own
      refine ⟨o.1, ?_⟩
      rcases o.2 with e | ⟨g, cap, cur, e, hb, r⟩
      · exact .inl e
      · exact .inr ⟨g, cap, cur, e, Nat.le_trans h.low.size hb, r⟩
  · obtain ⟨F', g1, gt, gn, ga⟩ := fs.out
    exact TRow.turn t2 t3 h.own h.low ⟨F', g1, gt, gn⟩

/-! ### Alive -/
def aliveS : TS := addS (addS (addS noT false 5 0) true 100 10) false 3 0
theorem alive_l0 : aliveS.l false = [⟨3, 3, 3⟩, ⟨1, 1, 5⟩] := by decide +kernel
theorem alive_l1 : aliveS.l true = [⟨2, 2, 100⟩] := by decide +kernel
theorem alive_ev : aliveS.ev 1 = 0 ∧ aliveS.ev 2 = 10 ∧ aliveS.ev 3 = 0 := by decide +kernel
theorem mem_none {l : List It} (h : ∀ y, ¬ y ∈ l) : l = [] := List.eq_nil_iff_forall_not_mem.2 h
theorem alive_fired {ds0 m0 ds1 m1 : List It} (f0 : FireD aliveS false 5 ds0 m0) (f1 : FireD (aliveS.putL false m0) true 125 ds1 m1) :
    ds0.map (fireS aliveS false 5) ++ ds1.map (fireS aliveS true 125) = [⟨3, ⟨false, 3, 0⟩, 2, 0⟩, ⟨1, ⟨false, 5, 0⟩, 0, 0⟩, ⟨2, ⟨true, 100, 10⟩, 25, 2⟩] ∧ ds0.length + ds1.length = 3 ∧ m0 = [] ∧ (0 < m1.length ∧ (popX m1).t = 130) ∧ ∀ y ∈ m1, y.id = 2 := by
  have e0 : ds0 = [⟨3, 3, 3⟩, ⟨1, 1, 5⟩] := by
    refine sorted_one f0.sorted (by decide) fun x => ?_
    rw [f0.due, alive_l0]
    constructor
    · exact fun h => h.1
    · intro h
      refine ⟨h, ?_⟩
      simp only [List.mem_cons, List.not_mem_nil, or_false] at h
      rcases h with rfl | rfl <;> decide
  have e1 : ds1 = [⟨2, 2, 100⟩] := by
    refine sorted_one f1.sorted (by decide) fun x => ?_
    rw [f1.due, show (aliveS.putL false m0).l true = aliveS.l true from putL_other aliveS false m0, alive_l1]
    constructor
    · exact fun h => h.1
    · intro h
      refine ⟨h, ?_⟩
      simp only [List.mem_cons, List.not_mem_nil, or_false] at h
      subst h; decide
  have k0 : m0 = [] := mem_none fun y hy => by
    obtain ⟨a, b⟩ := (f0.left y).1 hy
    rw [alive_l0, e0] at b
    simp only [List.mem_cons, List.not_mem_nil, or_false] at b
    rcases b with (rfl | rfl) | ⟨x, (rfl | rfl), b⟩
    · exact absurd a (by decide)
    · exact absurd a (by decide)
    · rw [alive_ev.2.2, show nextI 0 5 ⟨3, 3, 3⟩ = none by decide] at b; cases b
    · rw [alive_ev.1, show nextI 0 5 ⟨1, 1, 5⟩ = none by decide] at b; cases b
  have mm : ∀ y, y ∈ m1 ↔ y = ⟨2, 2, 130⟩ := fun y => by
    rw [f1.left, show (aliveS.putL false m0).l true = aliveS.l true from putL_other aliveS false m0, alive_l1, e1]
    simp only [List.mem_cons, List.not_mem_nil, or_false]
    have ev : (aliveS.putL false m0).ev 2 = 10 := alive_ev.2.1
    constructor
    · rintro ⟨a, rfl | ⟨x, rfl, b⟩⟩
      · exact absurd a (by decide)
      · rw [ev, show nextI 10 125 ⟨2, 2, 100⟩ = some ⟨2, 2, 130⟩ by decide] at b
        injection b with b
        exact b.symm
    · rintro rfl
      exact ⟨by decide, .inr ⟨_, rfl, by rw [ev]; decide⟩⟩
  have p1 : 0 < m1.length := List.length_pos_of_mem ((mm _).2 rfl)
  refine ⟨?_, by rw [e0, e1]; rfl, k0, ⟨p1, ?_⟩, fun y hy => by rw [(mm y).1 hy]⟩
  · rw [e0, e1]
    simp only [List.map_cons, List.map_nil, fireS]
    rw [alive_ev.2.2, alive_ev.1, alive_ev.2.1]
    rfl
  · rw [(pop_some p1).2.1, (mm _).1 (gt_mem p1)]
end Go.Proofs.Ytbfmmeapjfljbaa
