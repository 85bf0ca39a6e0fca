/- TimersOrder: two timers side by side; all fire; rows of what fired, compared. -/
import Derived.Test.YtbfmmeapjfljbaaTmU
import Derived.Laws.StructEq
set_option maxRecDepth 100000
namespace Go.Proofs.Ytbfmmeapjfljbaa
open Go.ChangeShapes Go.WideShapes Go.ChangeAt Go.RowKit Go.Maps HeapM

/-- A thing that stands on blocks of its own. -/
structure Thg where
  P : World → (Nat → Prop) → Prop
  keep : ∀ {w w' F}, P w F → (∀ K, F K → w'.heap[K]? = w.heap[K]?) → P w' F
  lt : ∀ {w F}, P w F → ∀ K, F K → K < w.heap.size
def tTh (N : Nat) (s : TS) : Thg := ⟨fun w F => TmP w F N s, fun h k => h.keep k, fun h K k => h.lt K k⟩
/-- Timers and a row of what fired. -/
def cTh (N : Nat) (s : TS) (p : Option Addr) (n c : Nat) (fs : List FdT) : Thg where
  P := fun w F => (∃ F1, TmP w F1 N s ∧ ∀ K, F1 K → F K) ∧ OwnF w 0 p n c fs ∧ (∀ a, p = some a → F a.block) ∧ ∀ K, F K → K < w.heap.size
  keep := fun ⟨⟨F1, h1, h2⟩, h3, h4, h5⟩ k => by
    refine ⟨⟨F1, h1.keep fun K z => k K (h2 K z), h2⟩, h3.keep fun a ha => k _ (h4 a ha), h4, fun K z => ?_⟩
    have e := k K z
    have l := h5 K z
    obtain ⟨o, ho⟩ : ∃ o, _ = some o := ⟨_, Array.getElem?_eq_getElem l⟩
    rw [ho] at e
    exact (Array.getElem?_eq_some_iff.1 e).1
  lt := fun ⟨_, _, _, h⟩ K k => h K k

structure Pair (w : World) (B0 : Nat) (v wr : World) (T1 T2 : Thg) : Prop where
  out : ∃ F G, T1.P wr F ∧ T2.P wr G ∧ (∀ K, F K ∨ G K → w.heap.size ≤ K ∧ (K < B0 ∨ v.heap.size ≤ K)) ∧ ∀ K, F K → ¬ G K
  keep : ∀ K, B0 ≤ K → K < v.heap.size → wr.heap[K]? = v.heap[K]?
  low : Below w.heap.size w wr
  size : v.heap.size ≤ wr.heap.size
section
variable {w : World} {B0 : Nat} {v wr w' : World} {T1 T2 : Thg}
theorem Pair.turn (h : Pair w B0 v wr T1 T2) : Pair w B0 v wr T2 T1 := by
  obtain ⟨F, G, f, g, u, n⟩ := h.out
  exact ⟨⟨G, F, g, f, fun K z => u K z.symm, fun K a b => n K b a⟩, h.keep, h.low, h.size⟩
theorem Pair.below (h : Pair w B0 v wr T1 T2) (k : Below wr.heap.size wr w') : Pair w B0 v w' T1 T2 := by
  obtain ⟨F, G, f, g, u, n⟩ := h.out
  exact ⟨⟨F, G, T1.keep f fun K z => k.block K (T1.lt f K z), T2.keep g fun K z => k.block K (T2.lt g K z), u, n⟩, fun K a b => (k.block K (Nat.lt_of_lt_of_le b h.size)).trans (h.keep K a b), h.low.trans (k.mono h.low.size), Nat.le_trans h.size k.size⟩
/-- A call on the first one. -/
theorem Pair.call {f : FuncId} {args : Array Value} {E : Ending → Thg → Prop} (h : Pair w B0 v wr T1 T2)
    (c : ∀ F, T1.P wr F → Calls Try.prog f args wr fun e w' => ∃ T', E e T' ∧ ∃ F', T'.P w' F' ∧ FT F wr w' ∧ ∀ K, F' K → F K ∨ wr.heap.size ≤ K) :
    Calls Try.prog f args wr fun e w' => ∃ T', E e T' ∧ Pair w B0 v w' T' T2 := by
  obtain ⟨F, G, hF, hG, u, n⟩ := h.out
  refine (c F hF).mono fun e w' ⟨T', a, F', k, t, m⟩ => ⟨T', a, ⟨F', G, k, T2.keep hG fun K z => t.keep K (fun y => n K y z) (T2.lt hG K z), fun K z => ?_, fun K z y => ?_⟩, fun K h1 h2 => ?_, h.low.trans (t.low _ (fun K z => (u K (.inl z)).1) h.low.size), Nat.le_trans h.size t.size⟩
  · rcases z with z | z
    · rcases m K z with y | y
      · exact u K (.inl y)
      · exact ⟨Nat.le_trans h.low.size y, .inr (Nat.le_trans h.size y)⟩
    · exact u K (.inr z)
  · rcases m K z with x | x
    · exact n K x y
    · have := T2.lt hG K y; omega
  · refine (t.keep K (fun z => ?_) (Nat.lt_of_lt_of_le h2 h.size)).trans (h.keep K h1 h2)
    rcases (u K (.inl z)).2 with y | y <;> omega
/-- A cell that is nobody's. -/
theorem Pair.cell (h : Pair w B0 v wr T1 T2) {a : Addr} (h0 : B0 ≤ a.block) {u : Value} (hc : v.cell? a = some u) : wr.cell? a = some u :=
  (World.cell?_of_block (h.keep a.block h0 (World.block_lt_of_cell? v _ hc))).trans hc
theorem Pair.ok {N : Nat} {s : TS} (h : Pair w B0 v wr (tTh N s) T2) : s.Ok := by
  obtain ⟨F, G, f, -⟩ := h.out
  exact TmP.ok f
end
theorem pair_new {w w1 w2 v : World} {N M : Nat} (h1 : TAt w w1 N noT) (h2 : TAt w1 w2 M noT) (b : Below w2.heap.size w2 v) : Pair w w2.heap.size v v (tTh N noT) (tTh M noT) := by
  obtain ⟨F, f, u⟩ := h1.out
  obtain ⟨G, g, x⟩ := h2.out
  have f2 := f.below h2.low
  refine ⟨⟨F, G, f2.below b, g.below b, fun K z => ?_, fun K y z => ?_⟩, fun _ _ _ => rfl, (h1.low.trans (h2.low.mono h1.low.size)).trans (b.mono (Nat.le_trans h1.low.size h2.low.size)), Nat.le_refl _⟩
  · rcases z with z | z
    · exact ⟨u K z, .inl (f2.lt K z)⟩
    · exact ⟨Nat.le_trans h1.low.size (x K z), .inl (g.lt K z)⟩
  · have := f.lt K y
    have := x K z
    omega

section
variable {w : World} {B0 : Nat} {v wr w' : World} {T2 : Thg} {N : Nat} {s : TS} {A : List Nat}
theorem Pair.add (h : Pair w B0 v wr (tTh N s) T2) (q : OrdS s A) (hA : A.length < 40) (k : Bool) (a : Int) (a0 : 0 ≤ a) (a1 : a ≤ 100000) :
    Calls Try.prog 7 #[.pointer (some ⟨N, 0, none⟩), .agg #[.bool k, .int .i64 a, .int .i64 0]] wr fun r w' => r = .returned (.tuple #[.int .u64 (A.length + 1 : Nat), .int .i64 0]) ∧ ∃ s', Pair w B0 v w' (tTh N s') T2 ∧ MidS s' A (A.length + 1) k a 1 := by
  have ok := h.ok
  refine (h.call (E := fun r T' => r = .returned (.tuple #[.int .u64 (A.length + 1 : Nat), .int .i64 0]) ∧ T' = tTh N (addS s k a 0)) fun F f => ?_).mono fun r w' ⟨T', ⟨r1, e⟩, p⟩ => ?_
  · refine (padd14 wr F N s f k a 0 a0 (by unfold topT; omega) (by decide) (by decide) (by have := q.ad; have := q.ca; omega) (by rw [q.len]; omega)).mono fun r w' ⟨r1, F', k1, k2, k3⟩ => ⟨_, ⟨by rw [r1, q.ad], rfl⟩, F', k1, k2, k3⟩
  · subst e
    exact ⟨r1, _, p, q.add ok k a⟩
theorem Pair.reset {d u : Nat} {k0 : Bool} {t0 : Int} (h : Pair w B0 v wr (tTh N s) T2) (q : MidS s A d k0 t0 u) (hA : A.length ≤ 40) (hu : u ≤ 3) (t1 : Int) (a0 : 0 ≤ t1) (a1 : t1 ≤ 100000) :
    Calls Try.prog 10 #[.pointer (some ⟨N, 0, none⟩), .int .u64 (d : Nat), .int .i64 t1, .int .i64 0] wr fun r w' => r = .returned (.int .i64 0) ∧ ∃ s', Pair w B0 v w' (tTh N s') T2 ∧ MidS s' A d k0 t1 (u + 1) := by
  have ok := h.ok
  obtain ⟨j, hj⟩ := q.place
  refine (h.call (E := fun r T' => r = .returned (.int .i64 0) ∧ T' = tTh N (resS s k0 j d t1 0)) fun F f => ?_).mono fun r w' ⟨T', ⟨r1, e⟩, p⟩ => ?_
  · refine (preset14 wr F N s f k0 d j t1 0 hj a0 (by unfold topT; omega) (by decide) (by decide) (by have := q.ca; omega)).mono fun r w' ⟨r1, F', k1, k2, k3⟩ => ⟨_, ⟨r1, rfl⟩, F', k1, k2, k3⟩
  · subst e
    exact ⟨r1, _, p, q.reset ok hj t1⟩
/-- What all of them told. -/
def FirA (s : TS) (fs : List FdT) : Prop := ∃ ds0 ds1 : List It, ds0.Pairwise (fun a b => ahd a b = true) ∧ ds1.Pairwise (fun a b => ahd a b = true) ∧ (∀ x, x ∈ ds0 ↔ x ∈ s.l false) ∧ (∀ x, x ∈ ds1 ↔ x ∈ s.l true) ∧ fs = ds0.map (fun x => onceF false 65535 x.t x.id) ++ ds1.map (fun x => onceF true 65535 x.t x.id)
theorem Pair.fire (h : Pair w B0 v wr (tTh N s) T2) (q : OrdS s A) (hA : ∀ a ∈ A, a < 65536) :
    Calls Try.prog 8 #[.pointer (some ⟨N, 0, none⟩), .int .i64 65535, .int .i64 65535] wr fun r w' => ∃ p c fs s', r = .returned (.slice p A.length c) ∧ Pair w B0 v w' (cTh N s' p A.length c fs) T2 ∧ FirA s fs ∧ (s'.l false).length + (s'.l true).length = 0 := by
  have ok := h.ok
  have due : ∀ k, ∀ x ∈ s.l k, x.t ≤ 65535 := fun k x hx => by
    obtain ⟨a, ha, e, -⟩ := (q.mem k x.t).1 ⟨x, hx, rfl⟩
    have := hA a ha
    omega
  have am : min (65535 : Int) topT = 65535 := by decide
  refine (h.call (E := fun r T' => ∃ p c fs s', r = .returned (.slice p A.length c) ∧ T' = cTh N s' p A.length c fs ∧ FirA s fs ∧ (s'.l false).length + (s'.l true).length = 0) fun F f => ?_).mono fun r w' ⟨T', ⟨p, c, fs, s', r1, e, r2, r3⟩, pp⟩ => ?_
  · have PF := pfire14 wr F N s f 65535 65535 ⟨by decide, by decide⟩ ⟨by decide, by decide⟩
    rw [am] at PF
    refine PF.mono fun r w' ⟨p, n, c, ds0, m0, ds1, m1, r1, f0, f1, hn, fs⟩ => ?_
    obtain ⟨e0, d0, l0⟩ := fired_all f0 ok q.ev (due false)
    have so : (s.putL false m0).l true = s.l true := putL_other s false m0
    have ok1 := f0.ok
    obtain ⟨e1, d1, l1⟩ := fired_all f1 ok1 q.ev (fun x hx => due true x (by rw [so] at hx; exact hx))
    rw [so] at d1 l1
    have hn' : n = A.length := by rw [hn, l0, l1, q.len]
    subst hn'
    obtain ⟨F', g1, gt, gn, ga⟩ := fs.out
    refine ⟨cTh N ((s.putL false m0).putL true m1) p A.length c (ds0.map (fireS s false 65535) ++ ds1.map (fireS s true 65535)), ⟨p, c, _, _, r1, rfl, ⟨ds0, ds1, f0.sorted, f1.sorted, d0, d1, ?_⟩, ?_⟩, fun K => F' K ∨ ∃ a, p = some a ∧ K = a.block, ⟨⟨F', g1, fun K z => .inl z⟩, ?_, fun a ha => .inr ⟨a, ha, rfl⟩, fun K z => ?_⟩, gt, fun K z => ?_⟩
    · congr 1
      · exact List.map_congr_left fun x _ => fire_once q.ev false 65535 x
      · exact List.map_congr_left fun x _ => fire_once q.ev true 65535 x
    · rw [show ((s.putL false m0).putL true m1).l true = m1 from putL_same _ _ _, show ((s.putL false m0).putL true m1).l false = (s.putL false m0).l false from putL_other _ true _, putL_same, e0, e1]
      rfl
    · have o := fs.own
      refine ⟨o.1, ?_⟩
      rcases o.2 with e | ⟨g, cap, cur, e, hb, r⟩
      · exact .inl e
      · exact .inr ⟨g, cap, cur, e, Nat.zero_le _, r⟩
    · rcases z with z | ⟨a, rfl, rfl⟩
      · exact g1.lt K z
      · exact fs.own.lt.1
    · rcases z with z | ⟨a, rfl, rfl⟩
      · exact gn K z
      · exact .inr fs.own.lt.2.1
  · subst e
    exact ⟨p, c, fs, s', r1, pp, r2, r3⟩
end
theorem Pair.count {w : World} {B0 : Nat} {v wr : World} {T2 : Thg} {N n c : Nat} {s : TS} {p : Option Addr} {fs : List FdT} (h : Pair w B0 v wr (cTh N s p n c fs) T2) (h0 : (s.l false).length + (s.l true).length = 0) :
    Calls Try.prog 11 #[.pointer (some ⟨N, 0, none⟩)] wr fun r w' => r = .returned (.int .i64 0) ∧ w' = wr := by
  obtain ⟨F, G, ⟨⟨F1, f, -⟩, -⟩, -⟩ := h.out
  refine (pLen14 wr F1 N s f).mono fun r w' ⟨a, b⟩ => ⟨?_, b⟩
  rw [a, h0]
  rfl
theorem Pair.own {w : World} {B0 : Nat} {v wr : World} {T2 : Thg} {N n c : Nat} {s : TS} {p : Option Addr} {fs : List FdT} (h : Pair w B0 v wr (cTh N s p n c fs) T2) : OwnF wr 0 p n c fs := by
  obtain ⟨F, G, ⟨-, o, -⟩, -⟩ := h.out
  exact o

/-! ### Both rows tell the same -/
def keyF (f : FdT) : Tr × Int := (f.t, f.late)
theorem same_key {s s' : TS} {A A' : List Nat} (h : OrdS s A) (h' : OrdS s' A') (hA : ∀ a, a ∈ A ↔ a ∈ A') {fs fs' : List FdT} (f : FirA s fs) (f' : FirA s' fs') : fs.map keyF = fs'.map keyF := by
  obtain ⟨ds0, ds1, a0, a1, m0, m1, rfl⟩ := f
  obtain ⟨es0, es1, b0, b1, n0, n1, rfl⟩ := f'
  have e0 := same_t h h' false hA a0 b0 m0 n0
  have e1 := same_t h h' true hA a1 b1 m1 n1
  have k : ∀ (b : Bool) (l : List It), (l.map (fun x => onceF b 65535 x.t x.id)).map keyF = (l.map It.t).map (fun t => ((⟨b, t, 0⟩ : Tr), 65535 - t)) := fun b l => by
    rw [List.map_map, List.map_map]
    rfl
  rw [List.map_append, List.map_append, k, k, k, k, e0, e1]
theorem same_at {s s' : TS} {A A' : List Nat} (h : OrdS s A) (h' : OrdS s' A') (hA : ∀ a, a ∈ A ↔ a ∈ A') {fs fs' : List FdT} (f : FirA s fs) (f' : FirA s' fs') {i : Nat} (hi : i < fs.length) : (gf fs i).t = (gf fs' i).t ∧ (gf fs i).late = (gf fs' i).late := by
  have e := same_key h h' hA f f'
  have l : fs.length = fs'.length := by have := congrArg List.length e; simpa using this
  have q : (fs.map keyF)[i]? = (fs'.map keyF)[i]? := by rw [e]
  rw [List.getElem?_map, List.getElem?_map, List.getElem?_eq_getElem hi, List.getElem?_eq_getElem (by omega : i < fs'.length)] at q
  simp only [Option.map_some, Option.some.injEq] at q
  rw [gf_of hi, gf_of (by omega : i < fs'.length)]
  unfold keyF at q
  injection q with q1 q2
  exact ⟨q1, q2⟩
theorem neq_tr (w : World) (k : Bool) (a e : Int) : (binOp .neq 25 (.agg #[.bool k, .int .i64 a, .int .i64 e]) (.agg #[.bool k, .int .i64 a, .int .i64 e])).run Try.prog w = .ok (.bool false) w := by
  rw [run_neq_struct]
  rw [run_equalIn_agg w _ _ _ _ (by kernel_rfl) (by kernel_rfl)]
  rw [show (Try.prog.fieldsOf 25).toList = _ from rfl]
  simp [go_sem, Op.eqFields]
end Go.Proofs.Ytbfmmeapjfljbaa
