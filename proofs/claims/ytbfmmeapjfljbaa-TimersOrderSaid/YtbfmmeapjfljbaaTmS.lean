/- TimersSeq: what stands while its rounds go on. -/
import Derived.Test.YtbfmmeapjfljbaaTmR
import Derived.Test.YtbfmmeapjfljbaaTmQ
set_option maxRecDepth 100000
namespace Go.Proofs.Ytbfmmeapjfljbaa
open Go.ChangeShapes Go.WideShapes Go.ChangeAt Go.RowKit Go.Maps HeapM

/-- Behind both kinds' firing, where one kind alone has any. -/
structure KindF (w : World) (N : Nat) (k : Bool) (t : Int) (s : TS) (r : Ending) (w' : World) (p : Option Addr) (n c : Nat) (ds m : List It) (s' : TS) : Prop where
  r : r = .returned (.slice p n c)
  d : FireD s k t ds m
  hn : n = ds.length
  row : TRow w w' N s' p n c (ds.map (fireS s k t))
  here : s'.l k = m
  other : s'.l (!k) = []
  ev : s'.ev = s.ev
  ad : s'.ad = s.ad
  ca : s'.ca = s.ca
theorem kind_fire {w wr : World} {N : Nat} {s : TS} (h : TAt w wr N s) (k : Bool) (t : Int) (t0 : 0 ≤ t) (t1 : t ≤ 1000000) (o : s.l (!k) = []) :
    Calls Try.prog 8 #[.pointer (some ⟨N, 0, none⟩), .int .i64 t, .int .i64 t] wr fun r w' => ∃ p n c ds m s', KindF w N k t s r w' p n c ds m s' := by
  have a1 : min t topT = t := by unfold topT; omega
  have F := h.row.fire t t ⟨by omega, by omega⟩ ⟨by omega, by omega⟩
  rw [a1] at F
  refine F.mono fun r w' ⟨p, n, c, ds0, m0, ds1, m1, FA⟩ => ?_
  cases k
  · obtain ⟨e1, e2⟩ := fired_none (by rw [show true = !false from rfl, putL_other]; exact o) FA.d1
    subst e1 e2
    have nw := FA.new
    rw [List.map_nil, List.append_nil] at nw
    exact ⟨p, n, c, ds0, m0, _, FA.r, FA.d0, FA.hn, nw, (putL_other (s.putL false m0) true []).trans (putL_same s false m0), putL_same _ true [], rfl, rfl, rfl⟩
  · obtain ⟨e1, e2⟩ := fired_none o FA.d0
    subst e1 e2
    have sp : s.putL false [] = s := by
      have := putL_self s false
      rw [show s.l false = [] from o] at this
      exact this
    have d1 := FA.d1
    have nw := FA.new
    have hn := FA.hn
    rw [sp] at d1 nw
    rw [List.length_nil, Nat.zero_add] at hn
    rw [List.map_nil, List.nil_append] at nw
    exact ⟨p, n, c, ds1, m1, _, FA.r, d1, hn, nw, putL_same s true m1, (putL_other s true m1).trans o, rfl, rfl, rfl⟩

theorem gf_map {g : It → FdT} {l : List It} {i : Nat} (h : i < l.length) : gf (l.map g) i = g (gt l i) := by
  rw [gf_of (by simpa using h), gt_of h]
  simp
theorem gt_exp {kk n i : Nat} {t : Int} (h : i < n) : gt (expL kk n t) i = itAt kk n t i := by
  unfold gt
  rw [List.getD_eq_getElem?_getD, exp_get h]
  rfl
/-- One round. -/
theorem seq_fire {w wr : World} {N : Nat} {s : TS} (h : TAt w wr N s) {k : Bool} {e t : Int} {kk n : Nat} (q : SeqSt k e kk n t s) (h1 : 1 ≤ kk) (h2 : kk ≤ n) (t0 : 0 ≤ t) (t1 : t ≤ 1000) :
    Calls Try.prog 8 #[.pointer (some ⟨N, 0, none⟩), .int .i64 t, .int .i64 t] wr fun r w' => ∃ p c fs s', r = .returned (.slice p n c) ∧ TRow w w' N s' p n c fs ∧ (∀ i, i < n → (gf fs i).id = idAt kk n i) ∧ (e = 7 → SeqSt k e kk n (t + 7) s') ∧ (e = 0 → EmpSt k n s') := by
  refine (kind_fire h k t t0 (by omega) q.other).mono fun r w' ⟨p, n', c, ds, m, s', K⟩ => ?_
  obtain ⟨e1, e2, e3⟩ := q.fire h1 h2 t0 t1 K.d
  have hn : n' = n := by rw [K.hn, e1, exp_len]
  subst hn
  refine ⟨p, c, _, s', K.r, K.row, fun i hi => ?_, fun z => ?_, fun z => ?_⟩
  · rw [gf_map (by rw [e1, exp_len]; exact hi), e1, gt_exp hi]
    rfl
  · obtain ⟨g1, g2⟩ := e3 z
    exact ⟨by rw [K.here]; exact g1, K.other, by rw [K.here]; exact g2, by rw [K.ev]; exact q.ev, by rw [K.ad]; exact q.ad, by rw [K.ca]; exact q.ca⟩
  · exact ⟨by rw [K.here]; exact e2 z, K.other, by rw [K.ad]; exact q.ad, by rw [K.ca]; exact q.ca⟩
theorem emp_fire {w wr : World} {N : Nat} {s : TS} (h : TAt w wr N s) {k : Bool} {t : Int} {n : Nat} (q : EmpSt k n s) (t0 : 0 ≤ t) (t1 : t ≤ 1000) :
    Calls Try.prog 8 #[.pointer (some ⟨N, 0, none⟩), .int .i64 t, .int .i64 t] wr fun r w' => ∃ p c s', r = .returned (.slice p 0 c) ∧ TAt w w' N s' ∧ EmpSt k n s' := by
  refine (kind_fire h k t t0 (by omega) q.other).mono fun r w' ⟨p, n', c, ds, m, s', K⟩ => ?_
  obtain ⟨e1, e2⟩ := fired_none q.mem K.d
  have hn : n' = 0 := by rw [K.hn, e1]; rfl
  subst hn
  exact ⟨p, c, s', K.r, K.row.tat, by rw [K.here]; exact e2, K.other, by rw [K.ad]; exact q.ad, by rw [K.ca]; exact q.ca⟩
/-- The timers while they are added. -/
theorem add_any {w wr : World} {N : Nat} {s : TS} (h : TAt w wr N s) {k : Bool} {e : Int} {i : Nat} (q : AddSt k e i s) (hi : i < 30) (he : e = 0 ∨ e = 7) :
    Calls Try.prog 7 #[.pointer (some ⟨N, 0, none⟩), .agg #[.bool k, .int .i64 50, .int .i64 e]] wr fun r w' => r = .returned (.tuple #[.int .u64 (i + 1 : Nat), .int .i64 0]) ∧ ∃ s', TAt w w' N s' ∧ AddSt k e (i + 1) s' := by
  refine (h.add k 50 e (by decide) (by decide) (by rcases he with rfl | rfl <;> decide) (by rcases he with rfl | rfl <;> decide) (by rw [q.ad, q.ca]; omega) (by rw [q.lens]; omega)).mono fun r w' ⟨a, b⟩ => ⟨?_, _, b, q.next⟩
  rw [a, q.ad]
theorem reset_any {w wr : World} {N : Nat} {s : TS} (h : TAt w wr N s) {k : Bool} {e : Int} {n kk : Nat} (q : AddSt k e n s) (hn : n ≤ 30) (he : e = 0 ∨ e = 7) (h1 : 1 ≤ kk) (h2 : kk ≤ n) :
    Calls Try.prog 10 #[.pointer (some ⟨N, 0, none⟩), .int .u64 (kk : Nat), .int .i64 50, .int .i64 e] wr fun r w' => r = .returned (.int .i64 0) ∧ ∃ s', TAt w w' N s' ∧ SeqSt k e kk n 50 s' := by
  obtain ⟨j, hj⟩ := q.place h1 h2
  exact (h.reset k kk j 50 e hj (by decide) (by decide) (by rcases he with rfl | rfl <;> decide) (by rcases he with rfl | rfl <;> decide) (by rw [q.ca]; omega)).mono fun r w' ⟨a, b⟩ => ⟨a, _, b, q.reset h.ok h1 h2 hj⟩
/-- The last one that is added. -/
theorem last_any {w wr : World} {N : Nat} {s : TS} (h : TAt w wr N s) {n : Nat} (ad : s.ad = n) (ca : s.ca = n + 1) (hn : n ≤ 30) (len : (s.l false).length + (s.l true).length ≤ n) :
    Calls Try.prog 7 #[.pointer (some ⟨N, 0, none⟩), .agg #[.bool false, .int .i64 0, .int .i64 0]] wr fun r w' => r = .returned (.tuple #[.int .u64 (n + 1 : Nat), .int .i64 0]) ∧ Below w.heap.size w w' := by
  refine (h.add false 0 0 (by decide) (by decide) (by decide) (by decide) (by rw [ad, ca]; omega) (by omega)).mono fun r w' ⟨a, b⟩ => ⟨?_, b.low⟩
  rw [a, ad]
theorem SeqSt.lens {k : Bool} {e t : Int} {kk n : Nat} {s : TS} (q : SeqSt k e kk n t s) : (s.l false).length + (s.l true).length ≤ n := by
  have a := q.len
  have b := q.other
  cases k
  · rw [show s.l true = [] from b]; exact a
  · rw [show s.l false = [] from b, List.length_nil, Nat.zero_add]; exact a
theorem EmpSt.lens {k : Bool} {n : Nat} {s : TS} (q : EmpSt k n s) : (s.l false).length + (s.l true).length ≤ n := by
  have a := q.mem
  have b := q.other
  cases k
  · rw [show s.l true = [] from b, a]; exact Nat.zero_le _
  · rw [show s.l false = [] from b, a]; exact Nat.zero_le _
/-- What the law looks for, in a round of its own. -/
theorem id_at (kk n i : Nat) : ∃ a b : Nat, a = (if i < kk then i else i + 1) ∧ b = (if a + 1 = kk then a + 2 else a + 1) ∧ b = (if i + 1 < kk then i + 1 else i + 2) ∧ (i + 1 = n → idAt kk n i = kk) ∧ (i + 1 ≠ n → idAt kk n i = b) ∧ b = (if i + 1 < kk then i + 1 else i + 1 + 1) := by
  refine ⟨_, _, rfl, rfl, ?_, fun e => by unfold idAt; rw [if_pos e], fun e => ?_, ?_⟩
  · split <;> split <;> split <;> omega
  · unfold idAt
    rw [if_neg e]
    split <;> split <;> split <;> omega
  · split <;> split <;> split <;> omega
end Go.Proofs.Ytbfmmeapjfljbaa
