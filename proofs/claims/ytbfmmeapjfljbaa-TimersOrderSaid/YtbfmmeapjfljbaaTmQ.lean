/- TimersTimes: what stands while its rounds go on. -/
import Derived.Test.YtbfmmeapjfljbaaTmP
set_option maxRecDepth 100000
namespace Go.Proofs.Ytbfmmeapjfljbaa
open Go.ChangeShapes Go.WideShapes Go.ChangeAt Go.RowKit Go.Maps HeapM

/-- A row of what fired, read at a place. -/
theorem OwnF.at {w : World} {B n c : Nat} {p : Option Addr} {fs : List FdT} (h : OwnF w B p n c fs) {i : Nat} (hi : i < n) : ∃ a, p = some a ∧
    w.cell? (a.add (i * 6)) = some (.int .u64 ((gf fs i).id : Nat)) ∧ w.cell? ⟨(a.add (i * 6)).block, (a.add (i * 6)).off + 1, none⟩ = some (.bool (gf fs i).t.ab) ∧ w.cell? ⟨(a.add (i * 6)).block, (a.add (i * 6)).off + 2, none⟩ = some (.int .i64 (gf fs i).t.at_) ∧
    w.cell? ⟨(a.add (i * 6)).block, (a.add (i * 6)).off + 3, none⟩ = some (.int .i64 (gf fs i).t.ev) ∧ w.cell? ⟨(a.add (i * 6)).block, (a.add (i * 6)).off + 4, none⟩ = some (.int .i64 (gf fs i).late) ∧ w.cell? ⟨(a.add (i * 6)).block, (a.add (i * 6)).off + 5, none⟩ = some (.int .i64 (gf fs i).mis) := by
  obtain ⟨g, rfl, -, -, hc⟩ := own_fd h (by omega)
  have ea : (⟨g, 0, none⟩ : Addr).add (i * 6) = ⟨g, i * 6, none⟩ := by unfold Addr.add; split <;> simp_all
  refine ⟨_, rfl, ?_⟩
  rw [ea]
  exact ⟨hc i hi 0 (by decide), hc i hi 1 (by decide), hc i hi 2 (by decide), hc i hi 3 (by decide), hc i hi 4 (by decide), hc i hi 5 (by decide)⟩

/-- Ahead of a round. -/
structure TmsS (v wr : World) (N : Nat) (k : Bool) (A E t q i : Nat) : Prop where
  tat : TAt v wr N (stT k ((A : Int) + (q : Int) * (E : Int)) E)
  tb : t ≤ i * 5000
  ib : i ≤ 40
  rd : (q : Int) = 0 ∨ (0 < (q : Int) ∧ (A : Int) + ((q : Int) - 1) * (E : Int) ≤ (t : Int))
/-- Behind its Fire. -/
structure TmsH (v wr : World) (N : Nat) (k : Bool) (A E t i q q' : Nat) (p : Option Addr) (n c : Nat) : Prop where
  row : ∃ fs, TRow v wr N (stT k ((A : Int) + (q' : Int) * (E : Int)) E) p n c fs ∧ ((n = 0 ∧ q' = q) ∨ (n = 1 ∧ ∃ (f : FdT) (m : Nat), fs = [f] ∧ f.id = 1 ∧ f.mis = (m : Int) ∧ q + (1 + m) = q'))
  tb : t ≤ (i + 1) * 5000
  ib : i + 1 ≤ 40
  lt : (t : Int) < (A : Int) + (q' : Int) * (E : Int)
  rd : (q' : Int) = 0 ∨ (0 < (q' : Int) ∧ (A : Int) + ((q' : Int) - 1) * (E : Int) ≤ (t : Int))
section
variable {v wr w' : World} {N : Nat} {k : Bool} {A E t q q' i n c : Nat} {p : Option Addr}
theorem TmsH.next (h : TmsH v wr N k A E t i q q' p n c) : TmsS v wr N k A E t q' (i + 1) := by
  obtain ⟨fs, r, -⟩ := h.row
  exact ⟨r.tat, h.tb, h.ib, h.rd⟩
theorem TmsH.one (h : TmsH v wr N k A E t i q q' p n c) : n ≤ 1 := by
  obtain ⟨fs, r, e | e⟩ := h.row <;> omega
theorem TmsH.want (h : TmsH v wr N k A E t i q q' p n c) (E0 : 1 ≤ E) : (q' : Int) = wantI A E t := want_is (by omega) h.lt h.rd
theorem TmsH.qb (h : TmsH v wr N k A E t i q q' p n c) (E0 : 1 ≤ E) : q' ≤ 200001 := by
  have := h.tb
  have := h.ib
  rcases h.rd with e | ⟨e, f⟩
  · omega
  · have : ((q' : Int) - 1) * 1 ≤ ((q' : Int) - 1) * (E : Int) := Int.mul_le_mul_of_nonneg_left (by omega) (by omega)
    rw [Int.mul_one] at this
    omega
/-- What its row tells. -/
theorem TmsH.read (h : TmsH v wr N k A E t i q q' p n c) {j : Nat} (hj : j < n) : j = 0 ∧ n = 1 ∧ ∃ (a : Addr) (m : Nat), p = some a ∧ wr.cell? (a.add (j * 6)) = some (.int .u64 1) ∧ wr.cell? ⟨(a.add (j * 6)).block, (a.add (j * 6)).off + 5, none⟩ = some (.int .i64 (m : Nat)) ∧ q + (1 + m) = q' := by
  obtain ⟨fs, r, e | ⟨e, f, m, rfl, h1, h2, h3⟩⟩ := h.row
  · omega
  · obtain ⟨a, ha, c0, -, -, -, -, c5⟩ := r.own.at hj
    obtain rfl : j = 0 := by omega
    have g : gf [f] 0 = f := rfl
    rw [g, h1] at c0
    rw [g, h2] at c5
    exact ⟨rfl, e, a, m, ha, c0, c5, h3⟩
theorem T_nn {A E q : Nat} : (0 : Int) ≤ (A : Int) + (q : Int) * (E : Int) := by
  have : (0 : Int) ≤ (q : Int) * (E : Int) := Int.mul_nonneg (by omega) (by omega)
  omega
/-- The Fire of its own clock. -/
theorem TmsS.fire (h : TmsS v wr N k A E t q i) (E0 : 1 ≤ E) (E1 : E ≤ 9999) {d : Nat} (hd : d < 5000) (hi : i < 40) (mono wall : Int) (hm : (if k then wall else mono) = ((t + d : Nat) : Int)) (b : (-1 ≤ mono ∧ mono ≤ 200000) ∧ (-1 ≤ wall ∧ wall ≤ 200000)) :
    Calls Try.prog 8 #[.pointer (some ⟨N, 0, none⟩), .int .i64 mono, .int .i64 wall] wr fun r w' => ∃ p n c q', r = .returned (.slice p n c) ∧ TmsH v w' N k A E (t + d) i q q' p n c := by
  refine (one_fire h.tat.row mono wall ⟨by omega, by omega⟩ ⟨by omega, by omega⟩ (by omega) (by omega) (by omega)).mono fun r w' ⟨p, n, c, T', fs, o⟩ => ?_
  have tb : t + d ≤ (i + 1) * 5000 := by have := h.tb; omega
  have alt := o.alt
  rw [hm] at alt
  rcases alt with ⟨e1, e2, e3, e4⟩ | ⟨e1, e2, e3, e4⟩
  · refine ⟨p, n, c, q, o.r, ⟨fs, by have := o.new; rw [e3] at this; exact this, .inl ⟨e2, rfl⟩⟩, tb, hi, e1, ?_⟩
    rcases h.rd with f | ⟨f, g⟩
    · exact .inl f
    · exact .inr ⟨f, by omega⟩
  · obtain ⟨h1, h2, h3, h4, h5, -⟩ := times_hit (A := (A : Int)) (E := (E : Int)) (nw := ((t + d : Nat) : Int)) (c := (q : Int)) (by omega) (by omega) e1
    obtain ⟨m, hmm⟩ : ∃ m : Nat, (((t + d : Nat) : Int) - ((A : Int) + (q : Int) * (E : Int))) / (E : Int) = (m : Int) := ⟨_, (Int.toNat_of_nonneg h5).symm⟩
    have hq : (q : Int) + (1 + (((t + d : Nat) : Int) - ((A : Int) + (q : Int) * (E : Int))) / (E : Int)) = ((q + (1 + m) : Nat) : Int) := by rw [hmm]; omega
    rw [hq] at h1 h2 h3 h4
    refine ⟨p, n, c, q + (1 + m), o.r, ⟨fs, ?_, .inr ⟨e2, _, m, e4, rfl, hmm, rfl⟩⟩, tb, hi, h2, .inr ⟨h3, h4⟩⟩
    have := o.new
    rw [e3, h1] at this
    exact this
/-- A Fire ahead of all: nothing fires. -/
theorem TmsS.idle (h : TmsS v wr N true A E t q i) (E0 : 1 ≤ E) (E1 : E ≤ 9999) (mono : Int) (b : 0 ≤ mono ∧ mono ≤ 200000) :
    Calls Try.prog 8 #[.pointer (some ⟨N, 0, none⟩), .int .i64 mono, .int .i64 (-1)] wr fun r w' => ∃ p c, r = .returned (.slice p 0 c) ∧ TmsS v w' N true A E t q i := by
  refine (one_fire h.tat.row mono (-1) ⟨by omega, by omega⟩ ⟨by decide, by decide⟩ (by omega) (by omega) (by omega)).mono fun r w' ⟨p, n, c, T', fs, o⟩ => ?_
  have := T_nn (A := A) (E := E) (q := q)
  rcases o.alt with ⟨e1, e2, e3, e4⟩ | ⟨e1, -⟩
  · subst e2 e3
    exact ⟨p, c, o.r, o.new.tat, h.tb, h.ib, h.rd⟩
  · rw [if_pos rfl] at e1; omega
theorem TmsH.idle (h : TmsH v wr N true A E t i q q' p n c) (E0 : 1 ≤ E) (E1 : E ≤ 9999) (mono : Int) (b : 0 ≤ mono ∧ mono ≤ 200000) :
    Calls Try.prog 8 #[.pointer (some ⟨N, 0, none⟩), .int .i64 mono, .int .i64 (-1)] wr fun r w' => ∃ p3 c3, r = .returned (.slice p3 0 c3) ∧ TmsH v w' N true A E t i q q' p n c := by
  obtain ⟨fs, hr, al⟩ := h.row
  refine (one_fire hr mono (-1) ⟨by omega, by omega⟩ ⟨by decide, by decide⟩ (by omega) (by omega) (by omega)).mono fun r w' ⟨p3, n3, c3, T', fs3, o⟩ => ?_
  have := T_nn (A := A) (E := E) (q := q')
  rcases o.alt with ⟨e1, e2, e3, e4⟩ | ⟨e1, -⟩
  · subst e2 e3
    exact ⟨p3, c3, o.r, ⟨fs, o.old, al⟩, h.tb, h.ib, h.lt, h.rd⟩
  · rw [if_pos rfl] at e1; omega
end
end Go.Proofs.Ytbfmmeapjfljbaa
