/- TimersTimes, in plain lists and numbers: one timer with Every. -/
import Derived.Test.YtbfmmeapjfljbaaTmN
set_option maxRecDepth 100000
namespace Go.Proofs.Ytbfmmeapjfljbaa
open Go.ChangeShapes Go.WideShapes Go.ChangeAt Go.RowKit Go.Maps HeapM

/-- One timer, its next time, and its Every. -/
def stT (k : Bool) (T E : Int) : TS := ⟨fun j => if j = k then [⟨1, 1, T⟩] else [], updN (fun _ => 0) 1 E, 1, 1⟩
theorem add_st (k : Bool) (A E : Int) : addS noT k A E = stT k A E := rfl
theorem st_ev (k : Bool) (T E : Int) : (stT k T E).ev 1 = E := by
  show updN (fun _ => 0) 1 E 1 = E
  exact updN_same _ _ _
theorem st_same (k : Bool) (T E : Int) : (stT k T E).l k = [⟨1, 1, T⟩] := if_pos rfl
theorem st_other (k : Bool) (T E : Int) : (stT k T E).l (!k) = [] := if_neg (by cases k <;> decide)
theorem st_put (k : Bool) (T E T' : Int) : (stT k T E).putL k [⟨1, 1, T'⟩] = stT k T' E := by
  unfold TS.putL stT updB
  congr 1
  funext j
  dsimp only
  by_cases h : j = k
  · rw [if_pos h, if_pos h]
  · rw [if_neg h, if_neg h, if_neg h]
theorem st_put_other (k : Bool) (T E : Int) : (stT k T E).putL (!k) [] = stT k T E := by
  unfold TS.putL stT updB
  congr 1
  funext j
  dsimp only
  by_cases h : j = !k
  · rw [if_pos h, if_neg (by rw [h]; cases k <;> decide)]
  · rw [if_neg h]
theorem one_mem {m : List It} {y : It} (h : ∀ x, x ∈ m ↔ x = y) (n : Nod m) : m = [y] := by
  cases m with
  | nil => exact absurd ((h y).2 rfl) (by simp)
  | cons a r =>
    obtain rfl : a = y := (h a).1 (List.mem_cons_self ..)
    have : r = [] := mem_none fun b hb => by
      have e := (h b).1 (List.mem_cons_of_mem _ hb)
      subst e
      unfold Nod at n
      rw [List.map_cons, List.nodup_cons] at n
      exact n.1 (List.mem_map.2 ⟨b, hb, rfl⟩)
    rw [this]
theorem fired_none {s : TS} {j : Bool} {now : Int} {ds m : List It} (h : s.l j = []) (f : FireD s j now ds m) : ds = [] ∧ m = [] := by
  have d : ds = [] := mem_none fun x hx => by have := ((f.due x).1 hx).1; rw [h] at this; cases this
  refine ⟨d, mem_none fun y hy => ?_⟩
  obtain ⟨-, b⟩ := (f.left y).1 hy
  rw [h, d] at b
  simp at b
theorem fired_miss {k : Bool} {T E now : Int} {ds m : List It} (f : FireD (stT k T E) k now ds m) (hT : now < T) : ds = [] ∧ m = [⟨1, 1, T⟩] := by
  have d : ds = [] := mem_none fun x hx => by
    obtain ⟨a, b⟩ := (f.due x).1 hx
    rw [st_same] at a
    rw [List.mem_singleton] at a
    subst a
    have b' : T ≤ now := b
    omega
  have nm : Nod m := by have := f.ok.nod k; rw [putL_same] at this; exact this
  refine ⟨d, one_mem (fun y => ?_) nm⟩
  rw [f.left, st_same, d]
  simp only [List.mem_singleton, List.not_mem_nil, false_and, exists_false, or_false]
  constructor
  · exact fun h => h.2
  · intro h; subst h; exact ⟨hT, rfl⟩
theorem fired_hit {k : Bool} {T E now : Int} {ds m : List It} (f : FireD (stT k T E) k now ds m) (hT : T ≤ now) (E0 : 0 < E) (top : T + (now - T) / E * E + E ≤ topT) : ds = [⟨1, 1, T⟩] ∧ m = [⟨1, 1, T + (now - T) / E * E + E⟩] := by
  have d : ds = [⟨1, 1, T⟩] := by
    refine sorted_one f.sorted (List.pairwise_singleton _ _) fun x => ?_
    rw [f.due, st_same]
    constructor
    · exact fun h => h.1
    · intro h
      refine ⟨h, ?_⟩
      rw [List.mem_singleton] at h
      subst h
      exact hT
  have nm : Nod m := by have := f.ok.nod k; rw [putL_same] at this; exact this
  have ev : (stT k T E).ev 1 = E := st_ev k T E
  have nx : nextI E now ⟨1, 1, T⟩ = some ⟨1, 1, T + (now - T) / E * E + E⟩ := by
    unfold nextI misI
    rw [if_pos E0]
    dsimp only
    rw [if_neg (by omega)]
  have lt : now < T + (now - T) / E * E + E := (next_some (by omega) hT nx).2.2.1
  refine ⟨d, one_mem (fun y => ?_) nm⟩
  rw [f.left, st_same, d]
  simp only [List.mem_singleton]
  constructor
  · rintro ⟨a, rfl | ⟨x, rfl, b⟩⟩
    · have a' : now < T := a
      omega
    · rw [ev, nx] at b
      injection b with b
      exact b.symm
  · rintro rfl
    exact ⟨lt, .inr ⟨_, rfl, by rw [ev]; exact nx⟩⟩

/-- What a Fire tells of one timer, at the time 'nw' of its clock. -/
structure OneF (w : World) (N : Nat) (k : Bool) (T E nw : Int) (q : Option Addr) (m d : Nat) (gs : List FdT) (r : Ending) (w' : World) (p : Option Addr) (n c : Nat) (T' : Int) (fs : List FdT) : Prop where
  r : r = .returned (.slice p n c)
  alt : (nw < T ∧ n = 0 ∧ T' = T ∧ fs = []) ∨ (T ≤ nw ∧ n = 1 ∧ T' = T + (nw - T) / E * E + E ∧ fs = [⟨1, ⟨k, T, E⟩, nw - T, (nw - T) / E⟩])
  new : TRow w w' N (stT k T' E) p n c fs
  old : TRow w w' N (stT k T' E) q m d gs
theorem one_fire {w wr : World} {N : Nat} {k : Bool} {T E : Int} {q : Option Addr} {m d : Nat} {gs : List FdT} (h : TRow w wr N (stT k T E) q m d gs) (mono wall : Int) (h1 : I64 mono) (h2 : I64 wall) (hm : mono ≤ 1000000 ∧ wall ≤ 1000000) (E0 : 0 < E) (E1 : E ≤ 10000) :
    Calls Try.prog 8 #[.pointer (some ⟨N, 0, none⟩), .int .i64 mono, .int .i64 wall] wr fun r w' => ∃ p n c T' fs, OneF w N k T E (if k then wall else mono) q m d gs r w' p n c T' fs := by
  have a1 : min mono topT = mono := by unfold topT; omega
  have a2 : min wall topT = wall := by unfold topT; omega
  have F := h.fire mono wall h1 h2
  rw [a1, a2] at F
  refine F.mono fun r w' ⟨p, n, c, ds0, m0, ds1, m1, FA⟩ => ?_
  have top : ∀ nw : Int, nw ≤ 1000000 → T ≤ nw → T + (nw - T) / E * E + E ≤ topT := fun nw hn hT => by
    have a := Int.mul_ediv_add_emod (nw - T) E
    have b := Int.emod_nonneg (nw - T) (show E ≠ 0 by omega)
    rw [Int.mul_comm] at a
    unfold topT
    omega
  have mi : ∀ nw : Int, misI ((stT k T E).ev 1) nw ⟨1, 1, T⟩ = (nw - T) / E := fun nw => by
    rw [st_ev]
    unfold misI
    rw [if_pos E0]
  cases k
  · obtain ⟨e1, e2⟩ := fired_none (by rw [show true = !false from rfl, putL_other]; exact st_other false T E) FA.d1
    subst e1 e2
    by_cases hT : T ≤ mono
    · obtain ⟨e3, e4⟩ := fired_hit FA.d0 hT E0 (top _ hm.1 hT)
      subst e3 e4
      have st : ((stT false T E).putL false [⟨1, 1, T + (mono - T) / E * E + E⟩]).putL true [] = stT false (T + (mono - T) / E * E + E) E := by
        rw [st_put]; exact st_put_other false _ E
      have hn := FA.hn
      have nw := FA.new
      have od := FA.old
      rw [st] at nw od
      refine ⟨p, n, c, _, [⟨1, ⟨false, T, E⟩, mono - T, (mono - T) / E⟩], FA.r, .inr ⟨hT, hn, rfl, rfl⟩, ?_, od⟩
      have := mi mono
      simp only [List.map_cons, List.map_nil, List.append_nil, fireS, fireI] at nw
      rw [this] at nw
      exact nw
    · obtain ⟨e3, e4⟩ := fired_miss FA.d0 (by omega)
      subst e3 e4
      have st : ((stT false T E).putL false [⟨1, 1, T⟩]).putL true [] = stT false T E := by
        rw [st_put]; exact st_put_other false _ E
      have hn := FA.hn
      have nw := FA.new
      have od := FA.old
      rw [st] at nw od
      exact ⟨p, n, c, T, [], FA.r, .inl ⟨by show mono < T; omega, hn, rfl, rfl⟩, nw, od⟩
  · obtain ⟨e1, e2⟩ := fired_none (st_other true T E) FA.d0
    subst e1 e2
    have d1 := FA.d1
    have hn := FA.hn
    have nw := FA.new
    have od := FA.old
    have sp : (stT true T E).putL false [] = stT true T E := st_put_other true T E
    rw [sp] at d1 nw od
    by_cases hT : T ≤ wall
    · obtain ⟨e3, e4⟩ := fired_hit d1 hT E0 (top _ hm.2 hT)
      subst e3 e4
      rw [st_put] at nw od
      refine ⟨p, n, c, _, [⟨1, ⟨true, T, E⟩, wall - T, (wall - T) / E⟩], FA.r, .inr ⟨hT, hn, rfl, rfl⟩, ?_, od⟩
      have := mi wall
      simp only [List.map_cons, List.map_nil, List.nil_append, fireS, fireI] at nw
      rw [this] at nw
      exact nw
    · obtain ⟨e3, e4⟩ := fired_miss d1 (by omega)
      subst e3 e4
      rw [st_put] at nw od
      exact ⟨p, n, c, T, [], FA.r, .inl ⟨by show wall < T; omega, hn, rfl, rfl⟩, nw, od⟩

/-- How often it has come by then. -/
def wantI (A E nw : Int) : Int := if A ≤ nw then 1 + (nw - A) / E else 0
/-- Ahead of a round: c of its times are counted, all of them reached. -/
theorem want_is {A E nw c : Int} (E0 : 0 < E) (h1 : nw < A + c * E) (h2 : c = 0 ∨ (0 < c ∧ A + (c - 1) * E ≤ nw)) : c = wantI A E nw := by
  unfold wantI
  rcases h2 with rfl | ⟨h0, h2⟩
  · rw [if_neg (by omega)]
  · have m : (c - 1) * E = c * E - E := by rw [Int.sub_mul, Int.one_mul]
    have p : 0 ≤ (c - 1) * E := Int.mul_nonneg (by omega) (by omega)
    rw [if_pos (by omega)]
    obtain ⟨r, hr⟩ : ∃ r, nw - A - (c - 1) * E = r := ⟨_, rfl⟩
    have q : nw - A = r + (c - 1) * E := by omega
    rw [q, Int.add_mul_ediv_right r (c - 1) (by omega), Int.ediv_eq_zero_of_lt (by omega) (by omega)]
    omega
theorem times_hit {A E nw c : Int} (E0 : 0 < E) (c0 : 0 ≤ c) (h : A + c * E ≤ nw) : (A + c * E) + (nw - (A + c * E)) / E * E + E = A + (c + (1 + (nw - (A + c * E)) / E)) * E ∧ nw < A + (c + (1 + (nw - (A + c * E)) / E)) * E ∧ 0 < c + (1 + (nw - (A + c * E)) / E) ∧ A + (c + (1 + (nw - (A + c * E)) / E) - 1) * E ≤ nw ∧ 0 ≤ (nw - (A + c * E)) / E ∧ (nw - (A + c * E)) / E ≤ nw - (A + c * E) := by
  obtain ⟨T, hT⟩ : ∃ T, A + c * E = T := ⟨_, rfl⟩
  rw [hT] at h ⊢
  have a := Int.mul_ediv_add_emod (nw - T) E
  have b := Int.emod_nonneg (nw - T) (show E ≠ 0 by omega)
  have d := Int.emod_lt_of_pos (nw - T) E0
  have q0 : 0 ≤ (nw - T) / E := Int.ediv_nonneg (by omega) (by omega)
  have q1 : (nw - T) / E ≤ nw - T := Int.ediv_le_self _ (by omega)
  rw [Int.mul_comm] at a
  generalize (nw - T) / E = q at *
  have m1 : (c + (1 + q)) * E = c * E + E + q * E := by rw [Int.add_mul, Int.add_mul, Int.one_mul]; omega
  have m2 : (c + (1 + q) - 1) * E = c * E + q * E := by rw [Int.sub_mul, m1, Int.one_mul]; omega
  refine ⟨by omega, by omega, by omega, by omega, q0, q1⟩
end Go.Proofs.Ytbfmmeapjfljbaa
