/- Layer 15 (smear), work ahead: leaps told by gaps, as the laws make them. -/
import Derived.Test.YtpfbdpoileepoaaSmS
import Derived.Deep.AppendLies
set_option maxRecDepth 100000
namespace Go.Proofs.Ytpfbdpoileepoaa
open Go.ChangeShapes Go.WideShapes Go.ChangeAt Go.RowKit SmM

/-- Gaps behind a slice, as what may be read. -/
structure HoldsG (w : World) (p : Option Addr) (n c : Nat) (l : List Gp) : Prop where
  len : l.length = n
  cap : n ≤ c
  max : c ≤ maxLen
  cell : ∀ i, i < n → ∃ a, p = some a ∧ w.cell? (a.add (i * 2)) = some (.int .u16 ((gg l i).h : Nat)) ∧ w.cell? ⟨(a.add (i * 2)).block, (a.add (i * 2)).off + 1, none⟩ = some (.bool (gg l i).o)
theorem HoldsG.below {w w' : World} {p : Option Addr} {n c : Nat} {l : List Gp} (h : HoldsG w p n c l) (b : Below w.heap.size w w') : HoldsG w' p n c l :=
  ⟨h.len, h.cap, h.max, fun i hi => by
    obtain ⟨a, ha, c1, c2⟩ := h.cell i hi
    exact ⟨a, ha, (b.cell (World.block_lt_of_cell? w _ c1)).trans c1, (b.cell (World.block_lt_of_cell? w _ c2)).trans c2⟩⟩
def twoL (x : Lp) : List Value := [.int .i64 x.t, .int .i64 x.k]
def cellsL (l : List Lp) : List Value := l.flatMap twoL
theorem cellsL_app (l m : List Lp) : cellsL (l ++ m) = cellsL l ++ cellsL m := by unfold cellsL; rw [List.flatMap_append]
theorem cellsL_cons (x : Lp) (l : List Lp) : cellsL (x :: l) = twoL x ++ cellsL l := by unfold cellsL; rw [List.flatMap_cons]
theorem cellsL_len (l : List Lp) : (cellsL l).length = l.length * 2 := by
  induction l with
  | nil => rfl
  | cons f fs ih => rw [cellsL_cons, List.length_append, ih, List.length_cons]; show 2 + _ = _; omega
theorem cellsL_get : ∀ (l : List Lp) (i : Nat), i < l.length → (cellsL l)[i * 2]? = some (.int .i64 (gl l i).t) ∧ (cellsL l)[i * 2 + 1]? = some (.int .i64 (gl l i).k)
  | [], i, h => by simp at h
  | x :: l, 0, _ => by rw [cellsL_cons]; exact ⟨rfl, rfl⟩
  | x :: l, i + 1, h => by
    rw [cellsL_cons, show (i + 1) * 2 = i * 2 + 1 + 1 by omega]
    exact cellsL_get l i (by simpa using h)
theorem twoL_one (x : Lp) : ∀ u ∈ twoL x, u.oneCell' = true := by
  intro u hu
  unfold twoL at hu
  simp only [List.mem_cons, List.not_mem_nil, or_false] at hu
  rcases hu with rfl | rfl <;> rfl
def OwnL (w : World) (B : Nat) (p : Option Addr) (n c : Nat) (l : List Lp) : Prop := w.ownsRow B 33 2 (.slice p n c) n (cellsL l)
theorem OwnL.below {w w' : World} {B : Nat} {p : Option Addr} {n c : Nat} {l : List Lp} (h : OwnL w B p n c l) (b : Below w.heap.size w w') : OwnL w' B p n c l := own_keep h b
theorem OwnL.holds {w : World} {B : Nat} {p : Option Addr} {n c : Nat} {l : List Lp} (h : OwnL w B p n c l) : HoldsL w p n c l := by
  have hl := h.1
  rw [cellsL_len] at hl
  have ln : l.length = n := by omega
  have hc := h
  unfold OwnL at hc
  rcases h.2 with ⟨e, e2⟩ | ⟨g, cap, cur, e, hb, hg, h1, h2, -⟩
  · injection e with e1 e2 e3
    subst e1 e3
    exact ⟨ln, by omega, Nat.zero_le _, fun i hi => absurd hi (by omega)⟩
  · injection e with e1 e2 e3
    subst e1 e3
    refine ⟨ln, h1, h2, fun i hi => ?_⟩
    obtain ⟨c1, c2⟩ := cellsL_get l i (by omega)
    have ea : ∀ j, (⟨g, 0, none⟩ : Addr).add j = ⟨g, j, none⟩ := fun j => by unfold Addr.add; split <;> simp_all
    have d1 := World.ownsRow.cells hc (g := g) rfl _ _ c1
    have d2 := World.ownsRow.cells hc (g := g) rfl _ _ c2
    refine ⟨_, rfl, d1, ?_⟩
    rw [ea] at d2 ⊢
    exact d2
theorem infoLp : (Try.prog.info? 33).map (fun i => (i.zero, i.size, i.bytes)) = some (some (.agg #[.int .i64 0, .int .i64 0]), 2, 16) := by kernel_rfl
theorem infoLp_of {o : Option TypeInfo} {z : Option Value} {s b : Nat} (h : o.map (fun i => (i.zero, i.size, i.bytes)) = some (z, s, b)) : ∃ i, o = some i ∧ i.zero = z ∧ i.size = s ∧ i.bytes = b := by
  obtain ⟨i, hi, h⟩ := Option.map_eq_some_iff.1 h
  simp only [Prod.mk.injEq] at h
  exact ⟨i, hi, h.1, h.2.1, h.2.2⟩
theorem take_nextG {l : List Gp} {i : Nat} (h : i < l.length) : l.take (i + 1) = l.take i ++ [gg l i] := by
  rw [List.take_succ_eq_append_getElem h, gg_of h]

theorem two_new {w : World} {B : Nat} (hB : w.heap.size = B) (t k : Int) (ty : TypeId) : ∀ j u, (twoL ⟨t, k⟩)[j]? = some u → (w.alloc (.cells #[.int .i64 t, .int .i64 k] ty)).cell? ((⟨B, 0, none⟩ : Addr).add j) = some u := by
  subst hB
  intro j u hu
  have hb := heap_alloc_new w (.cells #[.int .i64 t, .int .i64 k] ty)
  have ea : (⟨w.heap.size, 0, none⟩ : Addr).add j = ⟨w.heap.size, j, none⟩ := by unfold Addr.add; split <;> simp_all
  rw [ea]
  have hj : j < 2 := by
    rcases Nat.lt_or_ge j 2 with h | h
    · exact h
    · rw [List.getElem?_eq_none (by show 2 ≤ j; exact h)] at hu
      cases hu
  rcases j with _ | _ | j
  · injection hu with hu
    subst hu
    unfold World.cell?
    dsimp only
    rw [hb]
    rfl
  · injection hu with hu
    subst hu
    unfold World.cell?
    dsimp only
    rw [hb]
    rfl
  · omega

theorem own_slice {w : World} {B : Nat} {T : TypeId} {s : Nat} {v : Value} {n : Nat} {vs : List Value} (h : w.ownsRow B T s v n vs) : ∃ p c, v = .slice p n c := by
  rcases h.2 with ⟨rfl, rfl⟩ | ⟨g, cap, cur, rfl, -⟩
  · exact ⟨_, _, rfl⟩
  · exact ⟨_, _, rfl⟩
theorem sz_alloc (w : World) (o : Obj) : (w.alloc o).heap.size = w.heap.size + 1 := by unfold World.alloc; simp

end Go.Proofs.Ytpfbdpoileepoaa

