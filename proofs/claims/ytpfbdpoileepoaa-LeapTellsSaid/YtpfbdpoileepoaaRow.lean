/- Rows of cells behind a slice: what came in (read alone), and the call's own (new memory): for every stage. -/
import Derived.Test.YtpfbdpoileepoaaBase
import Derived.Laws.AppendOwn
import Derived.Laws.AppendOwnNone
import Derived.LoopTactic
import Derived.Outline
namespace Go.Proofs.Ytpfbdpoileepoaa
open Go.ChangeShapes Go.WideShapes Go.ChangeAt Go.RowKit

/-- Behind (p, n, c) stand the values vs, from the beginning on. -/
structure Holds (w : World) (p : Option Addr) (n c : Nat) (vs : List Value) : Prop where
  len : vs.length = n
  cap : n ≤ c
  max : c ≤ maxLen
  bare : p = none → c = 0
  cell : ∀ i u, vs[i]? = some u → ∃ a, p = some a ∧ w.cell? (a.add i) = some u

def valsN (k : IntKind) (ds : List Nat) : List Value := ds.map fun d : Nat => Value.int k (d : Int)
def valsI (k : IntKind) (zs : List Int) : List Value := zs.map fun z => Value.int k z
theorem valsN_len (k : IntKind) (ds : List Nat) : (valsN k ds).length = ds.length := List.length_map _
theorem valsI_len (k : IntKind) (zs : List Int) : (valsI k zs).length = zs.length := List.length_map _
theorem valsN_get {k : IntKind} {ds : List Nat} {i : Nat} (h : i < ds.length) : (valsN k ds)[i]? = some (.int k (ds.getD i 0 : Nat)) := by
  unfold valsN
  rw [List.getElem?_map, List.getElem?_eq_getElem h, List.getD_eq_getElem?_getD, List.getElem?_eq_getElem h]; rfl
theorem valsI_get {k : IntKind} {zs : List Int} {i : Nat} (h : i < zs.length) : (valsI k zs)[i]? = some (.int k (zs.getD i 0)) := by
  unfold valsI
  rw [List.getElem?_map, List.getElem?_eq_getElem h, List.getD_eq_getElem?_getD, List.getElem?_eq_getElem h]; rfl
theorem valsN_append (k : IntKind) (a b : List Nat) : valsN k (a ++ b) = valsN k a ++ valsN k b := List.map_append
theorem valsN_one (k : IntKind) (ds : List Nat) : ∀ u ∈ valsN k ds, u.oneCell' = true := by
  intro u hu
  unfold valsN at hu
  obtain ⟨d, _, rfl⟩ := List.mem_map.1 hu
  rfl

theorem add_add (a : Addr) (x y : Nat) : (a.add x).add y = a.add (x + y) := by
  unfold Addr.add
  by_cases h : y = 0
  · subst h; simp
  · by_cases g : x = 0
    · subst g; simp
    · rw [if_neg h, if_neg g, if_neg (by omega)]
      simp [Nat.add_assoc]

theorem Holds.nil (w : World) (p : Option Addr) (c : Nat) (h : c ≤ maxLen) (g : p = none → c = 0) : Holds w p 0 c [] := ⟨rfl, Nat.zero_le _, h, g, fun i u hu => by simp at hu⟩
theorem Holds.below {w w' : World} {p : Option Addr} {n c : Nat} {vs : List Value} (h : Holds w p n c vs) (hb : Below w.heap.size w w') : Holds w' p n c vs := by
  refine ⟨h.len, h.cap, h.max, h.bare, fun i u hu => ?_⟩
  obtain ⟨a, ha, hc⟩ := h.cell i u hu
  refine ⟨a, ha, ?_⟩
  rw [hb.cell (World.block_lt_of_cell? w _ hc)]
  exact hc
theorem Holds.at {w : World} {p : Option Addr} {n c : Nat} {vs : List Value} (h : Holds w p n c vs) {i : Nat} {u : Value} (hu : vs[i]? = some u) : ∃ a, p = some a ∧ w.cell? (a.add i) = some u := h.cell i u hu
theorem Holds.atN {w : World} {p : Option Addr} {n c : Nat} {k : IntKind} {ds : List Nat} (h : Holds w p n c (valsN k ds)) {i : Nat} (hi : i < n) : ∃ a, p = some a ∧ w.cell? (a.add i) = some (.int k (ds.getD i 0 : Nat)) :=
  h.cell i _ (valsN_get (by have := h.len; rw [valsN_len] at this; omega))
theorem Holds.atI {w : World} {p : Option Addr} {n c : Nat} {k : IntKind} {zs : List Int} (h : Holds w p n c (valsI k zs)) {i : Nat} (hi : i < n) : ∃ a, p = some a ∧ w.cell? (a.add i) = some (.int k (zs.getD i 0)) :=
  h.cell i _ (valsI_get (by have := h.len; rw [valsI_len] at this; omega))
/-- A piece of what came in, as a slice expression lays it. -/
theorem Holds.piece {w : World} {p : Option Addr} {n c : Nat} {vs : List Value} (h : Holds w p n c vs) (lo hi : Nat) (h1 : lo ≤ hi) (h2 : hi ≤ n) :
    Holds w (if c = lo then p else p.map (·.add (lo * 1))) (hi - lo) (c - lo) ((vs.drop lo).take (hi - lo)) := by
  have l := h.len
  have cp := h.cap
  have mx := h.max
  refine ⟨by rw [List.length_take, List.length_drop]; omega, by omega, by omega, fun hp => ?_, fun i u hu => ?_⟩
  · have : p = none := by
      split at hp
      · exact hp
      · exact Option.map_eq_none_iff.1 hp
    have := h.bare this
    omega
  have hi' : i < hi - lo := by
    have := (List.getElem?_eq_some_iff.1 hu).1
    rw [List.length_take] at this
    omega
  rw [List.getElem?_take, if_pos hi', List.getElem?_drop] at hu
  obtain ⟨a, rfl, hc⟩ := h.cell _ _ hu
  rw [if_neg (by omega)]
  exact ⟨a.add (lo * 1), rfl, by rw [add_add, Nat.mul_one]; exact hc⟩

theorem add_zero' (g : Nat) (i : Nat) : (⟨g, 0, none⟩ : Addr).add i = ⟨g, i, none⟩ := by unfold Addr.add; split <;> simp_all

/-- The call's own row, as what may be read. -/
theorem own_holds {w : World} {B : Nat} {T : TypeId} {v : Value} {n : Nat} {vs : List Value} (h : w.ownsRow B T 1 v n vs) : ∃ p c, v = .slice p n c ∧ Holds w p n c vs := by
  have hc := h
  obtain ⟨hl, ⟨rfl, rfl⟩ | ⟨g, cap, cur, rfl, hb, hg, h1, h2, h3, h4⟩⟩ := h
  · obtain rfl : vs = [] := List.length_eq_zero_iff.1 (by simpa using hl)
    exact ⟨none, 0, rfl, Holds.nil _ _ _ (Nat.zero_le _) (fun _ => rfl)⟩
  · exact ⟨_, cap, rfl, by simpa using hl, h1, h2, (fun e => by cases e), fun i u hu => ⟨_, rfl, World.ownsRow.cells hc (g := g) rfl i u hu⟩⟩
theorem own_base {w : World} {B B' : Nat} {T : TypeId} {s : Nat} {v : Value} {n : Nat} {vs : List Value} (h : w.ownsRow B T s v n vs) (hb : B' ≤ B) : w.ownsRow B' T s v n vs := by
  refine ⟨h.1, ?_⟩
  rcases h.2 with hn | ⟨g, cap, cur, e, hb', r⟩
  · exact .inl hn
  · exact .inr ⟨g, cap, cur, e, Nat.le_trans hb hb', r⟩
theorem own_keep {w w' : World} {B : Nat} {T : TypeId} {s : Nat} {v : Value} {n : Nat} {vs : List Value} (h : w.ownsRow B T s v n vs) (hb : Below w.heap.size w w') : w'.ownsRow B T s v n vs := by
  refine ⟨h.1, ?_⟩
  rcases h.2 with hn | ⟨g, cap, cur, rfl, hb', hg, r⟩
  · exact .inl hn
  · refine .inr ⟨g, cap, cur, rfl, hb', ?_, r⟩
    rw [hb.block g (Array.getElem?_eq_some_iff.1 hg).1]
    exact hg

theorem blk_cell {w : World} {N o : Nat} {cs : Array Value} {T : TypeId} (h : w.heap[N]? = some (.cells cs T (0, 0))) : w.cell? ⟨N, o, none⟩ = cs[o]? := cell_of_row w N o cs T (0, 0) h
theorem blk_free {w : World} {N o : Nat} {cs : Array Value} {T : TypeId} (h : w.heap[N]? = some (.cells cs T (0, 0))) : w.frozen? ⟨N, o, none⟩ = false := by
  simp [World.frozen?, h]
theorem blk_set {w : World} {N o : Nat} {cs : Array Value} {T : TypeId} {fr : Nat × Nat} {u : Value} (hN : w.heap[N]? = some (.cells cs T fr)) : (w.setCell ⟨N, o, none⟩ u).heap[N]? = some (.cells (cs.set! o u) T fr) := by
  simp only [World.setCell, Array.getElem?_modify, hN]
  simp
/-- A whole block that is the call's own, as a row. -/
theorem own_of_blk {w : World} {N n : Nat} {cs : Array Value} {T : TypeId} {B : Nat} (h : w.heap[N]? = some (.cells cs T (0, 0))) (hn : cs.size = n) (hm : n ≤ maxLen) (hB : B ≤ N) : w.ownsRow B T 1 (.slice (some ⟨N, 0, none⟩) n n) n cs.toList := by
  refine ⟨by simp [hn], .inr ⟨N, n, cs, rfl, hB, h, Nat.le_refl _, hm, by omega, ?_⟩⟩
  rw [Nat.mul_one, List.take_of_length_le (by simp [hn])]
end Go.Proofs.Ytpfbdpoileepoaa

