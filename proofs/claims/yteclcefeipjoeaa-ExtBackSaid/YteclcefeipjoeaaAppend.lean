/- An append onto a row of the call's own, of whatever row is held, nil too; bytes.Clone of such: for every stage. -/
import Derived.Test.YteclcefeipjoeaaRow
import Derived.Test.YteclcefeipjoeaaShelf
namespace Go.Proofs.Yteclcefeipjoeaa
open Go.ChangeShapes Go.WideShapes Go.ChangeAt Go.RowKit

theorem append_held {P : Program} {w : World} {ops : Array Oper} {rest : List Oper} {o : Oper} {a : Act} {Q : Exit → Act → World → Prop} (hgd : o.guard = none) (s x : Operand) (t : TypeId)
    (ho : o.op = .call { callee := .builtin .append, args := #[s, x], argTypes := #[t, t] })
    (base : Nat) (e : TypeId) (i : TypeInfo) (z : Value) (bytes : Nat) (ht : P.underlying t = some (.slice e)) (hi : P.info? e = some i) (hz : i.zero = some z) (hsize : i.size = 1) (hby : i.bytes = bytes) (hzs : z.cells.size = 1)
    (v : Value) (n : Nat) (xs : List Value) (hs : a.eval s = v) (hown : w.ownsRow base e 1 v n xs)
    (p : Option Addr) (m c : Nat) (news : List Value) (hx : a.eval x = .slice p m c) (hh : Holds w p m c news) (h1 : ∀ u ∈ news, u.oneCell' = true)
    (h63 : n + m ≤ maxLen) (hbytes : (n + m) * bytes ≤ 140737488355328) (hbase : base ≤ w.heap.size)
    (h : ∀ v' w', w'.ownsRow base e 1 v' (n + m) (xs ++ news) → w.grownBy w' v.ownBlock → wpList P ops Q rest (a.put o.dst v') w') : wpList P ops Q (o :: rest) a w := by
  rcases p with _ | ad
  · have c0 := hh.bare rfl
    have m0 : m = 0 := by have := hh.cap; omega
    subst c0 m0
    have n0 : news = [] := List.length_eq_zero_iff.1 hh.len
    subst n0
    refine wpList_append_own_none hgd s x t ho base e i 1 ht hi v n xs hs hown hx (h v w ?_ (World.grownBy.refl w _))
    rw [List.append_nil]
    exact hown
  · refine wpList_append_own (w := w) hgd s x t ho base e i z 1 bytes ht hi hz hsize hby hzs (by decide) v n xs hs hown ad m c news hx (by rw [Nat.mul_one]; exact hh.len) (fun j u hu => ?_) h1 h63 hbytes hbase (fun v' w' a b _ => h v' w' a b)
    obtain ⟨a', e', hc⟩ := hh.cell j u hu
    cases e'
    exact hc

/-- The same behind a guard that says yes. -/
theorem append_want {P : Program} {w : World} {ops : Array Oper} {rest : List Oper} {o : Oper} {a : Act} {Q : Exit → Act → World → Prop} (hw : Region.wanted o (yielded ops a.tmps) = true) (s x : Operand) (t : TypeId)
    (ho : o.op = .call { callee := .builtin .append, args := #[s, x], argTypes := #[t, t] })
    (base : Nat) (e : TypeId) (i : TypeInfo) (z : Value) (bytes : Nat) (ht : P.underlying t = some (.slice e)) (hi : P.info? e = some i) (hz : i.zero = some z) (hsize : i.size = 1) (hby : i.bytes = bytes) (hzs : z.cells.size = 1)
    (v : Value) (n : Nat) (xs : List Value) (hs : a.eval s = v) (hown : w.ownsRow base e 1 v n xs)
    (p : Option Addr) (m c : Nat) (news : List Value) (hx : a.eval x = .slice p m c) (hh : Holds w p m c news) (h1 : ∀ u ∈ news, u.oneCell' = true)
    (h63 : n + m ≤ maxLen) (hbytes : (n + m) * bytes ≤ 140737488355328) (hbase : base ≤ w.heap.size)
    (h : ∀ v' w', w'.ownsRow base e 1 v' (n + m) (xs ++ news) → w.grownBy w' v.ownBlock → wpList P ops Q rest (a.put o.dst v') w') : wpList P ops Q (o :: rest) a w := by
  refine BigFrame.wpList_want hw fun K hK => ?_
  rcases p with _ | ad
  · have c0 := hh.bare rfl
    have m0 : m = 0 := by have := hh.cap; omega
    subst c0 m0
    have n0 : news = [] := List.length_eq_zero_iff.1 hh.len
    subst n0
    have hrun := run_append_owned_none (P := P) (w := w) base t o.type e i 1 ht hi v n xs hown
    have h' := h v w (by rw [List.append_nil]; exact hown) (World.grownBy.refl w _)
    unfold Oper.wp
    simp [execOp, ho, resolve, invoke, builtin, hs, hx, hrun, Result.andThen]
    exact hK _ _ h'
  · refine wp_append_own w s x t ho base e i z 1 bytes ht hi hz hsize hby hzs (by decide) v n xs hs hown ad m c news hx (by rw [Nat.mul_one]; exact hh.len) (fun j u hu => ?_) h1 h63 hbytes hbase (fun v' w' a b _ => hK _ _ (h v' w' a b))
    obtain ⟨a', e', hc⟩ := hh.cell j u hu
    cases e'
    exact hc

/-- bytes.Clone of a row that is held. -/
theorem clone8_any (w : World) (p : Option Addr) (n c : Nat) (ds : List Nat) (h : Holds w p n c (valsN .u8 ds)) (hn : n ≤ 140737488355328) :
    Calls Try.prog 29 #[.slice p n c] w fun e w' => ∃ v, e = .returned v ∧ w'.ownsRow w.heap.size 5 1 v n (valsN .u8 ds) ∧ Below w.heap.size w w' := by
  have l := h.len
  rw [valsN_len] at l
  rcases p with _ | a
  · have c0 := h.bare rfl
    have n0 : n = 0 := by have := h.cap; omega
    subst c0 n0
    obtain rfl := List.length_eq_zero_iff.1 l
    refine (Try.bytes_Clone_nil 0 0 w).mono ?_
    rintro e w' ⟨rfl, rfl⟩
    exact ⟨_, rfl, World.ownsRow_nil _ _ _ 1, Below.refl _ _⟩
  · refine (Try.bytes_Clone_at a n c (ds.map fun d : Nat => (d : Int)) w (by rw [List.length_map]; exact l) hn (fun i hi => ?_)).mono ?_
    · obtain ⟨a', e, hc⟩ := h.atN hi
      cases e
      rw [hc, List.getD_eq_getElem?_getD, List.getD_eq_getElem?_getD, List.getElem?_map, List.getElem?_eq_getElem (by omega)]
      rfl
    · rintro e w' ⟨v, rfl, o, -, b⟩
      refine ⟨v, rfl, ?_, b⟩
      have : (ds.map fun d : Nat => (d : Int)).map (Value.int .u8) = valsN .u8 ds := by unfold valsN; rw [List.map_map]; rfl
      rwa [this] at o
end Go.Proofs.Yteclcefeipjoeaa

