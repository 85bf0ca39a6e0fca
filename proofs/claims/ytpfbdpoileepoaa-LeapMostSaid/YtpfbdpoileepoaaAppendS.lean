/- An append of a row that came in, whatever its pointer and length, onto a row of the call's own, inside a region that draws its order: for every stage. -/
import Derived.Test.YtpfbdpoileepoaaAppendM
import Derived.Deep.AppendLies
namespace Go.Proofs.Ytpfbdpoileepoaa
open Go.ChangeShapes Go.WideShapes Go.ChangeAt Go.RowKit

section
variable {P : Program}
theorem step_append_more (w : World) {ops : Array Oper} {o : Oper} {a : Act} {K : Act → World → Prop} {Q : Exit → Act → World → Prop} {E : Prop} (hw : Region.wanted o (yielded ops a.tmps) = true) (s x : Operand) (t : TypeId)
    (ho : o.op = .call { callee := .builtin .append, args := #[s, x], argTypes := #[t, t] })
    (base : Nat) (e : TypeId) (i : TypeInfo) (z : Value) (bytes : Nat) (ht : P.underlying t = some (.slice e)) (hi : P.info? e = some i) (hz : i.zero = some z) (hsize : i.size = 1) (hby : i.bytes = bytes) (hzs : z.cells.size = 1)
    (v : Value) (n : Nat) (xs : List Value) (hs : a.eval s = v) (hown : w.ownsRow base e 1 v n xs)
    (p : Option Addr) (m c : Nat) (news : List Value) (hx : a.eval x = .slice p m c) (hh : Holds w p m c news) (h1 : ∀ u ∈ news, u.oneCell' = true)
    (h63 : n + m ≤ maxLen) (hbytes : (n + m) * bytes ≤ 140737488355328) (hbase : base ≤ w.heap.size)
    (h : ∀ v' w', w'.ownsRow base e 1 v' (n + m) (xs ++ news) → w.grownBy w' v.ownBlock → Moved w v v' → K (a.put o.dst v') w') :
    if Region.wanted o (yielded ops a.tmps) = true then Oper.wp P o a w K Q else E := by
  rw [if_pos hw]
  rcases p with _ | ad
  · have c0 := hh.bare rfl
    have m0 : m = 0 := by have := hh.cap; omega
    subst c0 m0
    have n0 : news = [] := List.length_eq_zero_iff.1 hh.len
    subst n0
    have hrun := run_append_owned_none (P := P) (w := w) base t o.type e i 1 ht hi v n xs hown
    unfold Oper.wp
    simp [execOp, ho, resolve, invoke, builtin, hs, hx, hrun, Result.andThen]
    refine h v w ?_ (World.grownBy.refl w _) (.inl rfl)
    rw [List.append_nil]
    exact hown
  · obtain ⟨v', w', hrun, h2, h3, h4⟩ := run_append_more (P := P) w base t o.type e i z bytes ht hi hz hsize hby hzs v n xs hown ad m c news (by rw [Nat.mul_one]; exact hh.len) (fun j u hu => by
      obtain ⟨a', e', hc⟩ := hh.cell j u hu
      cases e'
      exact hc) h1 h63 hbytes hbase
    unfold Oper.wp
    simp [execOp, ho, resolve, invoke, builtin, hs, hx, hrun, Result.andThen]
    exact h v' w' h2 h3 h4
end
end Go.Proofs.Ytpfbdpoileepoaa

