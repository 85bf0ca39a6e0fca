/- Contracts of the document's own answers for layer 3 (octet): rows taken. -/
import Derived.Test.YteclcefeipjoeaaOctL
namespace Go.Proofs.Yteclcefeipjoeaa
open Go.ChangeShapes Go.WideShapes Go.ChangeAt Go.RowKit OctM

theorem info64 : (Try.prog.info? 53).map (fun i => (i.zero, i.size, i.bytes)) = some (some (.int .u64 0), 1, 8) := by kernel_rfl

structure TRel (w wr : World) (zs : List Int) (ds : List Nat) (v : Value) (k : Nat) : Prop where
  own : wr.ownsRow w.heap.size 53 1 v k (valsN .u64 (takT zs ds k))
  low : Below w.heap.size w wr

structure TakePost (w : World) (n m W : Nat) (zs : List Int) (ds : List Nat) (e : Ending) (w' : World) : Prop where
  out : ∃ v r, e = .returned (.tuple #[v, r, .int .i64 0]) ∧ w'.ownsRow w.heap.size 53 1 v n (valsN .u64 (takT zs ds n)) ∧ w'.ownsRow w.heap.size 5 1 r (m - W) (valsN .u8 (ds.drop W)) ∧ Below w.heap.size w w'

theorem one_new8 (w : World) (x : Value) (T : TypeId) : ∀ (j : Nat) (u : Value), [x][j]? = some u → (w.alloc (.cells #[x] T)).cell? ((⟨w.heap.size, 0, none⟩ : Addr).add j) = some u := by
  intro j u hu
  rcases j with _ | j
  · have e : x = u := by simpa using hu
    subst e
    rw [add_zero', World.cell?_alloc_at _ _ _ _ rfl]
    rfl
  · simp at hu
theorem one_int (k : IntKind) (d : Int) : ∀ u ∈ [Value.int k d], u.oneCell' = true := by
  intro u hu
  simp at hu
  subst hu
  rfl

theorem trel_next {w wr w2 : World} {zs : List Int} {ds : List Nat} {v v' : Value} {k x : Nat} {o : Obj} (h : TRel w wr zs ds v k) (hx : numN ((ds.drop (atT zs k)).take (zs.getD k 0).toNat) = x)
    (ho : w2.ownsRow w.heap.size 53 1 v' (k + 1) (valsN .u64 (takT zs ds k) ++ [.int .u64 x])) (hg : (wr.alloc o).grownBy w2 v.ownBlock) : TRel w w2 zs ds v' (k + 1) := by
  refine ⟨?_, (h.low.alloc h.low.size o).grown hg (by simp; have := h.low.size; omega) (fun j hj => (World.ownsRow.lt h.own j hj).1)⟩
  show w2.ownsRow _ _ _ _ _ (valsN .u64 (takT zs ds k ++ [numN ((ds.drop (atT zs k)).take (zs.getD k 0).toNat)]))
  rw [valsN_append, hx]
  exact ho

theorem drop_own {w : World} {p : Option Addr} {m c W : Nat} {ds : List Nat} (h : Holds w p m c (valsN .u8 ds)) (hW : W ≤ m) : Holds w (if c = W then p else p.map (·.add (W * 1))) (m - W) (c - W) (valsN .u8 (ds.drop W)) := by
  have a := h.piece W m hW (Nat.le_refl _)
  have l := h.len
  unfold valsN at a l ⊢
  rw [List.length_map] at l
  rw [List.map_drop]
  rwa [List.take_of_length_le (by rw [List.length_drop, List.length_map]; omega)] at a

end Go.Proofs.Yteclcefeipjoeaa

