/- Texts of earlier layers, laid together: XAppend XOctE. -/
import Derived.Test.YtfnidehbibfclaaGA
import Derived.Test.YtfnidehbibfclaaShelf
import Derived.RegionTactic
import Derived.Deep.QuietTactic
import Derived.BigQuiet
set_option maxRecDepth 100000
/- An append onto a row of the call's own, of whatever row is held, nil too; bytes.Clone of such: for every stage. -/
namespace Go.Proofs.Ytfnidehbibfclaa
open Go.ChangeShapes Go.WideShapes Go.ChangeAt Go.RowKit

theorem append_held {P : Program} {w : World} {ops : Array Oper} {rest : List Oper} {o : Oper} {a : Act} {Q : Exit → Act → World → Prop} (hgd : o.guard = none) (s x : Operand) (t : TypeId)
    (ho : o.op = .call { callee := .builtin .append, args := #[s, x], argTypes := #[t, t] })
    (base : Nat) (e : TypeId) (i : TypeInfo) (z : Value) (bytes : Nat) (ht : P.underlying t = some (.slice e)) (hi : P.info? e = some i) (hz : i.zero = some z) (hsize : i.size = 1) (hby : i.bytes = bytes) (hzs : z.cells.size = 1)
    (v : Value) (n : Nat) (xs : List Value) (hs : a.eval s = v) (hown : w.ownsRow base e 1 v n xs)
    (p : Option Addr) (m c : Nat) (news : List Value) (hx : a.eval x = .slice p m c) (hh : Holds w p m c news) (h1 : ∀ u ∈ news, u.oneCell' = true)
    (h63 : n + m ≤ maxLen) (hbytes : (n + m) * bytes ≤ 140737488355328) (hbase : base ≤ w.heap.size)
    (h : ∀ v' w', w'.ownsRow base e 1 v' (n + m) (xs ++ news) → w.grownBy w' v.ownBlock → wpList P ops Q rest (a.put o.dst v') w') : wpList P ops Q (o :: rest) a w := by
  rcases p with _ | ad
  · have c0 := hh.bare rfl
    have m0 : m = 0 := by have := hh.cap; omega
    subst c0 m0
    have n0 : news = [] := List.length_eq_zero_iff.1 hh.len
    subst n0
    refine wpList_append_own_none hgd s x t ho base e i 1 ht hi v n xs hs hown hx (h v w ?_ (World.grownBy.refl w _))
    rw [List.append_nil]
    exact hown
  · refine wpList_append_own (w := w) hgd s x t ho base e i z 1 bytes ht hi hz hsize hby hzs (by decide) v n xs hs hown ad m c news hx (by rw [Nat.mul_one]; exact hh.len) (fun j u hu => ?_) h1 h63 hbytes hbase (fun v' w' a b _ => h v' w' a b)
    obtain ⟨a', e', hc⟩ := hh.cell j u hu
    cases e'
    exact hc

/-- The same behind a guard that says yes. -/
theorem append_want {P : Program} {w : World} {ops : Array Oper} {rest : List Oper} {o : Oper} {a : Act} {Q : Exit → Act → World → Prop} (hw : Region.wanted o (yielded ops a.tmps) = true) (s x : Operand) (t : TypeId)
    (ho : o.op = .call { callee := .builtin .append, args := #[s, x], argTypes := #[t, t] })
    (base : Nat) (e : TypeId) (i : TypeInfo) (z : Value) (bytes : Nat) (ht : P.underlying t = some (.slice e)) (hi : P.info? e = some i) (hz : i.zero = some z) (hsize : i.size = 1) (hby : i.bytes = bytes) (hzs : z.cells.size = 1)
    (v : Value) (n : Nat) (xs : List Value) (hs : a.eval s = v) (hown : w.ownsRow base e 1 v n xs)
    (p : Option Addr) (m c : Nat) (news : List Value) (hx : a.eval x = .slice p m c) (hh : Holds w p m c news) (h1 : ∀ u ∈ news, u.oneCell' = true)
    (h63 : n + m ≤ maxLen) (hbytes : (n + m) * bytes ≤ 140737488355328) (hbase : base ≤ w.heap.size)
    (h : ∀ v' w', w'.ownsRow base e 1 v' (n + m) (xs ++ news) → w.grownBy w' v.ownBlock → wpList P ops Q rest (a.put o.dst v') w') : wpList P ops Q (o :: rest) a w := by
  refine BigFrame.wpList_want hw fun K hK => ?_
  rcases p with _ | ad
  · have c0 := hh.bare rfl
    have m0 : m = 0 := by have := hh.cap; omega
    subst c0 m0
    have n0 : news = [] := List.length_eq_zero_iff.1 hh.len
    subst n0
    have hrun := run_append_owned_none (P := P) (w := w) base t o.type e i 1 ht hi v n xs hown
    have h' := h v w (by rw [List.append_nil]; exact hown) (World.grownBy.refl w _)
    unfold Oper.wp
    simp [execOp, ho, resolve, invoke, builtin, hs, hx, hrun, Result.andThen]
    exact hK _ _ h'
  · refine wp_append_own w s x t ho base e i z 1 bytes ht hi hz hsize hby hzs (by decide) v n xs hs hown ad m c news hx (by rw [Nat.mul_one]; exact hh.len) (fun j u hu => ?_) h1 h63 hbytes hbase (fun v' w' a b _ => hK _ _ (h v' w' a b))
    obtain ⟨a', e', hc⟩ := hh.cell j u hu
    cases e'
    exact hc

/-- bytes.Clone of a row that is held. -/
theorem clone8_any (w : World) (p : Option Addr) (n c : Nat) (ds : List Nat) (h : Holds w p n c (valsN .u8 ds)) (hn : n ≤ 140737488355328) :
    Calls Try.prog 25 #[.slice p n c] w fun e w' => ∃ v, e = .returned v ∧ w'.ownsRow w.heap.size 5 1 v n (valsN .u8 ds) ∧ Below w.heap.size w w' := by
  have l := h.len
  rw [valsN_len] at l
  rcases p with _ | a
  · have c0 := h.bare rfl
    have n0 : n = 0 := by have := h.cap; omega
    subst c0 n0
    obtain rfl := List.length_eq_zero_iff.1 l
    refine (Try.bytes_Clone_nil 0 0 w).mono ?_
    rintro e w' ⟨rfl, rfl⟩
    exact ⟨_, rfl, World.ownsRow_nil _ _ _ 1, Below.refl _ _⟩
  · refine (Try.bytes_Clone_at a n c (ds.map fun d : Nat => (d : Int)) w (by rw [List.length_map]; exact l) hn (fun i hi => ?_)).mono ?_
    · obtain ⟨a', e, hc⟩ := h.atN hi
      cases e
      rw [hc, List.getD_eq_getElem?_getD, List.getD_eq_getElem?_getD, List.getElem?_map, List.getElem?_eq_getElem (by omega)]
      rfl
    · rintro e w' ⟨v, rfl, o, -, b⟩
      refine ⟨v, rfl, ?_, b⟩
      have : (ds.map fun d : Nat => (d : Int)).map (Value.int .u8) = valsN .u8 ds := by unfold valsN; rw [List.map_map]; rfl
      rwa [this] at o
end Go.Proofs.Ytfnidehbibfclaa
/- bytes.Equal, slices.Equal over rows as we hold them. -/
namespace Go.Proofs.Ytfnidehbibfclaa
open Go.ChangeShapes Go.WideShapes Go.ChangeAt Go.RowKit OctM

theorem bytes_eq {a b : List Nat} (ha : Byt a) (hb : Byt b) : (Lib.bytesOf (a.map fun d : Nat => (d : Int)) == Lib.bytesOf (b.map fun d : Nat => (d : Int))) = decide (a = b) := by
  have e : ∀ l : List Nat, Lib.bytesOf (l.map fun d : Nat => (d : Int)) = l.map UInt8.ofNat := by
    intro l
    unfold Lib.bytesOf
    rw [List.map_map]
    apply List.map_congr_left
    intro d _
    simp
  rw [e, e, Bool.eq_iff_iff, beq_iff_eq, decide_eq_true_iff]
  constructor
  · intro h
    induction a generalizing b with
    | nil => cases b with
      | nil => rfl
      | cons y t => simp at h
    | cons x s ih => cases b with
      | nil => simp at h
      | cons y t =>
        simp only [List.map_cons, List.cons.injEq] at h
        have hx := ha x (by simp)
        have hy := hb y (by simp)
        have := congrArg UInt8.toNat h.1
        rw [UInt8.toNat_ofNat', UInt8.toNat_ofNat'] at this
        have e1 : x = y := by omega
        rw [e1, ih (fun d hd => ha d (by simp [hd])) (fun d hd => hb d (by simp [hd])) h.2]
  · intro h; rw [h]

theorem holds_bytesIn {w : World} {p : Option Addr} {n c : Nat} {ds : List Nat} (h : Holds w p n c (valsN .u8 ds)) : Lib.BytesIn w p n (ds.map fun d : Nat => (d : Int)) := by
  by_cases h0 : n = 0
  · subst h0; exact Lib.BytesIn.nil _ _ _
  · obtain ⟨a, rfl, -⟩ := h.atN (i := 0) (by omega)
    refine Lib.BytesIn.of_cells fun i hi => ?_
    obtain ⟨a', e, hc⟩ := h.atN hi
    cases e
    rw [hc]
    have l := h.len
    rw [valsN_len] at l
    rw [List.getD_eq_getElem?_getD, List.getD_eq_getElem?_getD, List.getElem?_map, List.getElem?_eq_getElem (by omega)]
    rfl

theorem bequal_any (w : World) (p q : Option Addr) (n c m d : Nat) (a b : List Nat) (ha : Holds w p n c (valsN .u8 a)) (hb : Holds w q m d (valsN .u8 b)) (ya : Byt a) (yb : Byt b) :
    Calls Try.prog 15 #[.slice p n c, .slice q m d] w fun e w' => e = .returned (.bool (decide (a = b))) ∧ w = w' := by
  have la := ha.len
  have lb := hb.len
  rw [valsN_len] at la lb
  refine (Try.bytes_Equal_all p q n c m d (a.map fun d : Nat => (d : Int)) (b.map fun d : Nat => (d : Int)) w (by rw [List.length_map]; exact la) (by rw [List.length_map]; exact lb) (holds_bytesIn ha) (holds_bytesIn hb)).mono ?_
  rintro e w' ⟨rfl, rfl⟩
  rw [bytes_eq ya yb]
  exact ⟨rfl, rfl⟩

theorem bequal_same (w : World) (p q : Option Addr) (n c m d : Nat) (a : List Nat) (ha : Holds w p n c (valsN .u8 a)) (hb : Holds w q m d (valsN .u8 a)) (ya : Byt a) :
    Calls Try.prog 15 #[.slice p n c, .slice q m d] w fun e w' => e = .returned (.bool true) ∧ w = w' := by
  have h := bequal_any w p q n c m d a a ha hb ya ya
  rwa [decide_eq_true rfl] at h

end Go.Proofs.Ytfnidehbibfclaa
