/- Texts of earlier layers, laid together: XBase XRow XPostLow XSlice XAppendM XOctM XStr XStrN XZeros XAppendS XPack. -/
import Derived.Test.YtfnidehbibfclaaRows
import Derived.WalkKit
import Derived.ProofKit
import Derived.OpenShut
import Derived.IntWalk
import Derived.Lib.Hide
import Derived.Below
import Derived.WalkSmall
import Derived.Laws.AppendOwn
import Derived.Laws.AppendOwnNone
import Derived.LoopTactic
import Derived.Outline
import Derived.Laws.BytesArg
import Derived.Laws.Concat
import Derived.Laws.StructEq
import Derived.Lib.AppendZerosOnto
import Derived.Deep.AppendLies
import Derived.Laws.Rows
import Derived.Laws.Tables
import Derived.Deep.WholeRow
set_option maxRecDepth 100000
/- What every stage's texts stand on: numbers of 64 bits, a call's answers, calls that lay new blocks alone. -/
namespace Go.Proofs.Ytfnidehbibfclaa
open Go.ChangeShapes Go.WideShapes Go.ChangeAt Go.RowKit

def I64 (a : Int) : Prop := -9223372036854775808 ≤ a ∧ a ≤ 9223372036854775807

theorem ret_int {k : IntKind} {a b : Int} (h : a = b) : Ending.returned (.int k a) = .returned (.int k b) := by rw [h]

theorem i64_of_wf {x : Int} (h : (Lit.int .i64 x).wf = true) : I64 x := by
  simp [Lit.wf, IntKind.min, IntKind.max, IntKind.signed, IntKind.bits] at h
  exact ⟨by omega, by omega⟩

theorem word_of_wf {x : Int} (h : (Lit.int .u64 x).wf = true) : 0 ≤ x ∧ x < 18446744073709551616 := by
  simp [Lit.wf, IntKind.min, IntKind.max, IntKind.signed, IntKind.bits] at h
  exact ⟨by omega, by omega⟩

theorem u32_of_wf {x : Int} (h : (Lit.int .u32 x).wf = true) : 0 ≤ x ∧ x < 4294967296 := by
  simp [Lit.wf, IntKind.min, IntKind.max, IntKind.signed, IntKind.bits] at h
  exact ⟨by omega, by omega⟩

theorem i32_of_wf {x : Int} (h : (Lit.int .i32 x).wf = true) : -2147483648 ≤ x ∧ x ≤ 2147483647 := by
  simp [Lit.wf, IntKind.min, IntKind.max, IntKind.signed, IntKind.bits] at h
  exact ⟨by omega, by omega⟩

theorem ret_pair {k l : IntKind} {a b c d : Int} (h : a = c) (h' : b = d) : Ending.returned (.tuple #[.int k a, .int l b]) = .returned (.tuple #[.int k c, .int l d]) := by rw [h, h']

/-- A call that lays new blocks alone: in both of the kit's words. -/
structure Out (w w' : World) : Prop where
  g : Grown w w'
  b : Below w.heap.size w w'
theorem Out.refl (w : World) : Out w w := ⟨Grown.refl _, Below.refl _ _⟩
theorem Out.trans {a b c : World} (h : Out a b) (k : Out b c) : Out a c :=
  ⟨⟨World.keptBut_trans h.g.1 k.g.1, fun x => (k.g.2.1 x).trans (h.g.2.1 x), Nat.le_trans h.g.2.2 k.g.2.2⟩, h.b.trans (k.b.mono h.g.2.2)⟩
theorem Out.alloc {a b : World} (h : Out a b) (c : Array Value) (t : TypeId) : Out a (b.alloc (.cells c t)) := ⟨h.g.alloc c t, h.b.alloc h.g.2.2 _⟩
theorem Out.setCell {a b : World} (h : Out a b) {p : Addr} (hp : a.heap.size ≤ p.block) (v : Value) : Out a (b.setCell p v) := ⟨h.g.setCell hp v, h.b.setCell hp v⟩
theorem Out.drewN {a b : World} (h : Out a b) (n : Nat) : Out a (b.drewN n) := h.trans ⟨Grown.refl b, below_drewN (Below.refl _ _) n⟩
theorem Out.of_eq {a b : World} (h : a = b) : Out a b := h ▸ Out.refl a

end Go.Proofs.Ytfnidehbibfclaa
/- Rows of cells behind a slice: what came in (read alone), and the call's own (new memory): for every stage. -/
namespace Go.Proofs.Ytfnidehbibfclaa
open Go.ChangeShapes Go.WideShapes Go.ChangeAt Go.RowKit

/-- Behind (p, n, c) stand the values vs, from the beginning on. -/
structure Holds (w : World) (p : Option Addr) (n c : Nat) (vs : List Value) : Prop where
  len : vs.length = n
  cap : n ≤ c
  max : c ≤ maxLen
  bare : p = none → c = 0
  cell : ∀ i u, vs[i]? = some u → ∃ a, p = some a ∧ w.cell? (a.add i) = some u

def valsN (k : IntKind) (ds : List Nat) : List Value := ds.map fun d : Nat => Value.int k (d : Int)
def valsI (k : IntKind) (zs : List Int) : List Value := zs.map fun z => Value.int k z
theorem valsN_len (k : IntKind) (ds : List Nat) : (valsN k ds).length = ds.length := List.length_map _
theorem valsI_len (k : IntKind) (zs : List Int) : (valsI k zs).length = zs.length := List.length_map _
theorem valsN_get {k : IntKind} {ds : List Nat} {i : Nat} (h : i < ds.length) : (valsN k ds)[i]? = some (.int k (ds.getD i 0 : Nat)) := by
  unfold valsN
  rw [List.getElem?_map, List.getElem?_eq_getElem h, List.getD_eq_getElem?_getD, List.getElem?_eq_getElem h]; rfl
theorem valsI_get {k : IntKind} {zs : List Int} {i : Nat} (h : i < zs.length) : (valsI k zs)[i]? = some (.int k (zs.getD i 0)) := by
  unfold valsI
  rw [List.getElem?_map, List.getElem?_eq_getElem h, List.getD_eq_getElem?_getD, List.getElem?_eq_getElem h]; rfl
theorem valsN_append (k : IntKind) (a b : List Nat) : valsN k (a ++ b) = valsN k a ++ valsN k b := List.map_append
theorem valsN_one (k : IntKind) (ds : List Nat) : ∀ u ∈ valsN k ds, u.oneCell' = true := by
  intro u hu
  unfold valsN at hu
  obtain ⟨d, _, rfl⟩ := List.mem_map.1 hu
  rfl

theorem add_add (a : Addr) (x y : Nat) : (a.add x).add y = a.add (x + y) := by
  unfold Addr.add
  by_cases h : y = 0
  · subst h; simp
  · by_cases g : x = 0
    · subst g; simp
    · rw [if_neg h, if_neg g, if_neg (by omega)]
      simp [Nat.add_assoc]

theorem Holds.nil (w : World) (p : Option Addr) (c : Nat) (h : c ≤ maxLen) (g : p = none → c = 0) : Holds w p 0 c [] := ⟨rfl, Nat.zero_le _, h, g, fun i u hu => by simp at hu⟩
theorem Holds.below {w w' : World} {p : Option Addr} {n c : Nat} {vs : List Value} (h : Holds w p n c vs) (hb : Below w.heap.size w w') : Holds w' p n c vs := by
  refine ⟨h.len, h.cap, h.max, h.bare, fun i u hu => ?_⟩
  obtain ⟨a, ha, hc⟩ := h.cell i u hu
  refine ⟨a, ha, ?_⟩
  rw [hb.cell (World.block_lt_of_cell? w _ hc)]
  exact hc
theorem Holds.at {w : World} {p : Option Addr} {n c : Nat} {vs : List Value} (h : Holds w p n c vs) {i : Nat} {u : Value} (hu : vs[i]? = some u) : ∃ a, p = some a ∧ w.cell? (a.add i) = some u := h.cell i u hu
theorem Holds.atN {w : World} {p : Option Addr} {n c : Nat} {k : IntKind} {ds : List Nat} (h : Holds w p n c (valsN k ds)) {i : Nat} (hi : i < n) : ∃ a, p = some a ∧ w.cell? (a.add i) = some (.int k (ds.getD i 0 : Nat)) :=
  h.cell i _ (valsN_get (by have := h.len; rw [valsN_len] at this; omega))
theorem Holds.atI {w : World} {p : Option Addr} {n c : Nat} {k : IntKind} {zs : List Int} (h : Holds w p n c (valsI k zs)) {i : Nat} (hi : i < n) : ∃ a, p = some a ∧ w.cell? (a.add i) = some (.int k (zs.getD i 0)) :=
  h.cell i _ (valsI_get (by have := h.len; rw [valsI_len] at this; omega))
/-- A piece of what came in, as a slice expression lays it. -/
theorem Holds.piece {w : World} {p : Option Addr} {n c : Nat} {vs : List Value} (h : Holds w p n c vs) (lo hi : Nat) (h1 : lo ≤ hi) (h2 : hi ≤ n) :
    Holds w (if c = lo then p else p.map (·.add (lo * 1))) (hi - lo) (c - lo) ((vs.drop lo).take (hi - lo)) := by
  have l := h.len
  have cp := h.cap
  have mx := h.max
  refine ⟨by rw [List.length_take, List.length_drop]; omega, by omega, by omega, fun hp => ?_, fun i u hu => ?_⟩
  · have : p = none := by
      split at hp
      · exact hp
      · exact Option.map_eq_none_iff.1 hp
    have := h.bare this
    omega
  have hi' : i < hi - lo := by
    have := (List.getElem?_eq_some_iff.1 hu).1
    rw [List.length_take] at this
    omega
  rw [List.getElem?_take, if_pos hi', List.getElem?_drop] at hu
  obtain ⟨a, rfl, hc⟩ := h.cell _ _ hu
  rw [if_neg (by omega)]
  exact ⟨a.add (lo * 1), rfl, by rw [add_add, Nat.mul_one]; exact hc⟩

theorem add_zero' (g : Nat) (i : Nat) : (⟨g, 0, none⟩ : Addr).add i = ⟨g, i, none⟩ := by unfold Addr.add; split <;> simp_all

/-- The call's own row, as what may be read. -/
theorem own_holds {w : World} {B : Nat} {T : TypeId} {v : Value} {n : Nat} {vs : List Value} (h : w.ownsRow B T 1 v n vs) : ∃ p c, v = .slice p n c ∧ Holds w p n c vs := by
  have hc := h
  obtain ⟨hl, ⟨rfl, rfl⟩ | ⟨g, cap, cur, rfl, hb, hg, h1, h2, h3, h4⟩⟩ := h
  · obtain rfl : vs = [] := List.length_eq_zero_iff.1 (by simpa using hl)
    exact ⟨none, 0, rfl, Holds.nil _ _ _ (Nat.zero_le _) (fun _ => rfl)⟩
  · exact ⟨_, cap, rfl, by simpa using hl, h1, h2, (fun e => by cases e), fun i u hu => ⟨_, rfl, World.ownsRow.cells hc (g := g) rfl i u hu⟩⟩
theorem own_base {w : World} {B B' : Nat} {T : TypeId} {s : Nat} {v : Value} {n : Nat} {vs : List Value} (h : w.ownsRow B T s v n vs) (hb : B' ≤ B) : w.ownsRow B' T s v n vs := by
  refine ⟨h.1, ?_⟩
  rcases h.2 with hn | ⟨g, cap, cur, e, hb', r⟩
  · exact .inl hn
  · exact .inr ⟨g, cap, cur, e, Nat.le_trans hb hb', r⟩
theorem own_keep {w w' : World} {B : Nat} {T : TypeId} {s : Nat} {v : Value} {n : Nat} {vs : List Value} (h : w.ownsRow B T s v n vs) (hb : Below w.heap.size w w') : w'.ownsRow B T s v n vs := by
  refine ⟨h.1, ?_⟩
  rcases h.2 with hn | ⟨g, cap, cur, rfl, hb', hg, r⟩
  · exact .inl hn
  · refine .inr ⟨g, cap, cur, rfl, hb', ?_, r⟩
    rw [hb.block g (Array.getElem?_eq_some_iff.1 hg).1]
    exact hg

theorem blk_cell {w : World} {N o : Nat} {cs : Array Value} {T : TypeId} (h : w.heap[N]? = some (.cells cs T (0, 0))) : w.cell? ⟨N, o, none⟩ = cs[o]? := cell_of_row w N o cs T (0, 0) h
theorem blk_free {w : World} {N o : Nat} {cs : Array Value} {T : TypeId} (h : w.heap[N]? = some (.cells cs T (0, 0))) : w.frozen? ⟨N, o, none⟩ = false := by
  simp [World.frozen?, h]
theorem blk_set {w : World} {N o : Nat} {cs : Array Value} {T : TypeId} {fr : Nat × Nat} {u : Value} (hN : w.heap[N]? = some (.cells cs T fr)) : (w.setCell ⟨N, o, none⟩ u).heap[N]? = some (.cells (cs.set! o u) T fr) := by
  simp only [World.setCell, Array.getElem?_modify, hN]
  simp
/-- A whole block that is the call's own, as a row. -/
theorem own_of_blk {w : World} {N n : Nat} {cs : Array Value} {T : TypeId} {B : Nat} (h : w.heap[N]? = some (.cells cs T (0, 0))) (hn : cs.size = n) (hm : n ≤ maxLen) (hB : B ≤ N) : w.ownsRow B T 1 (.slice (some ⟨N, 0, none⟩) n n) n cs.toList := by
  refine ⟨by simp [hn], .inr ⟨N, n, cs, rfl, hB, h, Nat.le_refl _, hm, by omega, ?_⟩⟩
  rw [Nat.mul_one, List.take_of_length_le (by simp [hn])]
end Go.Proofs.Ytfnidehbibfclaa
/- The last step of a law's row where all that is known of the world behind the call is that nothing below its own blocks has turned (new blocks may be of any make): our own short form, for rows that do not ask for a second reading ('again' is false). -/
namespace Go.Proofs.Ytfnidehbibfclaa
open Go.ChangeShapes Go.WideShapes Go.ChangeAt Go.RowKit

theorem post_low {H : Type} {enc : TypeId × Value → H} {P : Program} {f : Func} {s : ChangeSpec} {apart fresh handsOn : Bool} {W W' : World} {args : Array Value} {v : Value} {ds gs : List (DataW H)} {pa pv : List MemPlace}
    (whole : DataW.Whole enc P f.params.toList s.vars apart W args.toList ds gs (pa ++ pv)) (low : Below W.heap.size W W')
    (res : ∀ (b : Nat) (sp : Nat → Bool) (hd : Bool), DataW.TrodAll enc P W' b sp hd f.resultTypes.toList (v.resultList f.resultTypes.size) (s.fn H (ds ++ gs)).results [])
    (back : ∀ sp : Nat → Bool, (∀ p ∈ pa ++ pv, sp p.block = true) → DataW.TrodAll enc P W' 0 sp true f.params.toList args.toList (s.fn H (ds ++ gs)).args pa)
    (vars : ∀ sp : Nat → Bool, (∀ p ∈ pa ++ pv, sp p.block = true) → DataW.TrodVars enc P W' sp s.vars (s.fn H (ds ++ gs)).vars pv) :
    s.post enc P f apart fresh handsOn false W args v W' := by
  have old : ∀ p ∈ pa ++ pv, decide (p.block < W.heap.size) = true := fun p hp => decide_eq_true (whole.lt p hp)
  refine ⟨ds, gs, pa ++ pv, [], pa, pv, whole, res _ _ _, back _ old, vars _ old, ?_, fun h => by cases h⟩
  exact World.keptBut_mono (fun p hp => ⟨hp, .inr (List.mem_append.1 hp)⟩) (low.frame (· ∈ pa ++ pv))
end Go.Proofs.Ytfnidehbibfclaa
/- New blocks as rows; addresses; slices of bytes, opaque in a walk ('attribute [local go_sem ↓] sliceB_eq' in the text that walks): the first so many of a row that may be nil: for every stage. -/
namespace Go.Proofs.Ytfnidehbibfclaa
open Go.ChangeShapes Go.WideShapes Go.ChangeAt Go.RowKit

/-- A whole block that is new, as what may be read. -/
theorem blk_holds {w : World} {N n : Nat} {cs : Array Value} {T : TypeId} (h : w.heap[N]? = some (.cells cs T (0, 0))) (hn : cs.size = n) (hm : n ≤ maxLen) : Holds w (some ⟨N, 0, none⟩) n n cs.toList := by
  refine ⟨by simp [hn], Nat.le_refl _, hm, (fun e => by cases e), fun i u hu => ⟨_, rfl, ?_⟩⟩
  rw [add_zero', blk_cell h]
  simpa using hu

theorem add_block (a : Addr) (i : Nat) : (a.add i).block = a.block := by unfold Addr.add; split <;> rfl
theorem add_off (a : Addr) (i : Nat) : (a.add i).off = a.off + i := by
  unfold Addr.add
  by_cases h : i = 0
  · subst h; simp
  · rw [if_neg h]

theorem holds_drewN {w : World} {p : Option Addr} {n c : Nat} {vs : List Value} (h : Holds w p n c vs) (k : Nat) : Holds (w.drewN k) p n c vs := h.below (below_drewN (Below.refl _ _) k)

theorem drewN_add (w : World) (i j : Nat) : (w.drewN i).drewN j = w.drewN (i + j) := by
  unfold World.drewN
  simp [Nat.add_assoc]

theorem ret_bool {a b : Bool} (h : a = b) : Ending.returned (.bool a) = .returned (.bool b) := by rw [h]

def sliceB (x : Value) (lo hi mx : Option Value) : Sem Value := Instr.sliceAt 31 x lo hi mx
theorem sliceB_eq (x : Value) (lo hi mx : Option Value) : Instr.sliceAt 31 x lo hi mx = sliceB x lo hi mx := rfl
theorem slice_to {w : World} {p : Option Addr} {n c k : Nat} (hk : k ≤ c) : (sliceB (.slice p n c) none (some (.int .i64 (k : Int))) none).run Try.prog w = .ok (.slice p k c) w := by
  have h1 : (k : Int) ≤ (c : Int) := by omega
  unfold sliceB
  simp only [Instr.sliceAt]
  rw [Sem.run_bind, run_underlying Try.underlying31]
  simp [Instr.slice, Instr.sliceBounds, run_underlying Try.underlying31, Instr.sliceBound, asIntOf, go_sem, hk]
end Go.Proofs.Ytfnidehbibfclaa
/- An append onto a row of the call's own, which tells besides: the row is where it was, or in a block that was not there: for every stage. -/
namespace Go.Proofs.Ytfnidehbibfclaa
open Go.ChangeShapes Go.WideShapes Go.ChangeAt Go.RowKit

/-- where a row is now, beside where it was. -/
def Moved (w : World) (v v' : Value) : Prop := v'.ownBlock = v.ownBlock ∨ ∀ g, v'.ownBlock = some g → w.heap.size ≤ g

theorem run_append_more {P : Program} (w : World) (base : Nat) (t ty e : TypeId) (i : TypeInfo) (z : Value) (bytes : Nat) (ht : P.underlying t = some (.slice e)) (hi : P.info? e = some i) (hz : i.zero = some z)
    (hsize : i.size = 1) (hby : i.bytes = bytes) (hzs : z.cells.size = 1) (v : Value) (n : Nat) (xs : List Value) (hown : w.ownsRow base e 1 v n xs)
    (a : Addr) (m c : Nat) (news : List Value) (hl : news.length = m * 1) (hnews : ∀ j u, news[j]? = some u → w.cell? (a.add j) = some u) (h1 : ∀ u ∈ news, u.oneCell' = true)
    (h63 : n + m ≤ maxLen) (hbytes : (n + m) * bytes ≤ 140737488355328) (hbase : base ≤ w.heap.size) :
    ∃ v' w', (Builtin.append_ #[t, t] ty #[v, .slice (some a) m c]).run P w = .ok v' w' ∧ w'.ownsRow base e 1 v' (n + m) (xs ++ news) ∧ w.grownBy w' v.ownBlock ∧ Moved w v v' := by
  obtain ⟨v', w', hr, h2, h3, -⟩ := run_append_own (P := P) w base t ty e i z 1 bytes ht hi hz hsize hby hzs (by decide) v n xs hown a m c news hl hnews h1 h63 hbytes hbase
  refine ⟨v', w', hr, h2, h3, ?_⟩
  rcases hown.2 with ⟨rfl, rfl⟩ | ⟨g, cap, cur, rfl, hbg, hg, hnc, hcm, hcs, htake⟩
  · have hx : xs = [] := List.eq_nil_of_length_eq_zero (by simpa using hown.1)
    subst hx
    obtain ⟨v2, w2, hr2, k2, -, -⟩ := run_append_own (P := P) w w.heap.size t ty e i z 1 bytes ht hi hz hsize hby hzs (by decide) _ 0 [] (World.ownsRow_nil w w.heap.size e 1) a m c news hl hnews h1 h63 hbytes (Nat.le_refl _)
    rw [hr] at hr2
    injection hr2 with hv hw'
    subst hv hw'
    exact .inr fun g hg => (World.ownsRow.lt k2 g hg).1
  · by_cases hroom : n + m ≤ cap
    · have hr' := run_append_room (P := P) w t ty e i ht hi g n cap cur hg a m c news (by rw [hsize]; exact hl) hnews h1 hroom (by rw [hl, hsize, hcs]; omega)
      rw [hr] at hr'
      injection hr' with hv _
      subst hv
      exact .inl rfl
    · have holds : ∀ j u, xs[j]? = some u → w.cell? ((⟨g, 0, none⟩ : Addr).add j) = some u := hown.cells (g := g) rfl
      have hr' := run_append_grow (P := P) w t ty e i z ht hi hz ⟨g, 0, none⟩ n cap xs (by rw [hsize]; exact hown.1) holds a m c news (by rw [hsize]; exact hl) hnews (by omega) (by simp only [maxLen] at h63; omega) (by rw [hby]; exact growslice_fits (by omega) hbytes)
      rw [hr] at hr'
      injection hr' with hv _
      subst hv
      refine .inr fun g' hg' => ?_
      have : w.heap.size = g' := by simpa [Value.ownBlock] using hg'
      omega

theorem append_more {P : Program} {w : World} {ops : Array Oper} {rest : List Oper} {o : Oper} {a : Act} {Q : Exit → Act → World → Prop} (hgd : o.guard = none) (s x : Operand) (t : TypeId)
    (ho : o.op = .call { callee := .builtin .append, args := #[s, x], argTypes := #[t, t] })
    (base : Nat) (e : TypeId) (i : TypeInfo) (z : Value) (bytes : Nat) (ht : P.underlying t = some (.slice e)) (hi : P.info? e = some i) (hz : i.zero = some z) (hsize : i.size = 1) (hby : i.bytes = bytes) (hzs : z.cells.size = 1)
    (v : Value) (n : Nat) (xs : List Value) (hs : a.eval s = v) (hown : w.ownsRow base e 1 v n xs)
    (p : Option Addr) (m c : Nat) (news : List Value) (hx : a.eval x = .slice p m c) (hh : Holds w p m c news) (h1 : ∀ u ∈ news, u.oneCell' = true)
    (h63 : n + m ≤ maxLen) (hbytes : (n + m) * bytes ≤ 140737488355328) (hbase : base ≤ w.heap.size)
    (h : ∀ v' w', w'.ownsRow base e 1 v' (n + m) (xs ++ news) → w.grownBy w' v.ownBlock → Moved w v v' → wpList P ops Q rest (a.put o.dst v') w') : wpList P ops Q (o :: rest) a w := by
  rcases p with _ | ad
  · have c0 := hh.bare rfl
    have m0 : m = 0 := by have := hh.cap; omega
    subst c0 m0
    have n0 : news = [] := List.length_eq_zero_iff.1 hh.len
    subst n0
    refine wpList_append_own_none hgd s x t ho base e i 1 ht hi v n xs hs hown hx (h v w ?_ (World.grownBy.refl w _) (.inl rfl))
    rw [List.append_nil]
    exact hown
  · obtain ⟨v', w', hrun, h2, h3, h4⟩ := run_append_more (P := P) w base t o.type e i z bytes ht hi hz hsize hby hzs v n xs hown ad m c news (by rw [Nat.mul_one]; exact hh.len) (fun j u hu => by
      obtain ⟨a', e', hc⟩ := hh.cell j u hu
      cases e'
      exact hc) h1 h63 hbytes hbase
    refine wpList_plain hgd fun _ hK => ?_
    unfold Oper.wp
    simp [execOp, ho, resolve, invoke, builtin, hs, hx, hrun, Result.andThen]
    exact hK _ _ (h v' w' h2 h3 h4)

/-- Two rows of the call's own that are apart stay so, and the other one stays as it is. -/
def Apart (v u : Value) : Prop := u.ownBlock = none ∨ u.ownBlock ≠ v.ownBlock
theorem apart_kept {w w' : World} {B : Nat} {T : TypeId} {s : Nat} {v v' u : Value} {n : Nat} {xs : List Value} (h : w.ownsRow B T s u n xs) (ap : Apart v u) (hg : w.grownBy w' v.ownBlock) (mv : Moved w v v') : w'.ownsRow B T s u n xs ∧ Apart v' u := by
  refine ⟨World.ownsRow.kept h hg ap, ?_⟩
  rcases ap with ap | ap
  · exact .inl ap
  · rcases mv with mv | mv
    · exact .inr (by rw [mv]; exact ap)
    · cases hu : u.ownBlock with
      | none => exact .inl hu
      | some g =>
        refine .inr fun e => ?_
        rw [hu] at e
        have a := mv g e.symm
        have b := (World.ownsRow.lt h g hu).2
        omega
end Go.Proofs.Ytfnidehbibfclaa
/- Numbers to the base 256, as lists of digits: layer 3 (octet). No program. -/
namespace Go.Proofs.OctM

/-- digits to the base 256. -/
def Byt (ds : List Nat) : Prop := ∀ d ∈ ds, d < 256
instance (ds : List Nat) : Decidable (Byt ds) := by unfold Byt; exact inferInstance
def numN (ds : List Nat) : Nat := ds.foldl (fun n d => n * 256 + d) 0
/-- a number's s lowest digits, the highest one first. -/
def digN (n : Nat) : Nat → List Nat
  | 0 => []
  | s + 1 => digN (n / 256) s ++ [n % 256]
theorem numN_nil : numN [] = 0 := rfl
theorem numN_snoc (ds : List Nat) (d : Nat) : numN (ds ++ [d]) = numN ds * 256 + d := by unfold numN; rw [List.foldl_append]; rfl
theorem digN_len (n s : Nat) : (digN n s).length = s := by
  induction s generalizing n with
  | zero => rfl
  | succ s ih => unfold digN; rw [List.length_append, ih]; rfl
theorem digN_byt (n s : Nat) : Byt (digN n s) := by
  induction s generalizing n with
  | zero => intro d hd; simp [digN] at hd
  | succ s ih =>
    intro d hd
    unfold digN at hd
    rcases List.mem_append.1 hd with h | h
    · exact ih _ d h
    · obtain rfl : d = n % 256 := by simpa using h
      exact Nat.mod_lt _ (by omega)
theorem byt_take {ds : List Nat} (h : Byt ds) (k : Nat) : Byt (ds.take k) := fun d hd => h d (List.mem_of_mem_take hd)
theorem byt_drop {ds : List Nat} (h : Byt ds) (k : Nat) : Byt (ds.drop k) := fun d hd => h d (List.mem_of_mem_drop hd)
theorem byt_append {a b : List Nat} (h : Byt a) (g : Byt b) : Byt (a ++ b) := fun d hd => (List.mem_append.1 hd).elim (h d) (g d)
theorem byt_get {ds : List Nat} (h : Byt ds) (i : Nat) : ds.getD i 0 < 256 := by
  rw [List.getD_eq_getElem?_getD]
  by_cases g : i < ds.length
  · rw [List.getElem?_eq_getElem g]; exact h _ (List.getElem_mem g)
  · rw [List.getElem?_eq_none (by omega)]; exact (by decide : (0 : Nat) < 256)
theorem take_next {ds : List Nat} {i : Nat} (h : i < ds.length) : ds.take (i + 1) = ds.take i ++ [ds.getD i 0] := by
  rw [List.take_succ_eq_append_getElem h, List.getD_eq_getElem?_getD, List.getElem?_eq_getElem h]; rfl
theorem snoc_of {ds : List Nat} {s : Nat} (h : ds.length = s + 1) : ∃ a d, ds = a ++ [d] ∧ a.length = s := by
  refine ⟨ds.take s, ds.getD s 0, ?_, by rw [List.length_take]; omega⟩
  rw [← take_next (by omega), List.take_of_length_le (by omega)]
theorem numN_lt {ds : List Nat} (h : Byt ds) : numN ds < 256 ^ ds.length := by
  obtain ⟨s, hs⟩ : ∃ s, s = ds.length := ⟨_, rfl⟩
  induction s generalizing ds with
  | zero => obtain rfl : ds = [] := List.length_eq_zero_iff.1 hs.symm; simp [numN_nil]
  | succ s ih =>
    obtain ⟨a, d, rfl, ha⟩ := snoc_of hs.symm
    have h1 := ih (fun x hx => h x (List.mem_append_left _ hx)) ha.symm
    have h2 : d < 256 := h d (by simp)
    rw [numN_snoc, List.length_append, Nat.pow_add]
    show _ < _ * 256 ^ 1
    omega
theorem num_dig (n s : Nat) : numN (digN n s) = n % 256 ^ s := by
  induction s generalizing n with
  | zero => rw [Nat.pow_zero, Nat.mod_one]; rfl
  | succ s ih =>
    show numN (digN (n / 256) s ++ [n % 256]) = _
    rw [numN_snoc, ih, Nat.pow_succ, Nat.mul_comm (256 ^ s) 256, Nat.mod_mul]
    omega
theorem dig_num {ds : List Nat} (h : Byt ds) : digN (numN ds) ds.length = ds := by
  obtain ⟨s, hs⟩ : ∃ s, s = ds.length := ⟨_, rfl⟩
  induction s generalizing ds with
  | zero => obtain rfl : ds = [] := List.length_eq_zero_iff.1 hs.symm; rfl
  | succ s ih =>
    obtain ⟨a, d, rfl, ha⟩ := snoc_of hs.symm
    have h1 := ih (fun x hx => h x (List.mem_append_left _ hx)) ha.symm
    have h2 : d < 256 := h d (by simp)
    rw [numN_snoc, List.length_append]
    show digN ((numN a * 256 + d) / 256) a.length ++ [(numN a * 256 + d) % 256] = _
    rw [show (numN a * 256 + d) / 256 = numN a by omega, show (numN a * 256 + d) % 256 = d by omega, h1]
/-- the digit at a place. -/
theorem dig_at (n s i : Nat) (h : i < s) : (digN n s).getD i 0 = n / 256 ^ (s - 1 - i) % 256 := by
  induction s generalizing n with
  | zero => omega
  | succ s ih =>
    show (digN (n / 256) s ++ [n % 256]).getD i 0 = _
    by_cases g : i < s
    · rw [List.getD_eq_getElem?_getD, List.getElem?_append_left (by rw [digN_len]; exact g), ← List.getD_eq_getElem?_getD, ih _ g, Nat.div_div_eq_div_mul, show s + 1 - 1 - i = (s - 1 - i) + 1 by omega, Nat.pow_succ, Nat.mul_comm 256]
    · obtain rfl : i = s := by omega
      rw [List.getD_eq_getElem?_getD, List.getElem?_append_right (by rw [digN_len]; omega), digN_len]
      simp
theorem fits_iff (n s : Nat) : n / 256 ^ s = 0 ↔ n < 256 ^ s := by
  have p : 0 < 256 ^ s := Nat.pow_pos (by omega)
  rw [Nat.div_eq_zero_iff]
  omega
theorem div_step (n k : Nat) : n / 256 ^ k / 256 = n / 256 ^ (k + 1) := by rw [Nat.div_div_eq_div_mul, ← Nat.pow_succ]

/-- sizes. -/
def okS (z : Int) : Prop := 1 ≤ z ∧ z ≤ 8
instance (z : Int) : Decidable (okS z) := by unfold okS; exact inferInstance
def okAll (zs : List Int) : Prop := ∀ z ∈ zs, okS z
instance (zs : List Int) : Decidable (okAll zs) := by unfold okAll; exact inferInstance
def sumI (zs : List Int) : Int := zs.foldl (fun a z => a + z) 0
theorem sumI_snoc (zs : List Int) (z : Int) : sumI (zs ++ [z]) = sumI zs + z := by unfold sumI; rw [List.foldl_append]; rfl
theorem takeI_next {zs : List Int} {i : Nat} (h : i < zs.length) : zs.take (i + 1) = zs.take i ++ [zs.getD i 0] := by
  rw [List.take_succ_eq_append_getElem h, List.getD_eq_getElem?_getD, List.getElem?_eq_getElem h]; rfl
theorem okAll_snoc {zs : List Int} {z : Int} (h : okAll zs) (g : okS z) : okAll (zs ++ [z]) := by
  intro x hx
  rcases List.mem_append.1 hx with h' | h'
  · exact h x h'
  · obtain rfl : x = z := by simpa using h'
    exact g
theorem okAll_get {zs : List Int} (h : okAll zs) {i : Nat} (hi : i < zs.length) : okS (zs.getD i 0) := by
  rw [List.getD_eq_getElem?_getD, List.getElem?_eq_getElem hi]
  exact h _ (List.getElem_mem hi)
theorem sumI_le {zs : List Int} (h : okAll zs) : (zs.length : Int) ≤ sumI zs ∧ sumI zs ≤ 8 * zs.length := by
  obtain ⟨s, hs⟩ : ∃ s, s = zs.length := ⟨_, rfl⟩
  induction s generalizing zs with
  | zero => obtain rfl : zs = [] := List.length_eq_zero_iff.1 hs.symm; decide
  | succ s ih =>
    have e : zs = zs.take s ++ [zs.getD s 0] := by rw [← takeI_next (by omega), List.take_of_length_le (by omega)]
    have a := okAll_get h (i := s) (by omega)
    have l : (zs.take s).length = s := by rw [List.length_take]; omega
    have b := ih (zs := zs.take s) (fun x hx => h x (List.mem_of_mem_take hx)) l.symm
    rw [e, sumI_snoc, List.length_append, l]
    rw [l] at b
    unfold okS at a
    simp only [List.length_cons, List.length_nil]
    omega

/-- what is wanting to the full round, less one. -/
def flip (ds : List Nat) : List Nat := ds.map fun d => 255 - d
theorem flip_len (ds : List Nat) : (flip ds).length = ds.length := List.length_map _
theorem flip_byt (ds : List Nat) : Byt (flip ds) := by
  intro d hd
  obtain ⟨x, _, rfl⟩ := List.mem_map.1 hd
  omega
theorem flip_num {ds : List Nat} (h : Byt ds) : numN (flip ds) + numN ds + 1 = 256 ^ ds.length := by
  obtain ⟨s, hs⟩ : ∃ s, s = ds.length := ⟨_, rfl⟩
  induction s generalizing ds with
  | zero => obtain rfl : ds = [] := List.length_eq_zero_iff.1 hs.symm; rfl
  | succ s ih =>
    obtain ⟨a, d, rfl, ha⟩ := snoc_of hs.symm
    have h1 := ih (fun x hx => h x (List.mem_append_left _ hx)) ha.symm
    have h2 : d < 256 := h d (by simp)
    have e : flip (a ++ [d]) = flip a ++ [255 - d] := by unfold flip; rw [List.map_append]; rfl
    rw [e, numN_snoc, numN_snoc, List.length_append, Nat.pow_add]
    show _ = _ * 256 ^ 1
    omega
theorem flip_dig {n s : Nat} (h : n < 256 ^ s) : numN (flip (digN n s)) = 256 ^ s - 1 - n := by
  have a := flip_num (digN_byt n s)
  rw [num_dig, digN_len, Nat.mod_eq_of_lt h] at a
  omega
theorem flip_get (ds : List Nat) (i : Nat) (h : i < ds.length) : (flip ds).getD i 0 = 255 - ds.getD i 0 := by
  unfold flip
  rw [List.getD_eq_getElem?_getD, List.getElem?_map, List.getElem?_eq_getElem h, List.getD_eq_getElem?_getD, List.getElem?_eq_getElem h]; rfl
theorem pow_split (s : Nat) (h : 1 ≤ s) : 256 ^ s = 256 * 256 ^ (s - 1) := by
  obtain ⟨t, rfl⟩ : ∃ t, s = t + 1 := ⟨s - 1, by omega⟩
  rw [Nat.add_sub_cancel, Nat.pow_succ, Nat.mul_comm]
theorem pow_le8 (s : Nat) (h : s ≤ 8) : 256 ^ s ≤ 18446744073709551616 := Nat.pow_le_pow_right (n := 256) (by omega) h
theorem half_le8 (s : Nat) (h1 : 1 ≤ s) (h : s ≤ 8) : 128 * 256 ^ (s - 1) ≤ 9223372036854775808 := by
  have := Nat.pow_le_pow_right (n := 256) (by omega) (show s - 1 ≤ 7 by omega)
  have e : 256 ^ 7 = 72057594037927936 := rfl
  rw [e] at this
  omega
/-- the highest digit. -/
theorem top_dig (n s : Nat) (h1 : 1 ≤ s) (h : n < 256 ^ s) : (digN n s).getD 0 0 < 128 ↔ n < 128 * 256 ^ (s - 1) := by
  have p : 0 < 256 ^ (s - 1) := Nat.pow_pos (by omega)
  rw [dig_at n s 0 (by omega), Nat.sub_zero]
  have e : n / 256 ^ (s - 1) < 256 := by
    rw [Nat.div_lt_iff_lt_mul p]
    rw [pow_split s h1] at h
    exact h
  rw [Nat.mod_eq_of_lt e, Nat.div_lt_iff_lt_mul p]
def halfN (s : Nat) : Nat := 128 * 256 ^ (s - 1)
def sgV (n s : Nat) : Int := if n < halfN s then (n : Int) else (n : Int) - (256 ^ s : Nat)
def absM (n : Int) : Nat := if n < 0 then (-(n + 1)).toNat else n.toNat
def unV (n : Int) (s : Nat) : Nat := if n < 0 then ((256 ^ s : Nat) + n).toNat else n.toNat
theorem two_halves (s : Nat) (h : 1 ≤ s) : 256 ^ s = halfN s + halfN s := by unfold halfN; rw [pow_split s h]; omega

/-- rows: the first k numbers, each in its size. -/
def layT (zs : List Int) (xs : List Nat) : Nat → List Nat
  | 0 => []
  | k + 1 => layT zs xs k ++ digN (xs.getD k 0) (zs.getD k 0).toNat
theorem layT_succ (zs : List Int) (xs : List Nat) (k : Nat) : layT zs xs (k + 1) = layT zs xs k ++ digN (xs.getD k 0) (zs.getD k 0).toNat := rfl
def fitT (zs : List Int) (xs : List Nat) (k : Nat) : Prop := ∀ i, i < k → xs.getD i 0 < 256 ^ (zs.getD i 0).toNat
instance (zs : List Int) (xs : List Nat) (k : Nat) : Decidable (fitT zs xs k) := by unfold fitT; exact inferInstance
theorem layT_byt (zs : List Int) (xs : List Nat) (k : Nat) : Byt (layT zs xs k) := by
  induction k with
  | zero => intro d hd; simp [layT] at hd
  | succ k ih => exact byt_append ih (digN_byt _ _)
theorem layT_len (zs : List Int) (xs : List Nat) (k : Nat) (h : okAll zs) (hk : k ≤ zs.length) : ((layT zs xs k).length : Int) = sumI (zs.take k) := by
  induction k with
  | zero => rfl
  | succ k ih =>
    have o := okAll_get h (i := k) (by omega)
    unfold okS at o
    rw [layT_succ, List.length_append, digN_len, takeI_next (by omega), sumI_snoc, ← ih (by omega)]
    omega
theorem layT_le (zs : List Int) (xs : List Nat) (k : Nat) (h : okAll zs) (hk : k ≤ zs.length) : (layT zs xs k).length ≤ 8 * k := by
  have a := layT_len zs xs k h hk
  have b := sumI_le (zs := zs.take k) (fun z hz => h z (List.mem_of_mem_take hz))
  rw [List.length_take, Nat.min_eq_left hk] at b
  omega
/-- the numbers of a row, as they are taken. -/
def atT (zs : List Int) (k : Nat) : Nat := (sumI (zs.take k)).toNat
def takT (zs : List Int) (ds : List Nat) : Nat → List Nat
  | 0 => []
  | k + 1 => takT zs ds k ++ [numN ((ds.drop (atT zs k)).take (zs.getD k 0).toNat)]
theorem takT_len (zs : List Int) (ds : List Nat) (k : Nat) : (takT zs ds k).length = k := by
  induction k with
  | zero => rfl
  | succ k ih => show (_ ++ [_]).length = _; rw [List.length_append, ih]; rfl
theorem sumI_mono {zs : List Int} (h : okAll zs) {j k : Nat} (hj : j ≤ k) (hk : k ≤ zs.length) : sumI (zs.take j) ≤ sumI (zs.take k) ∧ 0 ≤ sumI (zs.take j) := by
  have p : ∀ i, i ≤ zs.length → 0 ≤ sumI (zs.take i) := by
    intro i hi
    have b := sumI_le (zs := zs.take i) (fun z hz => h z (List.mem_of_mem_take hz))
    omega
  refine ⟨?_, p j (by omega)⟩
  induction k with
  | zero => obtain rfl : j = 0 := by omega
            exact Int.le_refl _
  | succ k ih =>
    by_cases e : j = k + 1
    · subst e; exact Int.le_refl _
    · have := ih (by omega) (by omega)
      have o := okAll_get h (i := k) (by omega)
      unfold okS at o
      rw [takeI_next (by omega), sumI_snoc]
      omega
theorem atT_succ {zs : List Int} (h : okAll zs) {k : Nat} (hk : k < zs.length) : atT zs (k + 1) = atT zs k + (zs.getD k 0).toNat := by
  unfold atT
  have o := okAll_get h (i := k) hk
  have p := (sumI_mono h (j := k) (k := k) (Nat.le_refl _) (by omega)).2
  unfold okS at o
  rw [takeI_next hk, sumI_snoc]
  omega
theorem atT_int {zs : List Int} (h : okAll zs) {k : Nat} (hk : k ≤ zs.length) : (atT zs k : Int) = sumI (zs.take k) := by
  unfold atT
  have p := (sumI_mono h (j := k) (k := k) (Nat.le_refl _) hk).2
  omega
theorem atT_mono {zs : List Int} (h : okAll zs) {j k : Nat} (hj : j ≤ k) (hk : k ≤ zs.length) : atT zs j ≤ atT zs k := by
  have a := (sumI_mono h hj hk).1
  unfold atT
  omega
theorem atT_all {zs : List Int} (h : okAll zs) : (atT zs zs.length : Int) = sumI zs := by
  rw [atT_int h (Nat.le_refl _), List.take_of_length_le (Nat.le_refl _)]
end Go.Proofs.OctM
/- Bytes as strings, opaque in a walk: made of a row that is held, compared, put together: for every stage. ('attribute [local go_sem ↓] strB_eq eqlS_eq addS_eq' in the text that walks.) -/
namespace Go.Proofs.Ytfnidehbibfclaa
open Go.ChangeShapes Go.WideShapes Go.ChangeAt Go.RowKit OctM

def strN (ds : List Nat) : ByteArray := strOfNums (ds.map fun d : Nat => (d : Int))
theorem strN_inj {a b : List Nat} (ha : Byt a) (hb : Byt b) (h : strN a = strN b) : a = b := by
  unfold strN strOfNums at h
  injection h with h
  have h' := congrArg Array.toList h
  simp only [List.map_map] at h'
  have key : ∀ {l : List Nat}, Byt l → (l.map ((fun n : Int => UInt8.ofNat n.toNat) ∘ fun d : Nat => (d : Int))).map UInt8.toNat = l := by
    intro l hl
    rw [List.map_map]
    conv => rhs; rw [← List.map_id l]
    refine List.map_congr_left fun d hd => ?_
    show (UInt8.ofNat ((d : Int).toNat)).toNat = d
    rw [Int.toNat_natCast, UInt8.toNat_ofNat']
    exact Nat.mod_eq_of_lt (hl d hd)
  rw [← key ha, ← key hb, h']
theorem strN_size (a : List Nat) : (strN a).size = a.length := by
  unfold strN
  rw [strOfNums_size, List.length_map]
theorem strN_append (a b : List Nat) : strN (a ++ b) = strN a ++ strN b := by
  unfold strN strOfNums
  apply ByteArray.ext
  simp

def strB (v : Value) : Sem Value := convert 31 9 v
theorem strB_eq (v : Value) : convert 31 9 v = strB v := rfl
theorem str_held {w : World} {p : Option Addr} {n c : Nat} {ds : List Nat} (h : Holds w p n c (valsN .u8 ds)) : (strB (.slice p n c)).run Try.prog w = .ok (.string (strN ds)) w := by
  have l := h.len
  rw [valsN_len] at l
  unfold strB
  rcases p with _ | a
  · have c0 := h.bare rfl
    have n0 : n = 0 := by have := h.cap; omega
    subst n0
    obtain rfl := List.length_eq_zero_iff.1 l
    rw [run_convert_bytes_nil w 31 5 Try.underlying31 Try.underlying5 0 c 9 Try.underlying9]
    rfl
  · have hl : (loadCells a n).run Try.prog w = .ok ((ds.map fun d : Nat => (d : Int)).map (Value.int .u8)).toArray w := by
      have := run_loadCells_list (P := Try.prog) w a ((ds.map fun d : Nat => (d : Int)).map (Value.int .u8)) (fun j v hj => by
        obtain ⟨a', e, hc⟩ := h.cell j v (by rw [← hj]; unfold valsN; rw [List.map_map]; rfl)
        cases e
        exact hc)
      simpa [l] using this
    rw [run_convert_bytes_string w 31 9 5 _ n c Try.underlying31 Try.underlying5 Try.underlying9, run_bytesToString w _ n c _ hl, foldl_push_bytes]
    simp [strN, strOfNums, ByteArray.empty, ByteArray.emptyWithCapacity]
    rfl

def eqlS (x y : Value) : Sem Value := binOp .eql 9 x y
theorem eqlS_eq (x y : Value) : binOp .eql 9 x y = eqlS x y := rfl
theorem eql_str (w : World) {a b : List Nat} (ha : Byt a) (hb : Byt b) : (eqlS (.string (strN a)) (.string (strN b))).run Try.prog w = .ok (.bool (decide (a = b))) w := by
  have e : ((strN a).toList == (strN b).toList) = decide (a = b) := by
    rw [Bool.eq_iff_iff, decide_eq_true_iff, beq_iff_eq, ByteArray.toList_eq, ByteArray.toList_eq]
    exact ⟨fun h => strN_inj ha hb (ByteArray.ext (Array.ext' h)), fun h => by rw [h]⟩
  unfold eqlS
  simp [go_sem]
  exact e
def addS (x y : Value) : Sem Value := binOp .add 9 x y
theorem addS_eq (x y : Value) : binOp .add 9 x y = addS x y := rfl
theorem add_str (w : World) (a b : List Nat) (h : a.length + b.length ≤ 1000000) : (addS (.string (strN a)) (.string (strN b))).run Try.prog w = .ok (.string (strN (a ++ b))) w := by
  unfold addS
  rw [strN_append]
  simp [go_sem]
  rw [strN_size, strN_size]
  omega
end Go.Proofs.Ytfnidehbibfclaa
/- Strings of bytes that differ, opaque in a walk: for every stage. ('attribute [local go_sem ↓] neqS_eq' in the text that walks.) -/
namespace Go.Proofs.Ytfnidehbibfclaa
open Go.ChangeShapes Go.WideShapes Go.ChangeAt Go.RowKit OctM

def neqS (x y : Value) : Sem Value := binOp .neq 9 x y
theorem neqS_eq (x y : Value) : binOp .neq 9 x y = neqS x y := rfl
theorem neq_str (w : World) {a b : List Nat} (ha : Byt a) (hb : Byt b) : (neqS (.string (strN a)) (.string (strN b))).run Try.prog w = .ok (.bool (!decide (a = b))) w := by
  have e : ((strN a).toList == (strN b).toList) = decide (a = b) := by
    rw [Bool.eq_iff_iff, decide_eq_true_iff, beq_iff_eq, ByteArray.toList_eq, ByteArray.toList_eq]
    exact ⟨fun h => strN_inj ha hb (ByteArray.ext (Array.ext' h)), fun h => by rw [h]⟩
  unfold neqS
  simp [go_sem]
  exact e
end Go.Proofs.Ytfnidehbibfclaa
/- An append of so many zero bytes onto a row of the call's own ('append(b, make([]byte, k)...)'), whether there is room or not: for every stage. -/
namespace Go.Proofs.Ytfnidehbibfclaa
open Go.ChangeShapes Go.WideShapes Go.ChangeAt Go.RowKit

theorem zeroCells_one (z : Value) (k : Nat) : (Builtin.zeroCells #[z] k).toList = List.replicate k z := by
  unfold Builtin.zeroCells
  apply List.ext_getElem?
  intro i
  rw [List.getElem?_replicate]
  by_cases h : i < k
  · simp [h, Nat.mod_one]
  · simp [h]

theorem run_append_zeros {P : Program} (w : World) (base : Nat) (t tn ty e : TypeId) (i : TypeInfo) (z : Value) (kn : IntKind) (ht : P.underlying t = some (.slice e)) (htn : P.underlying tn = some (.int kn)) (hi : P.info? e = some i) (hz : i.zero = some z)
    (hsize : i.size = 1) (hby : i.bytes = 1) (hzs : z.cells = #[z]) (h1 : z.oneCell' = true) (v : Value) (n : Nat) (xs : List Value) (hown : w.ownsRow base e 1 v n xs) (k : Nat)
    (hb : n + k ≤ 1000000) (hbase : base ≤ w.heap.size) :
    ∃ v' w', (Builtin.append_ #[t, tn] ty #[v, .int .i64 (k : Int)]).run P w = .ok v' w' ∧ w'.ownsRow base e 1 v' (n + k) (xs ++ List.replicate k z) ∧ w.grownBy w' v.ownBlock ∧ ((v' = v ∧ k = 0) ∨ ∃ g cap, v' = .slice (some ⟨g, 0, none⟩) (n + k) cap ∧ (v.ownBlock = some g ∨ g = w.heap.size) ∧ g < w'.heap.size) := by
  have hw : IntKind.i64.wrap (k : Int) = k := by rw [IntKind.wrap_i64]; omega
  have hneg : ¬ ((k : Int) < 0) := by omega
  have hbig : ¬ (281474976710656 < (k : Int)) := by omega
  have w0 : IntKind.i64.wrap 0 = 0 := by rw [IntKind.wrap_i64]; omega
  have hlen : (xs ++ List.replicate k z).length = (n + k) * 1 := by rw [List.length_append, hown.1, List.length_replicate]; omega
  have grown : ∀ (old : Nat), old < n + k → ∀ (row : Option Nat),
      (w.drew.alloc (.cells (xs.toArray ++ Builtin.zeroCells z.cells k ++ Builtin.zeroCells z.cells (grownCap w (n + k) old e - (n + k))) e)).ownsRow base e 1
        (.slice (some ⟨w.heap.size, 0, none⟩) (n + k) (grownCap w (n + k) old e)) (n + k) (xs ++ List.replicate k z) ∧
      w.grownBy (w.drew.alloc (.cells (xs.toArray ++ Builtin.zeroCells z.cells k ++ Builtin.zeroCells z.cells (grownCap w (n + k) old e - (n + k))) e)) row := by
    intro old ho row
    have hge := grownCap_ge w (n + k) old e
    have hcm : grownCap w (n + k) old e ≤ maxLen := grownCap_le_maxLen w (n + k) old e (by unfold maxLen; omega)
    refine ⟨⟨hlen, .inr ⟨w.heap.size, _, _, rfl, hbase, heap_alloc_new w.drew _, hge, hcm, ?_, ?_⟩⟩, ⟨rfl, rfl, rfl, by simp, fun _ hj _ => heap_alloc_old w.drew _ hj⟩⟩
    · simp only [Array.size_append, List.size_toArray, size_zeroCells, hzs, hown.1, List.size_toArray, List.length_cons, List.length_nil]
      omega
    · simp only [Array.toList_append, List.append_assoc, hzs, zeroCells_one]
      rw [← List.append_assoc, ← hlen]
      exact List.take_left
  rcases hown.2 with ⟨rfl, rfl⟩ | ⟨g, cap, cur, rfl, hbg, hg, hnc, hcm, hcs, htake⟩
  · have hx : xs = [] := List.eq_nil_of_length_eq_zero (by simpa using hown.1)
    subst hx
    by_cases hk : k = 0
    · subst hk
      refine ⟨.slice none 0 0, w, ?_, World.ownsRow_nil w base e 1, ⟨rfl, rfl, rfl, Nat.le_refl _, fun _ _ _ => rfl⟩, .inl ⟨rfl, rfl⟩⟩
      simp [Builtin.append_, run_underlying ht, run_underlying htn, sizeOf, typeInfo, hi, asInt, asIntOf, hby, w0]
    · have hr := Lib.run_append_grow_zeros (P := P) w t tn ty e i z .i64 kn ht htn hi hz none 0 0 [] (by rw [run_firstCells_none]) k (by omega) (by omega) (by omega) (by omega) (by rw [hby]; omega) (by rw [hby]; exact growslice_fits (by omega) (by omega))
      have hgr := grown 0 (by omega) (Value.ownBlock (.slice none 0 0))
      refine ⟨_, _, hr, hgr.1, hgr.2, .inr ⟨_, _, rfl, .inr rfl, ?_⟩⟩
      simp
  · by_cases hk : k = 0
    · subst hk
      refine ⟨_, w, ?_, by rw [List.replicate_zero, List.append_nil]; exact hown, ⟨rfl, rfl, rfl, Nat.le_refl _, fun _ _ _ => rfl⟩, .inl ⟨rfl, rfl⟩⟩
      simp [Builtin.append_, run_underlying ht, run_underlying htn, sizeOf, typeInfo, hi, asInt, asIntOf, hby, w0, hnc, storeCells]
    by_cases hroom : n + k ≤ cap
    · have hst := run_storeCells_at P g (n * 1) e (List.replicate k z) 0 cur w hg (by rw [List.length_replicate]; omega) (fun u hu => by rw [List.eq_of_mem_replicate hu]; exact h1)
      simp only [Nat.add_zero] at hst
      have hr : (Builtin.append_ #[t, tn] ty #[.slice (some ⟨g, 0, none⟩) n cap, .int .i64 (k : Int)]).run P w = .ok (.slice (some ⟨g, 0, none⟩) (n + k) cap) (w.setRow g (cur.toList.take (n * 1) ++ List.replicate k z ++ cur.toList.drop (n * 1 + (List.replicate k z).length)).toArray) := by
        simp [Builtin.append_, run_underlying ht, run_underlying htn, sizeOf, typeInfo, zeroValue, hi, hz, asInt, asIntOf, hsize, hby, hw, hneg, hbig, hk, hroom, Addr.add_lit, hzs, zeroCells_one]
        simp at hst
        rw [hst]
        rfl
      refine ⟨_, _, hr, ⟨hlen, .inr ⟨g, cap, _, rfl, hbg, setRow_heap w g cur _ e _ hg, hroom, hcm, ?_, ?_⟩⟩, ⟨rfl, rfl, rfl, by simp, fun j _ hj => setRow_other w g j _ (fun e => hj (by simp [Value.ownBlock, e]))⟩, .inr ⟨g, cap, rfl, .inl rfl, ?_⟩⟩
      · simp only [List.size_toArray, List.length_append, List.length_take, List.length_drop, Array.length_toList, List.length_replicate]
        omega
      · rw [htake, ← hlen]
        exact List.take_left
      · have := (Array.getElem?_eq_some_iff.1 hg).1
        simpa using this
    · have holds : ∀ j u, xs[j]? = some u → w.cell? ((⟨g, 0, none⟩ : Addr).add j) = some u := hown.cells (g := g) rfl
      have hf := run_firstCells_some (P := P) w.drew 1 n ⟨g, 0, none⟩ n cap xs hown.1 (by simpa using holds)
      have hr := Lib.run_append_grow_zeros (P := P) w t tn ty e i z .i64 kn ht htn hi hz (some ⟨g, 0, none⟩) n cap xs (by rw [hsize]; exact hf) k (by omega) (by omega) (by omega) (by omega) (by rw [hby]; omega) (by rw [hby]; exact growslice_fits (by omega) (by omega))
      have hgr := grown cap (by omega) (Value.ownBlock (.slice (some ⟨g, 0, none⟩) n cap))
      refine ⟨_, _, hr, hgr.1, hgr.2, .inr ⟨_, _, rfl, .inr rfl, ?_⟩⟩
      simp

section
variable {P : Program}
theorem wp_append_zeros (w : World) {o : Oper} {a : Act} {K : Act → World → Prop} {Q : Exit → Act → World → Prop} (s x : Operand) (t tn : TypeId)
    (ho : o.op = .call { callee := .builtin .append, args := #[s, x], argTypes := #[t, tn] }) (base : Nat) (e : TypeId) (i : TypeInfo) (z : Value) (kn : IntKind) (ht : P.underlying t = some (.slice e)) (htn : P.underlying tn = some (.int kn)) (hi : P.info? e = some i) (hz : i.zero = some z)
    (hsize : i.size = 1) (hby : i.bytes = 1) (hzs : z.cells = #[z]) (h1 : z.oneCell' = true) (v : Value) (n : Nat) (xs : List Value) (hs : a.eval s = v) (hown : w.ownsRow base e 1 v n xs) (k : Nat) (hx : a.eval x = .int .i64 (k : Int))
    (hb : n + k ≤ 1000000) (hbase : base ≤ w.heap.size)
    (h : ∀ v' w', w'.ownsRow base e 1 v' (n + k) (xs ++ List.replicate k z) → w.grownBy w' v.ownBlock → ((v' = v ∧ k = 0) ∨ ∃ g cap, v' = .slice (some ⟨g, 0, none⟩) (n + k) cap ∧ (v.ownBlock = some g ∨ g = w.heap.size) ∧ g < w'.heap.size) → K (a.put o.dst v') w') : o.wp P a w K Q := by
  obtain ⟨v', w', hr, h2, h3, h4⟩ := run_append_zeros (P := P) w base t tn o.type e i z kn ht htn hi hz hsize hby hzs h1 v n xs hown k hb hbase
  unfold Oper.wp execOp
  simp only [ho, resolve, invoke, builtin, Sem.run_bind, Sem.run_pure, Result.andThen_ok, List.map_toArray, List.map_cons, List.map_nil, hs, hx, hr]
  exact h v' w' h2 h3 h4

theorem wpList_append_zeros (w : World) {ops : Array Oper} {rest : List Oper} {o : Oper} {a : Act} {Q : Exit → Act → World → Prop} (hgd : o.guard = none) (s x : Operand) (t tn : TypeId)
    (ho : o.op = .call { callee := .builtin .append, args := #[s, x], argTypes := #[t, tn] }) (base : Nat) (e : TypeId) (i : TypeInfo) (z : Value) (kn : IntKind) (ht : P.underlying t = some (.slice e)) (htn : P.underlying tn = some (.int kn)) (hi : P.info? e = some i) (hz : i.zero = some z)
    (hsize : i.size = 1) (hby : i.bytes = 1) (hzs : z.cells = #[z]) (h1 : z.oneCell' = true) (v : Value) (n : Nat) (xs : List Value) (hs : a.eval s = v) (hown : w.ownsRow base e 1 v n xs) (k : Nat) (hx : a.eval x = .int .i64 (k : Int))
    (hb : n + k ≤ 1000000) (hbase : base ≤ w.heap.size)
    (h : ∀ v' w', w'.ownsRow base e 1 v' (n + k) (xs ++ List.replicate k z) → w.grownBy w' v.ownBlock → ((v' = v ∧ k = 0) ∨ ∃ g cap, v' = .slice (some ⟨g, 0, none⟩) (n + k) cap ∧ (v.ownBlock = some g ∨ g = w.heap.size) ∧ g < w'.heap.size) → wpList P ops Q rest (a.put o.dst v') w') : wpList P ops Q (o :: rest) a w :=
  wpList_plain hgd fun _ hK => wp_append_zeros w s x t tn ho base e i z kn ht htn hi hz hsize hby hzs h1 v n xs hs hown k hx hb hbase fun v' w' h2 h3 h4 => hK _ _ (h v' w' h2 h3 h4)

theorem step_append_zeros (w : World) {ops : Array Oper} {o : Oper} {a : Act} {K : Act → World → Prop} {Q : Exit → Act → World → Prop} {E : Prop} (hgd : o.guard = none) (s x : Operand) (t tn : TypeId)
    (ho : o.op = .call { callee := .builtin .append, args := #[s, x], argTypes := #[t, tn] }) (base : Nat) (e : TypeId) (i : TypeInfo) (z : Value) (kn : IntKind) (ht : P.underlying t = some (.slice e)) (htn : P.underlying tn = some (.int kn)) (hi : P.info? e = some i) (hz : i.zero = some z)
    (hsize : i.size = 1) (hby : i.bytes = 1) (hzs : z.cells = #[z]) (h1 : z.oneCell' = true) (v : Value) (n : Nat) (xs : List Value) (hs : a.eval s = v) (hown : w.ownsRow base e 1 v n xs) (k : Nat) (hx : a.eval x = .int .i64 (k : Int))
    (hb : n + k ≤ 1000000) (hbase : base ≤ w.heap.size)
    (h : ∀ v' w', w'.ownsRow base e 1 v' (n + k) (xs ++ List.replicate k z) → w.grownBy w' v.ownBlock → ((v' = v ∧ k = 0) ∨ ∃ g cap, v' = .slice (some ⟨g, 0, none⟩) (n + k) cap ∧ (v.ownBlock = some g ∨ g = w.heap.size) ∧ g < w'.heap.size) → K (a.put o.dst v') w') :
    if Region.wanted o (yielded ops a.tmps) = true then Oper.wp P o a w K Q else E := by
  have hw : Region.wanted o (yielded ops a.tmps) = true := by simp [Region.wanted, hgd]
  rw [if_pos hw]
  exact wp_append_zeros w s x t tn ho base e i z kn ht htn hi hz hsize hby hzs h1 v n xs hs hown k hx hb hbase h
end
end Go.Proofs.Ytfnidehbibfclaa
/- An append of a row that came in, whatever its pointer and length, onto a row of the call's own, inside a region that draws its order: for every stage. -/
namespace Go.Proofs.Ytfnidehbibfclaa
open Go.ChangeShapes Go.WideShapes Go.ChangeAt Go.RowKit

section
variable {P : Program}
theorem step_append_more (w : World) {ops : Array Oper} {o : Oper} {a : Act} {K : Act → World → Prop} {Q : Exit → Act → World → Prop} {E : Prop} (hw : Region.wanted o (yielded ops a.tmps) = true) (s x : Operand) (t : TypeId)
    (ho : o.op = .call { callee := .builtin .append, args := #[s, x], argTypes := #[t, t] })
    (base : Nat) (e : TypeId) (i : TypeInfo) (z : Value) (bytes : Nat) (ht : P.underlying t = some (.slice e)) (hi : P.info? e = some i) (hz : i.zero = some z) (hsize : i.size = 1) (hby : i.bytes = bytes) (hzs : z.cells.size = 1)
    (v : Value) (n : Nat) (xs : List Value) (hs : a.eval s = v) (hown : w.ownsRow base e 1 v n xs)
    (p : Option Addr) (m c : Nat) (news : List Value) (hx : a.eval x = .slice p m c) (hh : Holds w p m c news) (h1 : ∀ u ∈ news, u.oneCell' = true)
    (h63 : n + m ≤ maxLen) (hbytes : (n + m) * bytes ≤ 140737488355328) (hbase : base ≤ w.heap.size)
    (h : ∀ v' w', w'.ownsRow base e 1 v' (n + m) (xs ++ news) → w.grownBy w' v.ownBlock → Moved w v v' → K (a.put o.dst v') w') :
    if Region.wanted o (yielded ops a.tmps) = true then Oper.wp P o a w K Q else E := by
  rw [if_pos hw]
  rcases p with _ | ad
  · have c0 := hh.bare rfl
    have m0 : m = 0 := by have := hh.cap; omega
    subst c0 m0
    have n0 : news = [] := List.length_eq_zero_iff.1 hh.len
    subst n0
    have hrun := run_append_owned_none (P := P) (w := w) base t o.type e i 1 ht hi v n xs hown
    unfold Oper.wp
    simp [execOp, ho, resolve, invoke, builtin, hs, hx, hrun, Result.andThen]
    refine h v w ?_ (World.grownBy.refl w _) (.inl rfl)
    rw [List.append_nil]
    exact hown
  · obtain ⟨v', w', hrun, h2, h3, h4⟩ := run_append_more (P := P) w base t o.type e i z bytes ht hi hz hsize hby hzs v n xs hown ad m c news (by rw [Nat.mul_one]; exact hh.len) (fun j u hu => by
      obtain ⟨a', e', hc⟩ := hh.cell j u hu
      cases e'
      exact hc) h1 h63 hbytes hbase
    unfold Oper.wp
    simp [execOp, ho, resolve, invoke, builtin, hs, hx, hrun, Result.andThen]
    exact h v' w' h2 h3 h4
end
end Go.Proofs.Ytfnidehbibfclaa
/- Packets by value: their cells; how one is boxed, loaded, stored as a whole (opaque in a walk): for every stage. -/
namespace Go.Proofs.Ytfnidehbibfclaa
open Go.ChangeShapes Go.WideShapes Go.ChangeAt Go.RowKit

/-- A packet's head. -/
structure Hd where
  lp : Nat
  ve : Nat
  mo : Nat
  st : Nat
  po : Int
  pr : Int
  de : Nat
  di : Nat
  ri : Nat
  rf : Nat
  og : Nat
  rc : Nat
  xm : Nat
/-- All else of a packet. -/
structure Xt where
  p : Option Addr
  n : Nat
  c : Nat
  sg : Bool
  ky : Nat
  tg : Nat
def Xt.zero : Xt := ⟨none, 0, 0, false, 0, 0⟩
def Hd.zero : Hd := ⟨0, 0, 0, 0, 0, 0, 0, 0, 0, 0, 0, 0, 0⟩
structure Hd.wf (h : Hd) : Prop where
  lp : h.lp < 256
  ve : h.ve < 256
  mo : h.mo < 256
  st : h.st < 256
  po : -128 ≤ h.po ∧ h.po ≤ 127
  pr : -128 ≤ h.pr ∧ h.pr ≤ 127
  de : h.de < 4294967296
  di : h.di < 4294967296
  ri : h.ri < 4294967296
  rf : h.rf < 18446744073709551616
  og : h.og < 18446744073709551616
  rc : h.rc < 18446744073709551616
  xm : h.xm < 18446744073709551616
def pkC (h : Hd) (x : Xt) : Array Value := #[.int .u8 (h.lp : Nat), .int .u8 (h.ve : Nat), .int .u8 (h.mo : Nat), .int .u8 (h.st : Nat), .int .i8 h.po, .int .i8 h.pr, .int .u32 (h.de : Nat), .int .u32 (h.di : Nat), .int .u32 (h.ri : Nat), .int .u64 (h.rf : Nat), .int .u64 (h.og : Nat), .int .u64 (h.rc : Nat), .int .u64 (h.xm : Nat), .slice x.p x.n x.c, .bool x.sg, .int .u32 (x.ky : Nat), .int .u64 (x.tg : Nat)]
def pkV (h : Hd) (x : Xt) : Value := .agg (pkC h x)

theorem pk_size (h : Hd) (x : Xt) : (pkC h x).size = 17 := rfl
theorem pk_one (h : Hd) (x : Xt) : (pkC h x).all (·.oneCell') = true := by simp [pkC, Value.oneCell']
theorem size_pk : (Try.prog.info? 27).map (·.size) = some 17 := by kernel_rfl

/-- A whole packet is loaded, stored, boxed: under names that a walk does not open ('attribute [local go_sem ↓] loadP_eq storeP_eq boxP_eq allocP_eq' in the text that walks). -/
def loadP (a : Value) : Sem Value := Instr.loadAt 27 a
theorem loadP_eq (a : Value) : Instr.loadAt 27 a = loadP a := rfl
def storeP (a v : Value) : Sem Unit := Instr.storeAt 27 a v
theorem storeP_eq (a v : Value) : Instr.storeAt 27 a v = storeP a v := rfl
def boxP (v : Value) : Sem Value := Instr.box 27 v
theorem boxP_eq (v : Value) : Instr.box 27 v = boxP v := rfl

def allocP (v : Value) : Sem Value := Instr.alloc 27 true v
theorem allocP_eq (v : Value) : Instr.alloc 27 true v = allocP v := rfl
def zeroP : Sem Value := Instr.build 27 #[]
theorem zeroP_eq : Instr.build 27 #[] = zeroP := rfl
theorem zeroP_eq' (f : Nat × Operand → Nat × Value) : Instr.build 27 (Array.map f #[]) = zeroP := by rw [Array.map_empty]; rfl
theorem zero_pk (w : World) : zeroP.run Try.prog w = .ok (pkV Hd.zero Xt.zero) w := by
  unfold zeroP
  simp [go_sem, pkV, pkC, Hd.zero, Xt.zero]
theorem alloc_pk (w : World) : (allocP (.tuple #[])).run Try.prog w = .ok (.pointer (some ⟨w.heap.size, 0, none⟩)) (w.alloc (.cells (pkC Hd.zero Xt.zero) 27)) := by
  unfold allocP Instr.alloc
  simp [go_sem, pkC, Hd.zero, Xt.zero]
theorem box_pk (h : Hd) (x : Xt) (w : World) : (boxP (pkV h x)).run Try.prog w = .ok (.pointer (some ⟨w.heap.size, 0, none⟩)) (w.alloc (.cells (pkC h x) 27)) := by
  unfold boxP Instr.box
  simp [go_sem, pkV, Value.cells]

theorem load_pk {w : World} {N : Nat} {h : Hd} {x : Xt} (hg : w.heap[N]? = some (.cells (pkC h x) 27 (0, 0))) : (loadP (.pointer (some ⟨N, 0, none⟩))).run Try.prog w = .ok (pkV h x) w := by
  unfold loadP
  simp only [Instr.loadAt, Instr.sureAddr, Sem.run_bind, Sem.run_pure, Result.andThen]
  exact run_loadVar_row w N _ _ (pkC h x) (0, 0) _ hg Try.underlying27 rfl size_pk

theorem store_pk {w : World} {N : Nat} {old : Array Value} (h : Hd) (x : Xt) (hg : w.heap[N]? = some (.cells old 27 (0, 0))) (ho : old.size = 17) : (storeP (.pointer (some ⟨N, 0, none⟩)) (pkV h x)).run Try.prog w = .ok () (w.setRow N (pkC h x)) := by
  unfold storeP
  simp only [Instr.storeAt, Instr.sureAddr, Sem.run_bind, Sem.run_pure, Result.andThen]
  exact run_storeVar_row w N _ _ old (pkC h x) hg size_pk (by rw [ho]; rfl) (pk_one h x)
/-- into the block that was made last. -/
theorem store_new (w : World) (old : Array Value) (h : Hd) (x : Xt) (ho : old.size = 17) : (storeP (.pointer (some ⟨w.heap.size, 0, none⟩)) (pkV h x)).run Try.prog (w.alloc (.cells old 27)) = .ok () (w.alloc (.cells (pkC h x) 27)) := by
  rw [store_pk h x (heap_alloc_new w _) ho, World.setRow_alloc_new]

theorem setRow_same {w : World} {N : Nat} {c : Array Value} {t : TypeId} {fr : Nat × Nat} (hg : w.heap[N]? = some (.cells c t fr)) : w.setRow N c = w := by
  cases w with
  | mk heap tape drawn os output =>
    unfold World.setRow
    simp only at hg ⊢
    congr 1
    apply Array.ext_getElem?
    intro k
    rw [Array.getElem?_modify]
    by_cases e : N = k
    · subst e; rw [if_pos rfl, hg]; rfl
    · rw [if_neg e]
theorem store_same {w : World} {N : Nat} {h : Hd} {x : Xt} (hg : w.heap[N]? = some (.cells (pkC h x) 27 (0, 0))) : (storeP (.pointer (some ⟨N, 0, none⟩)) (pkV h x)).run Try.prog w = .ok () w := by
  rw [store_pk h x hg rfl, setRow_same hg]

theorem Below.setRow {B : Nat} {a w : World} (h : Below B a w) {g : Nat} (hg : B ≤ g) (cs : Array Value) : Below B a (w.setRow g cs) :=
  ⟨h.os, h.tape, h.output, by rw [setRow_size]; exact h.size, fun k hk => (setRow_other w g k cs (by omega)).trans (h.block k hk)⟩

theorem loadVar_pk {w : World} {N : Nat} {h : Hd} {x : Xt} (hg : w.heap[N]? = some (.cells (pkC h x) 27 (0, 0))) : (loadVar 27 ⟨N, 0, none⟩).run Try.prog w = .ok (pkV h x) w :=
  run_loadVar_row w N _ _ (pkC h x) (0, 0) _ hg Try.underlying27 rfl size_pk
/-- A packet and two more are told. -/
theorem results_pk3 {fn : Func} {p u v : Tmp} (h : fn.results = #[.cell p 27, .tmp u, .tmp v]) (tmps : Array Value) (w : World) (N : Nat) (hd : Hd) (x : Xt)
    (hp : tmps.getD p undef = .pointer (some ⟨N, 0, none⟩)) (hg : w.heap[N]? = some (.cells (pkC hd x) 27 (0, 0))) :
    (results fn tmps).run Try.prog w = .ok (.tuple #[pkV hd x, tmps.getD u undef, tmps.getD v undef]) w := by
  have hp' : tmps[p]?.getD undef = .pointer (some ⟨N, 0, none⟩) := by simpa using hp
  simp [results, h, hp', asAddr, loadVar_pk hg]
theorem results_pk1 {fn : Func} {p : Tmp} (h : fn.results = #[.cell p 27]) (tmps : Array Value) (w : World) (N : Nat) (hd : Hd) (x : Xt)
    (hp : tmps.getD p undef = .pointer (some ⟨N, 0, none⟩)) (hg : w.heap[N]? = some (.cells (pkC hd x) 27 (0, 0))) :
    (results fn tmps).run Try.prog w = .ok (pkV hd x) w := by
  have hp' : tmps[p]?.getD undef = .pointer (some ⟨N, 0, none⟩) := by simpa using hp
  simp [results, h, hp', asAddr, loadVar_pk hg]
end Go.Proofs.Ytfnidehbibfclaa
