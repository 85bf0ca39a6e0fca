/- MacTables: what both tables tell; a row of keys appended; worlds in which one block has turned. -/
import Derived.Test.YtkojgegfmhoomaaMacN
import Derived.Test.YtkojgegfmhoomaaAppendM
import Derived.Test.YtkojgegfmhoomaaMacT
namespace Go.Proofs.Ytkojgegfmhoomaa
open Go.ChangeShapes Go.WideShapes Go.ChangeAt Go.RowKit Go.Maps OctM

/-- Both are refused for the same, or both tell a table. -/
theorem both_new (ks : List Ky) :
    (∃ E : Int, E ≠ 0 ∧ 1 ≤ E ∧ E ≤ 9 ∧ (∀ w e w', PNewR w ks e w' → e = .returned (.tuple #[.pointer none, .int .i64 E]) ∧ Below w.heap.size w w') ∧ (∀ w e w', NewR w ks e w' → e = .returned (.tuple #[.pointer none, .int .i64 E]) ∧ Below w.heap.size w w')) ∨
    (¬ twiceK ks ∧ (∀ w e w', PNewR w ks e w' → PTab w ks e w') ∧ (∀ w e w', NewR w ks e w' → TabR w ks e w')) := by
  by_cases h0 : zeroK ks
  · refine .inl ⟨1, by decide, by decide, by decide, fun w e w' h => ?_, fun w e w' h => ?_⟩
    · rcases h with ⟨-, h, l⟩ | ⟨n, -⟩ | ⟨n, -⟩ | ⟨n, -⟩
      · exact ⟨h, l⟩
      all_goals exact absurd h0 n
    · rcases h with ⟨-, h, l⟩ | ⟨n, -⟩ | ⟨n, -⟩ | ⟨n, -⟩
      · exact ⟨h, l⟩
      all_goals exact absurd h0 n
  · by_cases h1 : twiceK ks
    · refine .inl ⟨9, by decide, by decide, by decide, fun w e w' h => ?_, fun w e w' h => ?_⟩
      · rcases h with ⟨n, -⟩ | ⟨-, -, h, l⟩ | ⟨-, n, -⟩ | ⟨-, n, -⟩
        · exact absurd n h0
        · exact ⟨h, l⟩
        all_goals exact absurd h1 n
      · rcases h with ⟨n, -⟩ | ⟨-, -, h, l⟩ | ⟨-, n, -⟩ | ⟨-, n, -⟩
        · exact absurd n h0
        · exact ⟨h, l⟩
        all_goals exact absurd h1 n
    · by_cases h2 : 16 < ks.length
      · refine .inl ⟨7, by decide, by decide, by decide, fun w e w' h => ?_, fun w e w' h => ?_⟩
        · rcases h with ⟨n, -⟩ | ⟨-, n, -⟩ | ⟨-, -, -, h, l⟩ | ⟨-, -, n, -⟩
          · exact absurd n h0
          · exact absurd n h1
          · exact ⟨h, l⟩
          · omega
        · rcases h with ⟨n, -⟩ | ⟨-, n, -⟩ | ⟨-, -, -, h, l⟩ | ⟨-, -, n, -⟩
          · exact absurd n h0
          · exact absurd n h1
          · exact ⟨h, l⟩
          · omega
      · refine .inr ⟨h1, fun w e w' h => ?_, fun w e w' h => ?_⟩
        · rcases h with ⟨n, -⟩ | ⟨-, n, -⟩ | ⟨-, -, n, -⟩ | ⟨-, -, -, h⟩
          · exact absurd n h0
          · exact absurd n h1
          · omega
          · exact h
        · rcases h with ⟨n, -⟩ | ⟨-, n, -⟩ | ⟨-, -, n, -⟩ | ⟨-, -, -, h⟩
          · exact absurd n h0
          · exact absurd n h1
          · omega
          · exact h

/-- A row of keys, appended. -/
theorem append_keys {w : World} {ops : Array Oper} {rest : List Oper} {o : Oper} {a : Act} {Q : Exit → Act → World → Prop} (hgd : o.guard = none) (s x : Operand)
    (ho : o.op = .call { callee := .builtin .append, args := #[s, x], argTypes := #[34, 34] }) (base : Nat)
    (v : Value) (n : Nat) (ks : List Ky) (hs : a.eval s = v) (hown : w.ownsRow base 25 3 v n (cellsK ks))
    (p : Option Addr) (m c : Nat) (ks' : List Ky) (hx : a.eval x = .slice p m c) (hh : HoldsK w p m c ks') (hb : n + m ≤ 100000) (hbase : base ≤ w.heap.size)
    (h : ∀ v' w', w'.ownsRow base 25 3 v' (n + m) (cellsK (ks ++ ks')) → w.grownBy w' v.ownBlock → wpList Try.prog ops Q rest (a.put o.dst v') w') : wpList Try.prog ops Q (o :: rest) a w := by
  obtain ⟨iK, hi, hz0, hz1, hz2⟩ := infoF_of infoK
  have ap : cellsK (ks ++ ks') = cellsK ks ++ cellsK ks' := by unfold cellsK; rw [List.flatMap_append]
  rcases p with _ | ad
  · have c0 := hh.bare rfl
    have m0 : m = 0 := by have := hh.cap; omega
    subst c0 m0
    have n0 : ks' = [] := List.length_eq_zero_iff.1 hh.len
    subst n0
    refine wpList_append_own_none hgd s x 34 ho base 25 iK 3 Try.underlying34 hi v n _ hs hown hx (h v w ?_ (World.grownBy.refl w _))
    rw [List.append_nil]
    exact hown
  · refine wpList_append_own w hgd s x 34 ho base 25 iK _ 3 24 Try.underlying34 hi hz0 hz1 hz2 rfl (by decide) v n (cellsK ks) hs hown ad m c (cellsK ks') hx (by rw [cellsK_len, hh.len]) (fun j u hu => ?_) (cellsK_one ks') (by unfold maxLen; omega) (by omega) hbase (fun v' w' o g _ => h v' w' (by rw [ap]; exact o) g)
    obtain ⟨i, k, hk, hc⟩ := cellsK_at ks' j u hu
    obtain ⟨a', ea, c1, c2, c3⟩ := hh.cell i k hk
    cases ea
    rcases hc with ⟨e, eu⟩ | ⟨e, eu⟩ | ⟨e, eu⟩
    · rw [e, eu]; exact c1
    · rw [e, eu]; exact c2
    · rw [e, eu]; exact c3

/-- Where the call's own row of keys lies: nowhere, or in a block of its own. -/
theorem own_where {w : World} {B : Nat} {v : Value} {n : Nat} {vs : List Value} (h : w.ownsRow B 25 3 v n vs) :
    (v = .slice none 0 0 ∧ n = 0) ∨ ∃ g c cur, v = .slice (some ⟨g, 0, none⟩) n c ∧ B ≤ g ∧ w.heap[g]? = some (.cells cur 25 (0, 0)) ∧ n * 3 ≤ cur.size := by
  have hl := h.1
  rcases h.2 with ⟨rfl, rfl⟩ | ⟨g, cap, cur, rfl, hb, hg, h1, h2, h3, h4⟩
  · left
    exact ⟨rfl, by simp at hl; omega⟩
  · right
    refine ⟨g, cap, cur, rfl, hb, hg, ?_⟩
    rw [h3]
    exact Nat.mul_le_mul_right 3 h1
theorem holdsK_only {B : Nat} {W W' : World} {p : Option Addr} {n c : Nat} {ks : List Ky} (h : HoldsK W p n c ks) (o : OnlyB B W W') (ap : 0 < n → ∀ a, p = some a → a.block ≠ B) : HoldsK W' p n c ks := by
  refine ⟨h.len, h.cap, h.max, h.bare, fun i u hu => ?_⟩
  obtain ⟨a, ha, c1, c2, c3⟩ := h.cell i u hu
  have bl : ∀ j, (a.add j).block = a.block := fun j => add_block a j
  have kp := o.keep a.block (ap (by have := (List.getElem?_eq_some_iff.1 hu).1; have := h.len; omega) a ha)
  refine ⟨a, ha, ?_, ?_, ?_⟩
  · exact (World.cell?_of_block (by rw [bl]; exact kp)).trans c1
  · exact (World.cell?_of_block (by rw [bl]; exact kp)).trans c2
  · exact (World.cell?_of_block (by rw [bl]; exact kp)).trans c3
theorem tabAt_only {B : Nat} {W W' : World} {T b n : Nat} {D : DataW Unit} {ks : List Ky} (h1 : W.heap[T]? = some (.cells #[.map (some b)] 68 (0, 0))) (h2 : W.ownsMap Try.prog 22 keyR b n D) (h3 : TabD D ks) (nt : ¬ twiceK ks)
    (o : OnlyB B W W') (n1 : T ≠ B) (n2 : b ≠ B) : TabAt W' T ks := by
  obtain ⟨es, clock, hes, r⟩ := h2
  exact ⟨⟨b, n, D, by rw [o.keep _ n1]; exact h1, ⟨es, clock, by rw [o.keep _ n2]; exact hes, r⟩, h3⟩, nt⟩
theorem infoU : (Try.prog.info? 22).map (fun i => (i.zero, i.size, i.bytes)) = some (some (.int .u32 0), 1, 4) := by kernel_rfl
theorem two_news (w : World) (a b : Obj) : ((w.alloc a).alloc b).heap[w.heap.size + 1]? = some b := by
  have s1 : (w.alloc a).heap.size = w.heap.size + 1 := by simp
  rw [← s1]
  exact heap_alloc_new _ b
theorem two_olds (w : World) (a b : Obj) : ((w.alloc a).alloc b).heap[w.heap.size]? = some a := by
  have l : Below (w.alloc a).heap.size (w.alloc a) ((w.alloc a).alloc b) := (Below.refl _ _).alloc (Nat.le_refl _) b
  rw [l.block _ (by simp)]
  exact heap_alloc_new w a
/-- The numbers that are asked for. -/
def askN (id : Nat) (ks : List Ky) : List Nat := [id, 0, 7, 4294967295] ++ ks.map (·.id)
theorem askN_len (id : Nat) (ks : List Ky) : (askN id ks).length = 4 + ks.length := by unfold askN; rw [List.length_append, List.length_map]; rfl
theorem askN_next (id : Nat) {ks : List Ky} {i : Nat} {k : Ky} (h : ks[i]? = some k) : askN id (ks.take (i + 1)) = askN id (ks.take i) ++ [k.id] := by
  obtain ⟨h1, rfl⟩ := List.getElem?_eq_some_iff.1 h
  unfold askN
  rw [List.take_succ_eq_append_getElem h1, List.map_append, List.append_assoc]
  rfl
theorem askN_lt {id : Nat} {ks : List Ky} (hid : id < 4294967296) (hk : ∀ k ∈ ks, KeyOk k) : ∀ x ∈ askN id ks, x < 4294967296 := fun x hx => by
  unfold askN at hx
  rcases List.mem_append.1 hx with h | h
  · simp only [List.mem_cons, List.not_mem_nil, or_false] at h
    rcases h with rfl | rfl | rfl | rfl
    · exact hid
    all_goals decide
  · obtain ⟨k, hk', rfl⟩ := List.mem_map.1 h
    exact (hk k hk').1
/-- The document's table lies behind a pointer. -/
def RefAt (w : World) (T : Nat) (ks : List Ky) : Prop := ∃ p c, w.heap[T]? = some (.cells #[.slice p ks.length c] 70 (0, 0)) ∧ HoldsK w p ks.length c ks
theorem RefAt.below {w w' : World} {T : Nat} {ks : List Ky} (h : RefAt w T ks) (hb : Below w.heap.size w w') : RefAt w' T ks := by
  obtain ⟨p, c, h1, h2⟩ := h
  exact ⟨p, c, by rw [hb.block _ (Array.getElem?_eq_some_iff.1 h1).1]; exact h1, h2.below hb⟩
/-- The block in which the first row of keys lies (or none that is there), and what lies elsewhere. -/
structure MineB (w3 : World) (B m : Nat) (p1 : Option Addr) (T T' : Nat) (ks : List Ky) (g : Nat) : Prop where
  base : B ≤ g
  mine : m = 0 ∨ p1 = some ⟨g, 0, none⟩ ∧ ∃ cur, w3.heap[g]? = some (.cells cur 25 (0, 0)) ∧ m * 3 ≤ cur.size
  tab : ∀ W', OnlyB g w3 W' → TabAt W' T ks
  ref : ∀ W', OnlyB g w3 W' → RefAt W' T' ks
theorem mine_block {B : Nat} {w1 w2 w3 : World} {p1 : Option Addr} {m c1 : Nat} {ks : List Ky} {T b nD T' c3 : Nat} {D : DataW Unit} {p3 : Option Addr} (lm : ks.length = m) (hB : B ≤ w1.heap.size)
    (ow : (Value.slice p1 m c1 = Value.slice none 0 0 ∧ m = 0) ∨ ∃ g c cur, Value.slice p1 m c1 = Value.slice (some ⟨g, 0, none⟩) m c ∧ B ≤ g ∧ w1.heap[g]? = some (.cells cur 25 (0, 0)) ∧ m * 3 ≤ cur.size)
    (l2 : Below w1.heap.size w1 w2) (hT : w2.heap[T]? = some (.cells #[.map (some b)] 68 (0, 0))) (hD : w2.ownsMap Try.prog 22 keyR b nD D) (tD : TabD D ks) (nt : ¬ twiceK ks) (bT : w1.heap.size ≤ T) (bb : w1.heap.size ≤ b)
    (l3 : Below w2.heap.size w2 w3) (hR : w3.heap[T']? = some (.cells #[.slice p3 ks.length c3] 70 (0, 0))) (hK : HoldsK w3 p3 ks.length c3 ks) (bR : w2.heap.size ≤ T') (bp : ∀ a, p3 = some a → w2.heap.size ≤ a.block) :
    ∃ g, MineB w3 B m p1 T T' ks g := by
  have sT := (Array.getElem?_eq_some_iff.1 hT).1
  have sb := hD.lt
  have s12 := l2.size
  have s23 := l3.size
  have sR := (Array.getElem?_eq_some_iff.1 hR).1
  have hT3 : w3.heap[T]? = some (.cells #[.map (some b)] 68 (0, 0)) := by rw [l3.block _ sT]; exact hT
  have hD3 := ownsMap_below hD l3
  have sP : 0 < ks.length → ∀ a, p3 = some a → a.block < w3.heap.size := fun h a ha => by
    obtain ⟨a', k, ea, -, c0, -⟩ := hK.at h
    rw [ha] at ea
    cases ea
    have := World.block_lt_of_cell? w3 _ c0
    rwa [add_block] at this
  rcases ow with ⟨-, m0⟩ | ⟨g, c, cur, e, hg, hc, hs⟩
  · refine ⟨w3.heap.size, by omega, .inl m0, fun W' o => tabAt_only hT3 hD3 tD nt o (by omega) (by omega), fun W' o => ⟨p3, c3, by rw [o.keep _ (by omega)]; exact hR, holdsK_only hK o (fun h a ha => by have := sP h a ha; omega)⟩⟩
  · have sg := (Array.getElem?_eq_some_iff.1 hc).1
    injection e with e _ _
    refine ⟨g, hg, .inr ⟨e, cur, ?_, hs⟩, fun W' o => tabAt_only hT3 hD3 tD nt o (by omega) (by omega), fun W' o => ⟨p3, c3, by rw [o.keep _ (by omega)]; exact hR, holdsK_only hK o (fun _ a ha => by have := bp a ha; omega)⟩⟩
    rw [l3.block _ (by omega), l2.block _ sg]
    exact hc
end Go.Proofs.Ytkojgegfmhoomaa
