/- Slices of slices of bytes; the document's own Join (layer 6). -/
import Derived.Test.YtkojgegfmhoomaaMacM
import Derived.Test.YtkojgegfmhoomaaSlice
import Derived.Test.YtkojgegfmhoomaaAppendM
namespace Go.Proofs.Ytkojgegfmhoomaa
open Go.ChangeShapes Go.WideShapes Go.ChangeAt Go.RowKit OctM

/-- A part as it lies: where its bytes lie, its bytes. -/
structure Prt where
  p : Option Addr
  n : Nat
  c : Nat
  ds : List Nat
structure HoldsP (w : World) (p : Option Addr) (n c : Nat) (ps : List Prt) : Prop where
  len : ps.length = n
  cap : n ≤ c
  max : c ≤ maxLen
  bare : p = none → c = 0
  cell : ∀ i q, ps[i]? = some q → ∃ a, p = some a ∧ w.cell? (a.add i) = some (.slice q.p q.n q.c) ∧ Holds w q.p q.n q.c (valsN .u8 q.ds)
theorem HoldsP.below {w w' : World} {p : Option Addr} {n c : Nat} {ps : List Prt} (h : HoldsP w p n c ps) (hb : Below w.heap.size w w') : HoldsP w' p n c ps := by
  refine ⟨h.len, h.cap, h.max, h.bare, fun i f hf => ?_⟩
  obtain ⟨a, ha, c1, hh⟩ := h.cell i f hf
  exact ⟨a, ha, (hb.cell (World.block_lt_of_cell? w _ c1)).trans c1, hh.below hb⟩
theorem HoldsP.front {w : World} {p : Option Addr} {n c k : Nat} {ps : List Prt} (h : HoldsP w p n c ps) (hk : k ≤ n) : HoldsP w p k c (ps.take k) :=
  ⟨by rw [List.length_take, h.len]; omega, Nat.le_trans hk h.cap, h.max, h.bare, fun i f hf => by
    have il : i < k := by
      have := (List.getElem?_eq_some_iff.1 hf).1
      rw [List.length_take] at this
      omega
    rw [List.getElem?_take, if_pos il] at hf
    exact h.cell i f hf⟩
theorem HoldsP.at {w : World} {p : Option Addr} {n c : Nat} {ps : List Prt} (h : HoldsP w p n c ps) {i : Nat} (hi : i < n) : ∃ a q, p = some a ∧ ps[i]? = some q ∧ w.cell? (a.add i) = some (.slice q.p q.n q.c) ∧ Holds w q.p q.n q.c (valsN .u8 q.ds) := by
  have hf : ps[i]? = some (ps[i]'(by rw [h.len]; exact hi)) := List.getElem?_eq_getElem _
  obtain ⟨a, ha, c1, hh⟩ := h.cell i _ hf
  exact ⟨a, _, ha, hf, c1, hh⟩
def joinP (ps : List Prt) : List Nat := ps.flatMap (·.ds)
def totalP (ps : List Prt) : Nat := (ps.map (·.n)).sum
theorem joinP_snoc (ps : List Prt) (q : Prt) : joinP (ps ++ [q]) = joinP ps ++ q.ds := by unfold joinP; rw [List.flatMap_append]; simp
theorem totalP_take (ps : List Prt) (k : Nat) : totalP (ps.take k) ≤ totalP ps := by
  unfold totalP
  rw [List.map_take]
  conv => rhs; rw [← List.take_append_drop k (ps.map (·.n)), List.sum_append]
  exact Nat.le_add_right _ _
theorem joinP_len {ps : List Prt} (h : ∀ q ∈ ps, q.ds.length = q.n) : (joinP ps).length = totalP ps := by
  induction ps with
  | nil => rfl
  | cons q ps ih =>
    have a := h q (List.mem_cons.2 (.inl rfl))
    have b := ih fun x hx => h x (List.mem_cons.2 (.inr hx))
    unfold joinP totalP at *
    rw [List.flatMap_cons, List.length_append, List.map_cons, List.sum_cons, a, b]
theorem joinP_byt {ps : List Prt} (h : ∀ q ∈ ps, Byt q.ds) : Byt (joinP ps) := fun d hd => by
  unfold joinP at hd
  obtain ⟨q, hq, hd⟩ := List.mem_flatMap.1 hd
  exact h q hq d hd
theorem HoldsP.lens {w : World} {p : Option Addr} {n c : Nat} {ps : List Prt} (h : HoldsP w p n c ps) : ∀ q ∈ ps, q.ds.length = q.n := fun q hq => by
  obtain ⟨i, hi, e⟩ := List.getElem_of_mem hq
  obtain ⟨a, _, _, hh⟩ := h.cell i q (by rw [List.getElem?_eq_getElem hi, e])
  have := hh.len
  rwa [valsN_len] at this

theorem infoE_of {o : Option TypeInfo} {z : Option Value} {s b : Nat} (h : o.map (fun i => (i.zero, i.size, i.bytes)) = some (z, s, b)) : ∃ i, o = some i ∧ i.zero = z ∧ i.size = s ∧ i.bytes = b := by
  obtain ⟨i, hi, h⟩ := Option.map_eq_some_iff.1 h
  simp only [Prod.mk.injEq] at h
  exact ⟨i, hi, h.1, h.2.1, h.2.2⟩
theorem info8e : (Try.prog.info? 5).map (fun i => (i.zero, i.size, i.bytes)) = some (some (.int .u8 0), 1, 1) := by kernel_rfl

def JoinP (w : World) (ds : List Nat) (e : Ending) (w' : World) : Prop := ∃ v, e = .returned v ∧ w'.ownsRow w.heap.size 5 1 v ds.length (valsN .u8 ds) ∧ Below w.heap.size w w'

set_option maxRecDepth 100000 in
set_option maxHeartbeats 4000000 in
theorem rjoin6_any (w : World) (p : Option Addr) (n c : Nat) (ps : List Prt) (hp : HoldsP w p n c ps) (hn : n ≤ 100000) (ht : totalP ps ≤ 2000000) :
    Calls Try.prog 9 #[.slice p n c] w (JoinP w (joinP ps)) := by
  obtain ⟨i0, hi, hz0, hz1, hz2⟩ := infoE_of info8e
  have nb : (n : Int) ≤ 100000 := by omega
  have HP := Lib.hid hp
  have LN := Lib.hid hp.len
  have TT := Lib.hid ht
  have LS := Lib.hid hp.lens
  have HN := Lib.hid hn
  clear hp ht hn
  go_enter Try.func9, Try.ntmps9
  go_wp2_with fail
  go_loopw [3, 4] (fun v i wr => ∃ k : Nat, i = .int .i64 k ∧ Hid (k ≤ n) ∧ Hid (wr.ownsRow w.heap.size 5 1 v (joinP (ps.take k)).length (valsN .u8 (joinP (ps.take k)))) ∧ Hid (Below w.heap.size w wr)) (fun _ i _ => 200000 - (intOf i).toNat)
  case atStart => exact ⟨0, rfl, Nat.zero_le _, World.ownsRow_nil w _ _ 1, Below.refl _ _⟩
  case round =>
    obtain ⟨k, rfl, hk, own, low⟩ := hrel
    have kb : (k : Int) ≤ 100000 := by have := hk.out; have := HN.out; omega
    by_cases g : k < n
    · have g' : (k : Int) < (n : Int) := by omega
      have G : Hid (k + 1 ≤ n) := g
      obtain ⟨a, q, rfl, hq, c0, hh⟩ := (HP.out.below low.out).at g
      have e1 : ps.take (k + 1) = ps.take k ++ [q] := by
        obtain ⟨h1, rfl⟩ := List.getElem?_eq_some_iff.1 hq
        rw [List.take_succ_eq_append_getElem h1]
      have tot : (joinP (ps.take k)).length + q.n ≤ 2000000 := by
        have a := joinP_len (ps := ps.take (k + 1)) (fun x hx => LS.out x (List.mem_of_mem_take hx))
        have b := totalP_take ps (k + 1)
        rw [e1, joinP_snoc, List.length_append, LS.out q (List.mem_of_getElem? hq), ← e1] at a
        have := TT.out
        omega
      have NX : Hid (∀ (v' : Value) (w' : World), w'.ownsRow w.heap.size 5 1 v' ((joinP (ps.take k)).length + q.n) (valsN .u8 (joinP (ps.take k)) ++ valsN .u8 q.ds) → w'.ownsRow w.heap.size 5 1 v' (joinP (ps.take (k + 1))).length (valsN .u8 (joinP (ps.take (k + 1))))) := fun v' w' o => by
        rw [e1, joinP_snoc, List.length_append, LS.out q (List.mem_of_getElem? hq), valsN_append]
        exact o
      have BM : Hid ((joinP (ps.take k)).length + q.n ≤ maxLen) := by unfold Hid maxLen; omega
      have BY : Hid (((joinP (ps.take k)).length + q.n) * 1 ≤ 140737488355328) := by unfold Hid; omega
      have HH := Lib.hid hh
      have LOW := Lib.hid low.out
      have OW := Lib.hid own.out
      clear g hk low own hh hq e1 tot
      go_wp2_with (at_builtin; refine append_more rfl _ _ 28 rfl w.heap.size 5 i0 (.int .u8 0) 1 Try.underlying28 hi hz0 hz1 hz2 rfl _ (joinP (ps.take k)).length _ rfl OW.out q.p q.n q.c (valsN .u8 q.ds) rfl HH.out (valsN_one _ _) BM.out BY.out LOW.out.size ?_)
      intro v3 w3 o3 g3 _
      have O3 := Lib.hid (NX.out v3 w3 o3)
      have L3 : Hid (Below w.heap.size w w3) := LOW.out.grown g3 LOW.out.size (fun j hj => (World.ownsRow.lt OW.out j hj).1)
      clear o3 g3
      go_wp2
      go_roundw
      case rel => exact ⟨k + 1, by go_num, G, O3, L3⟩
      case measure => simp [intOf]; omega
    · have g' : (n : Int) ≤ (k : Int) := by omega
      have F : Hid (JoinP w (joinP ps) (.returned u3) wr) := by
        have e : ps.take k = ps := List.take_of_length_le (by rw [LN.out]; omega)
        have o := own.out
        rw [e] at o
        exact ⟨u3, rfl, o, low.out⟩
      clear g hk low own
      go_wp2
      go_ret
      exact F.out
end Go.Proofs.Ytkojgegfmhoomaa
