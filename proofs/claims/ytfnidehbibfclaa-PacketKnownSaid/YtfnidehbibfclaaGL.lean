/- Texts of earlier layers, laid together: XMacE XMacF XMacG XMacH. -/
import Derived.Test.YtfnidehbibfclaaGJ
import Derived.Test.YtfnidehbibfclaaGA
import Derived.Deep.AppendLies
import Derived.Deep.QuietTactic
import Derived.BigQuiet
import Derived.OneCell
import Derived.Laws.AppendOwn
import Derived.Laws.AppendOwnNone
set_option maxRecDepth 100000
/- Slices of slices of bytes; the document's own Join (layer 6). -/
namespace Go.Proofs.Ytfnidehbibfclaa
open Go.ChangeShapes Go.WideShapes Go.ChangeAt Go.RowKit OctM

/-- A part as it lies: where its bytes lie, its bytes. -/
structure Prt where
  p : Option Addr
  n : Nat
  c : Nat
  ds : List Nat
structure HoldsP (w : World) (p : Option Addr) (n c : Nat) (ps : List Prt) : Prop where
  len : ps.length = n
  cap : n ≤ c
  max : c ≤ maxLen
  bare : p = none → c = 0
  cell : ∀ i q, ps[i]? = some q → ∃ a, p = some a ∧ w.cell? (a.add i) = some (.slice q.p q.n q.c) ∧ Holds w q.p q.n q.c (valsN .u8 q.ds)
theorem HoldsP.below {w w' : World} {p : Option Addr} {n c : Nat} {ps : List Prt} (h : HoldsP w p n c ps) (hb : Below w.heap.size w w') : HoldsP w' p n c ps := by
  refine ⟨h.len, h.cap, h.max, h.bare, fun i f hf => ?_⟩
  obtain ⟨a, ha, c1, hh⟩ := h.cell i f hf
  exact ⟨a, ha, (hb.cell (World.block_lt_of_cell? w _ c1)).trans c1, hh.below hb⟩
theorem HoldsP.front {w : World} {p : Option Addr} {n c k : Nat} {ps : List Prt} (h : HoldsP w p n c ps) (hk : k ≤ n) : HoldsP w p k c (ps.take k) :=
  ⟨by rw [List.length_take, h.len]; omega, Nat.le_trans hk h.cap, h.max, h.bare, fun i f hf => by
    have il : i < k := by
      have := (List.getElem?_eq_some_iff.1 hf).1
      rw [List.length_take] at this
      omega
    rw [List.getElem?_take, if_pos il] at hf
    exact h.cell i f hf⟩
theorem HoldsP.at {w : World} {p : Option Addr} {n c : Nat} {ps : List Prt} (h : HoldsP w p n c ps) {i : Nat} (hi : i < n) : ∃ a q, p = some a ∧ ps[i]? = some q ∧ w.cell? (a.add i) = some (.slice q.p q.n q.c) ∧ Holds w q.p q.n q.c (valsN .u8 q.ds) := by
  have hf : ps[i]? = some (ps[i]'(by rw [h.len]; exact hi)) := List.getElem?_eq_getElem _
  obtain ⟨a, ha, c1, hh⟩ := h.cell i _ hf
  exact ⟨a, _, ha, hf, c1, hh⟩
def joinP (ps : List Prt) : List Nat := ps.flatMap (·.ds)
def totalP (ps : List Prt) : Nat := (ps.map (·.n)).sum
theorem joinP_snoc (ps : List Prt) (q : Prt) : joinP (ps ++ [q]) = joinP ps ++ q.ds := by unfold joinP; rw [List.flatMap_append]; simp
theorem totalP_take (ps : List Prt) (k : Nat) : totalP (ps.take k) ≤ totalP ps := by
  unfold totalP
  rw [List.map_take]
  conv => rhs; rw [← List.take_append_drop k (ps.map (·.n)), List.sum_append]
  exact Nat.le_add_right _ _
theorem joinP_len {ps : List Prt} (h : ∀ q ∈ ps, q.ds.length = q.n) : (joinP ps).length = totalP ps := by
  induction ps with
  | nil => rfl
  | cons q ps ih =>
    have a := h q (List.mem_cons.2 (.inl rfl))
    have b := ih fun x hx => h x (List.mem_cons.2 (.inr hx))
    unfold joinP totalP at *
    rw [List.flatMap_cons, List.length_append, List.map_cons, List.sum_cons, a, b]
theorem joinP_byt {ps : List Prt} (h : ∀ q ∈ ps, Byt q.ds) : Byt (joinP ps) := fun d hd => by
  unfold joinP at hd
  obtain ⟨q, hq, hd⟩ := List.mem_flatMap.1 hd
  exact h q hq d hd
theorem HoldsP.lens {w : World} {p : Option Addr} {n c : Nat} {ps : List Prt} (h : HoldsP w p n c ps) : ∀ q ∈ ps, q.ds.length = q.n := fun q hq => by
  obtain ⟨i, hi, e⟩ := List.getElem_of_mem hq
  obtain ⟨a, _, _, hh⟩ := h.cell i q (by rw [List.getElem?_eq_getElem hi, e])
  have := hh.len
  rwa [valsN_len] at this

theorem infoE_of {o : Option TypeInfo} {z : Option Value} {s b : Nat} (h : o.map (fun i => (i.zero, i.size, i.bytes)) = some (z, s, b)) : ∃ i, o = some i ∧ i.zero = z ∧ i.size = s ∧ i.bytes = b := by
  obtain ⟨i, hi, h⟩ := Option.map_eq_some_iff.1 h
  simp only [Prod.mk.injEq] at h
  exact ⟨i, hi, h.1, h.2.1, h.2.2⟩
theorem info8e : (Try.prog.info? 5).map (fun i => (i.zero, i.size, i.bytes)) = some (some (.int .u8 0), 1, 1) := by kernel_rfl

def JoinP (w : World) (ds : List Nat) (e : Ending) (w' : World) : Prop := ∃ v, e = .returned v ∧ w'.ownsRow w.heap.size 5 1 v ds.length (valsN .u8 ds) ∧ Below w.heap.size w w'

end Go.Proofs.Ytfnidehbibfclaa
/- Rows of keys (a struct of three integers); the document's own table of keys (layer 6): made. -/
namespace Go.Proofs.Ytfnidehbibfclaa
open Go.ChangeShapes Go.WideShapes Go.ChangeAt Go.RowKit OctM

structure Ky where
  id : Nat
  a : Nat
  b : Nat
deriving DecidableEq
structure HoldsK (w : World) (p : Option Addr) (n c : Nat) (ks : List Ky) : Prop where
  len : ks.length = n
  cap : n ≤ c
  max : c ≤ maxLen
  bare : p = none → c = 0
  cell : ∀ i k, ks[i]? = some k → ∃ a, p = some a ∧ w.cell? (a.add (i * 3)) = some (.int .u32 (k.id : Nat)) ∧ w.cell? (a.add (i * 3 + 1)) = some (.int .u64 (k.a : Nat)) ∧ w.cell? (a.add (i * 3 + 2)) = some (.int .u64 (k.b : Nat))
theorem HoldsK.below {w w' : World} {p : Option Addr} {n c : Nat} {ks : List Ky} (h : HoldsK w p n c ks) (hb : Below w.heap.size w w') : HoldsK w' p n c ks := by
  refine ⟨h.len, h.cap, h.max, h.bare, fun i f hf => ?_⟩
  obtain ⟨a, ha, c1, c2, c3⟩ := h.cell i f hf
  exact ⟨a, ha, (hb.cell (World.block_lt_of_cell? w _ c1)).trans c1, (hb.cell (World.block_lt_of_cell? w _ c2)).trans c2, (hb.cell (World.block_lt_of_cell? w _ c3)).trans c3⟩
theorem HoldsK.front {w : World} {p : Option Addr} {n c k : Nat} {ks : List Ky} (h : HoldsK w p n c ks) (hk : k ≤ n) : HoldsK w p k c (ks.take k) :=
  ⟨by rw [List.length_take, h.len]; omega, Nat.le_trans hk h.cap, h.max, h.bare, fun i f hf => by
    have il : i < k := by
      have := (List.getElem?_eq_some_iff.1 hf).1
      rw [List.length_take] at this
      omega
    rw [List.getElem?_take, if_pos il] at hf
    exact h.cell i f hf⟩
theorem key_next (a : Addr) (x : Nat) : (⟨(a.add x).block, (a.add x).off + 1, none⟩ : Addr) = a.add (x + 1) ∧ (⟨(a.add x).block, (a.add x).off + 2, none⟩ : Addr) = a.add (x + 2) := by
  unfold Addr.add
  by_cases h : x = 0
  · subst h; simp
  · rw [if_neg h, if_neg (by omega), if_neg (by omega)]
    simp [Nat.add_assoc]
/-- A key at its place, in the walk's own words. -/
theorem HoldsK.at {w : World} {p : Option Addr} {n c : Nat} {ks : List Ky} (h : HoldsK w p n c ks) {i : Nat} (hi : i < n) : ∃ a k, p = some a ∧ ks[i]? = some k ∧ w.cell? (a.add (i * 3)) = some (.int .u32 (k.id : Nat)) ∧ w.cell? ⟨(a.add (i * 3)).block, (a.add (i * 3)).off + 1, none⟩ = some (.int .u64 (k.a : Nat)) ∧ w.cell? ⟨(a.add (i * 3)).block, (a.add (i * 3)).off + 2, none⟩ = some (.int .u64 (k.b : Nat)) := by
  have hf : ks[i]? = some (ks[i]'(by rw [h.len]; exact hi)) := List.getElem?_eq_getElem _
  obtain ⟨a, ha, c1, c2, c3⟩ := h.cell i _ hf
  exact ⟨a, _, ha, hf, c1, by rw [(key_next a _).1]; exact c2, by rw [(key_next a _).2]; exact c3⟩
def cellsK (ks : List Ky) : List Value := ks.flatMap fun k => [.int .u32 (k.id : Nat), .int .u64 (k.a : Nat), .int .u64 (k.b : Nat)]
theorem cellsK_cons (k : Ky) (ks : List Ky) : cellsK (k :: ks) = .int .u32 (k.id : Nat) :: .int .u64 (k.a : Nat) :: .int .u64 (k.b : Nat) :: cellsK ks := by unfold cellsK; rw [List.flatMap_cons]; rfl
theorem cellsK_len (ks : List Ky) : (cellsK ks).length = ks.length * 3 := by
  induction ks with
  | nil => rfl
  | cons f fs ih => rw [cellsK_cons, List.length_cons, List.length_cons, List.length_cons, List.length_cons, ih]; omega
theorem cellsK_one (ks : List Ky) : ∀ u ∈ cellsK ks, u.oneCell' = true := by
  intro u hu
  unfold cellsK at hu
  obtain ⟨f, _, hf⟩ := List.mem_flatMap.1 hu
  simp only [List.mem_cons, List.not_mem_nil, or_false] at hf
  rcases hf with rfl | rfl | rfl <;> rfl
theorem cellsK_get : ∀ (ks : List Ky) (i : Nat) (k : Ky), ks[i]? = some k → (cellsK ks)[i * 3]? = some (.int .u32 (k.id : Nat)) ∧ (cellsK ks)[i * 3 + 1]? = some (.int .u64 (k.a : Nat)) ∧ (cellsK ks)[i * 3 + 2]? = some (.int .u64 (k.b : Nat))
  | [], i, f, h => by simp at h
  | g :: fs, 0, f, h => by
    have e : g = f := by simpa using h
    subst e
    rw [cellsK_cons]; exact ⟨rfl, rfl, rfl⟩
  | g :: fs, i + 1, f, h => by
    rw [cellsK_cons, show (i + 1) * 3 = i * 3 + 1 + 1 + 1 by omega]
    exact cellsK_get fs i f (by simpa using h)
theorem cellsK_at : ∀ (ks : List Ky) (j : Nat) (u : Value), (cellsK ks)[j]? = some u → ∃ i k, ks[i]? = some k ∧ ((j = i * 3 ∧ u = .int .u32 (k.id : Nat)) ∨ (j = i * 3 + 1 ∧ u = .int .u64 (k.a : Nat)) ∨ (j = i * 3 + 2 ∧ u = .int .u64 (k.b : Nat)))
  | [], j, u, h => by simp [cellsK] at h
  | f :: fs, j, u, h => by
    rw [cellsK_cons] at h
    rcases j with _ | _ | _ | j
    · exact ⟨0, f, rfl, .inl ⟨rfl, by injection h with h; exact h.symm⟩⟩
    · exact ⟨0, f, rfl, .inr (.inl ⟨rfl, by injection h with h; exact h.symm⟩)⟩
    · exact ⟨0, f, rfl, .inr (.inr ⟨rfl, by injection h with h; exact h.symm⟩)⟩
    · obtain ⟨i, g, hg, hh⟩ := cellsK_at fs j u h
      refine ⟨i + 1, g, hg, ?_⟩
      rcases hh with ⟨e, eu⟩ | ⟨e, eu⟩ | ⟨e, eu⟩
      · exact .inl ⟨by omega, eu⟩
      · exact .inr (.inl ⟨by omega, eu⟩)
      · exact .inr (.inr ⟨by omega, eu⟩)
/-- The call's own row of keys, as what may be read. -/
theorem ownK {w : World} {B : Nat} {T : TypeId} {v : Value} {n : Nat} {ks : List Ky} (h : w.ownsRow B T 3 v n (cellsK ks)) : ks.length = n ∧ ∃ p c, v = .slice p n c ∧ HoldsK w p n c ks ∧ ∀ a, p = some a → B ≤ a.block := by
  have hl := h.1
  rw [cellsK_len] at hl
  have ln : ks.length = n := by omega
  refine ⟨ln, ?_⟩
  have hc := h
  obtain ⟨-, ⟨rfl, rfl⟩ | ⟨g, cap, cur, rfl, hb, hg, h1, h2, h3, h4⟩⟩ := h
  · obtain rfl : ks = [] := List.length_eq_zero_iff.1 ln
    exact ⟨none, 0, rfl, ⟨rfl, Nat.le_refl _, Nat.zero_le _, fun _ => rfl, fun i q hq => by simp at hq⟩, fun a ha => by cases ha⟩
  · refine ⟨_, cap, rfl, ⟨ln, h1, h2, (fun e => by cases e), fun i f hf => ?_⟩, fun a ha => by cases ha; exact hb⟩
    obtain ⟨c1, c2, c3⟩ := cellsK_get ks i f hf
    exact ⟨_, rfl, World.ownsRow.cells hc (g := g) rfl _ _ c1, World.ownsRow.cells hc (g := g) rfl _ _ c2, World.ownsRow.cells hc (g := g) rfl _ _ c3⟩

/-- What a table of these keys is refused for. -/
def zeroK (ks : List Ky) : Prop := ∃ k ∈ ks, k.id = 0
def twiceK (ks : List Ky) : Prop := ∃ (i j : Nat) (k l : Ky), j < i ∧ ks[i]? = some k ∧ ks[j]? = some l ∧ l.id = k.id
/-- The first so many have numbers that are not 0. -/
def nzK (ks : List Ky) (n : Nat) : Prop := ∀ (i : Nat) (k : Ky), i < n → ks[i]? = some k → k.id ≠ 0
/-- The first so many have numbers of their own. -/
def onceK (ks : List Ky) (n : Nat) : Prop := ∀ (i j : Nat) (k l : Ky), i < n → j < i → ks[i]? = some k → ks[j]? = some l → l.id ≠ k.id
/-- Key i has another number than the first so many. -/
def notK (ks : List Ky) (i m : Nat) : Prop := ∀ (j : Nat) (k l : Ky), j < m → ks[i]? = some k → ks[j]? = some l → l.id ≠ k.id
theorem infoK : (Try.prog.info? 29).map (fun i => (i.zero, i.size, i.bytes)) = some (some (.agg #[.int .u32 0, .int .u64 0, .int .u64 0]), 3, 24) := by kernel_rfl
theorem infoF_of {o : Option TypeInfo} {z : Option Value} {s b : Nat} (h : o.map (fun i => (i.zero, i.size, i.bytes)) = some (z, s, b)) : ∃ i, o = some i ∧ i.zero = z ∧ i.size = s ∧ i.bytes = b := by
  obtain ⟨i, hi, h⟩ := Option.map_eq_some_iff.1 h
  simp only [Prod.mk.injEq] at h
  exact ⟨i, hi, h.1, h.2.1, h.2.2⟩

end Go.Proofs.Ytfnidehbibfclaa
/- The document's own table of keys (layer 6): asked. -/
namespace Go.Proofs.Ytfnidehbibfclaa
open Go.ChangeShapes Go.WideShapes Go.ChangeAt Go.RowKit OctM

def keyV (k : Ky) : Value := .agg #[.int .u32 (k.id : Nat), .int .u64 (k.a : Nat), .int .u64 (k.b : Nat)]
def findK (ks : List Ky) (id : Nat) : Option Ky := ks.find? fun k => k.id == id
/-- What Find tells. -/
def FindR (w : World) (ks : List Ky) (id : Nat) (e : Ending) (w' : World) : Prop :=
  e = .returned (.tuple #[keyV ((findK ks id).getD ⟨0, 0, 0⟩), .bool (findK ks id).isSome]) ∧ Below w.heap.size w w'

theorem sizeKey : (Try.prog.info? 29).map (·.size) = some 3 := by kernel_rfl
/-- A key and one more are told. -/
theorem results_key {fn : Func} {p u : Tmp} (h : fn.results = #[.cell p 29, .tmp u]) (tmps : Array Value) (w : World) (N : Nat) (k : Ky)
    (hp : tmps.getD p undef = .pointer (some ⟨N, 0, none⟩)) (hg : w.heap[N]? = some (.cells #[.int .u32 (k.id : Nat), .int .u64 (k.a : Nat), .int .u64 (k.b : Nat)] 29 (0, 0))) :
    (results fn tmps).run Try.prog w = .ok (.tuple #[keyV k, tmps.getD u undef]) w := by
  have hp' : tmps[p]?.getD undef = .pointer (some ⟨N, 0, none⟩) := by simpa using hp
  have hl : (loadVar 29 ⟨N, 0, none⟩).run Try.prog w = .ok (keyV k) w :=
    run_loadVar_row w N _ _ _ (0, 0) _ hg Try.underlying29 rfl sizeKey
  simp [results, h, hp', asAddr, hl]
theorem blk_key {w : World} {N : Nat} {x y z : Value} {T : TypeId} (h : w.heap[N]? = some (.cells #[x, y, z] T (0, 0))) (a b c : Value) :
    (((w.setCell ⟨N, 0, none⟩ a).setCell ⟨N, 1, none⟩ b).setCell ⟨N, 2, none⟩ c).heap[N]? = some (.cells #[a, b, c] T (0, 0)) := by
  have h1 : (w.setCell ⟨N, 0, none⟩ a).heap[N]? = some (.cells #[a, y, z] T (0, 0)) := blk_set h
  have h2 : ((w.setCell ⟨N, 0, none⟩ a).setCell ⟨N, 1, none⟩ b).heap[N]? = some (.cells #[a, b, z] T (0, 0)) := blk_set h1
  exact blk_set h2
/-- The first so many are not asked for. -/
def missK (ks : List Ky) (id n : Nat) : Prop := ∀ (j : Nat) (l : Ky), j < n → ks[j]? = some l → l.id ≠ id
theorem findK_none {ks : List Ky} {id : Nat} (h : missK ks id ks.length) : findK ks id = none := by
  unfold findK
  rw [List.find?_eq_none]
  intro k hk e
  obtain ⟨j, hj, ej⟩ := List.getElem_of_mem hk
  exact h j k hj (by rw [List.getElem?_eq_getElem hj, ej]) (by simpa using e)
theorem findK_some : ∀ {ks : List Ky} {id i : Nat} {k : Ky}, missK ks id i → ks[i]? = some k → k.id = id → findK ks id = some k
  | [], _, _, _, _, h, _ => by simp at h
  | f :: fs, id, 0, k, _, h, e => by
    have ef : f = k := by simpa using h
    subst ef
    unfold findK
    rw [List.find?_cons_of_pos (by simpa using e)]
  | f :: fs, id, i + 1, k, hm, h, e => by
    have h0 := hm 0 f (Nat.succ_pos _) rfl
    unfold findK
    rw [List.find?_cons_of_neg (by simpa using h0)]
    exact findK_some (ks := fs) (i := i) (fun j l hj hl => hm (j + 1) l (by omega) (by simpa using hl)) (by simpa using h) e

end Go.Proofs.Ytfnidehbibfclaa
/- Layer 6's laws: the chapter's key, the bytes 0, 1, 2, .. -/
namespace Go.Proofs.Ytfnidehbibfclaa
open Go.ChangeShapes Go.WideShapes Go.ChangeAt Go.RowKit OctM

/-- A key is told. -/
theorem results_key1 {fn : Func} {p : Tmp} (h : fn.results = #[.cell p 29]) (tmps : Array Value) (w : World) (N : Nat) (k : Ky)
    (hp : tmps.getD p undef = .pointer (some ⟨N, 0, none⟩)) (hg : w.heap[N]? = some (.cells #[.int .u32 (k.id : Nat), .int .u64 (k.a : Nat), .int .u64 (k.b : Nat)] 29 (0, 0))) :
    (results fn tmps).run Try.prog w = .ok (keyV k) w := by
  have hp' : tmps[p]?.getD undef = .pointer (some ⟨N, 0, none⟩) := by simpa using hp
  have hl : (loadVar 29 ⟨N, 0, none⟩).run Try.prog w = .ok (keyV k) w :=
    run_loadVar_row w N _ _ _ (0, 0) _ hg Try.underlying29 rfl sizeKey
  simp [results, h, hp', asAddr, hl]

theorem one6_new (w : World) (x : Value) (T : TypeId) : ∀ (j : Nat) (u : Value), [x][j]? = some u → (w.alloc (.cells #[x] T)).cell? ((⟨w.heap.size, 0, none⟩ : Addr).add j) = some u := by
  intro j u hu
  rcases j with _ | j
  · have e : x = u := by simpa using hu
    subst e
    have hadd : (⟨w.heap.size, 0, none⟩ : Addr).add 0 = ⟨w.heap.size, 0, none⟩ := by unfold Addr.add; split <;> simp_all
    rw [hadd, World.cell?_alloc_at _ _ _ _ rfl]
    rfl
  · simp at hu
theorem one6_cell (d : Nat) : ∀ u ∈ [Value.int .u8 (d : Int)], u.oneCell' = true := by
  intro u hu
  obtain rfl := List.mem_singleton.1 hu
  rfl
theorem holds_one (w : World) (d : Nat) : Holds (w.alloc (.cells #[.int .u8 (d : Int)] 5)) (some ⟨w.heap.size, 0, none⟩) 1 1 [.int .u8 (d : Int)] :=
  ⟨rfl, Nat.le_refl _, by decide, (fun e => by cases e), fun j u hu => ⟨_, rfl, one6_new w _ _ j u hu⟩⟩
/-- The chapter's key. -/
def kyC : Ky := ⟨1, 0x0706050403020100, 0x0f0e0d0c0b0a0908⟩
end Go.Proofs.Ytfnidehbibfclaa
