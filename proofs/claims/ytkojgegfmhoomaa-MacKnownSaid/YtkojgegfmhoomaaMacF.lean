/- Rows of keys (a struct of three integers); the document's own table of keys (layer 6): made. -/
import Derived.Test.YtkojgegfmhoomaaMacM
import Derived.Test.YtkojgegfmhoomaaSlice
import Derived.Deep.AppendLies
import Derived.Deep.QuietTactic
import Derived.BigQuiet
import Derived.OneCell
import Derived.Laws.AppendOwn
import Derived.Laws.AppendOwnNone
namespace Go.Proofs.Ytkojgegfmhoomaa
open Go.ChangeShapes Go.WideShapes Go.ChangeAt Go.RowKit OctM

structure Ky where
  id : Nat
  a : Nat
  b : Nat
deriving DecidableEq
structure HoldsK (w : World) (p : Option Addr) (n c : Nat) (ks : List Ky) : Prop where
  len : ks.length = n
  cap : n ≤ c
  max : c ≤ maxLen
  bare : p = none → c = 0
  cell : ∀ i k, ks[i]? = some k → ∃ a, p = some a ∧ w.cell? (a.add (i * 3)) = some (.int .u32 (k.id : Nat)) ∧ w.cell? (a.add (i * 3 + 1)) = some (.int .u64 (k.a : Nat)) ∧ w.cell? (a.add (i * 3 + 2)) = some (.int .u64 (k.b : Nat))
theorem HoldsK.below {w w' : World} {p : Option Addr} {n c : Nat} {ks : List Ky} (h : HoldsK w p n c ks) (hb : Below w.heap.size w w') : HoldsK w' p n c ks := by
  refine ⟨h.len, h.cap, h.max, h.bare, fun i f hf => ?_⟩
  obtain ⟨a, ha, c1, c2, c3⟩ := h.cell i f hf
  exact ⟨a, ha, (hb.cell (World.block_lt_of_cell? w _ c1)).trans c1, (hb.cell (World.block_lt_of_cell? w _ c2)).trans c2, (hb.cell (World.block_lt_of_cell? w _ c3)).trans c3⟩
theorem HoldsK.front {w : World} {p : Option Addr} {n c k : Nat} {ks : List Ky} (h : HoldsK w p n c ks) (hk : k ≤ n) : HoldsK w p k c (ks.take k) :=
  ⟨by rw [List.length_take, h.len]; omega, Nat.le_trans hk h.cap, h.max, h.bare, fun i f hf => by
    have il : i < k := by
      have := (List.getElem?_eq_some_iff.1 hf).1
      rw [List.length_take] at this
      omega
    rw [List.getElem?_take, if_pos il] at hf
    exact h.cell i f hf⟩
theorem key_next (a : Addr) (x : Nat) : (⟨(a.add x).block, (a.add x).off + 1, none⟩ : Addr) = a.add (x + 1) ∧ (⟨(a.add x).block, (a.add x).off + 2, none⟩ : Addr) = a.add (x + 2) := by
  unfold Addr.add
  by_cases h : x = 0
  · subst h; simp
  · rw [if_neg h, if_neg (by omega), if_neg (by omega)]
    simp [Nat.add_assoc]
/-- A key at its place, in the walk's own words. -/
theorem HoldsK.at {w : World} {p : Option Addr} {n c : Nat} {ks : List Ky} (h : HoldsK w p n c ks) {i : Nat} (hi : i < n) : ∃ a k, p = some a ∧ ks[i]? = some k ∧ w.cell? (a.add (i * 3)) = some (.int .u32 (k.id : Nat)) ∧ w.cell? ⟨(a.add (i * 3)).block, (a.add (i * 3)).off + 1, none⟩ = some (.int .u64 (k.a : Nat)) ∧ w.cell? ⟨(a.add (i * 3)).block, (a.add (i * 3)).off + 2, none⟩ = some (.int .u64 (k.b : Nat)) := by
  have hf : ks[i]? = some (ks[i]'(by rw [h.len]; exact hi)) := List.getElem?_eq_getElem _
  obtain ⟨a, ha, c1, c2, c3⟩ := h.cell i _ hf
  exact ⟨a, _, ha, hf, c1, by rw [(key_next a _).1]; exact c2, by rw [(key_next a _).2]; exact c3⟩
def cellsK (ks : List Ky) : List Value := ks.flatMap fun k => [.int .u32 (k.id : Nat), .int .u64 (k.a : Nat), .int .u64 (k.b : Nat)]
theorem cellsK_cons (k : Ky) (ks : List Ky) : cellsK (k :: ks) = .int .u32 (k.id : Nat) :: .int .u64 (k.a : Nat) :: .int .u64 (k.b : Nat) :: cellsK ks := by unfold cellsK; rw [List.flatMap_cons]; rfl
theorem cellsK_len (ks : List Ky) : (cellsK ks).length = ks.length * 3 := by
  induction ks with
  | nil => rfl
  | cons f fs ih => rw [cellsK_cons, List.length_cons, List.length_cons, List.length_cons, List.length_cons, ih]; omega
theorem cellsK_one (ks : List Ky) : ∀ u ∈ cellsK ks, u.oneCell' = true := by
  intro u hu
  unfold cellsK at hu
  obtain ⟨f, _, hf⟩ := List.mem_flatMap.1 hu
  simp only [List.mem_cons, List.not_mem_nil, or_false] at hf
  rcases hf with rfl | rfl | rfl <;> rfl
theorem cellsK_get : ∀ (ks : List Ky) (i : Nat) (k : Ky), ks[i]? = some k → (cellsK ks)[i * 3]? = some (.int .u32 (k.id : Nat)) ∧ (cellsK ks)[i * 3 + 1]? = some (.int .u64 (k.a : Nat)) ∧ (cellsK ks)[i * 3 + 2]? = some (.int .u64 (k.b : Nat))
  | [], i, f, h => by simp at h
  | g :: fs, 0, f, h => by
    have e : g = f := by simpa using h
    subst e
    rw [cellsK_cons]; exact ⟨rfl, rfl, rfl⟩
  | g :: fs, i + 1, f, h => by
    rw [cellsK_cons, show (i + 1) * 3 = i * 3 + 1 + 1 + 1 by omega]
    exact cellsK_get fs i f (by simpa using h)
theorem cellsK_at : ∀ (ks : List Ky) (j : Nat) (u : Value), (cellsK ks)[j]? = some u → ∃ i k, ks[i]? = some k ∧ ((j = i * 3 ∧ u = .int .u32 (k.id : Nat)) ∨ (j = i * 3 + 1 ∧ u = .int .u64 (k.a : Nat)) ∨ (j = i * 3 + 2 ∧ u = .int .u64 (k.b : Nat)))
  | [], j, u, h => by simp [cellsK] at h
  | f :: fs, j, u, h => by
    rw [cellsK_cons] at h
    rcases j with _ | _ | _ | j
    · exact ⟨0, f, rfl, .inl ⟨rfl, by injection h with h; exact h.symm⟩⟩
    · exact ⟨0, f, rfl, .inr (.inl ⟨rfl, by injection h with h; exact h.symm⟩)⟩
    · exact ⟨0, f, rfl, .inr (.inr ⟨rfl, by injection h with h; exact h.symm⟩)⟩
    · obtain ⟨i, g, hg, hh⟩ := cellsK_at fs j u h
      refine ⟨i + 1, g, hg, ?_⟩
      rcases hh with ⟨e, eu⟩ | ⟨e, eu⟩ | ⟨e, eu⟩
      · exact .inl ⟨by omega, eu⟩
      · exact .inr (.inl ⟨by omega, eu⟩)
      · exact .inr (.inr ⟨by omega, eu⟩)
/-- The call's own row of keys, as what may be read. -/
theorem ownK {w : World} {B : Nat} {T : TypeId} {v : Value} {n : Nat} {ks : List Ky} (h : w.ownsRow B T 3 v n (cellsK ks)) : ks.length = n ∧ ∃ p c, v = .slice p n c ∧ HoldsK w p n c ks ∧ ∀ a, p = some a → B ≤ a.block := by
  have hl := h.1
  rw [cellsK_len] at hl
  have ln : ks.length = n := by omega
  refine ⟨ln, ?_⟩
  have hc := h
  obtain ⟨-, ⟨rfl, rfl⟩ | ⟨g, cap, cur, rfl, hb, hg, h1, h2, h3, h4⟩⟩ := h
  · obtain rfl : ks = [] := List.length_eq_zero_iff.1 ln
    exact ⟨none, 0, rfl, ⟨rfl, Nat.le_refl _, Nat.zero_le _, fun _ => rfl, fun i q hq => by simp at hq⟩, fun a ha => by cases ha⟩
  · refine ⟨_, cap, rfl, ⟨ln, h1, h2, (fun e => by cases e), fun i f hf => ?_⟩, fun a ha => by cases ha; exact hb⟩
    obtain ⟨c1, c2, c3⟩ := cellsK_get ks i f hf
    exact ⟨_, rfl, World.ownsRow.cells hc (g := g) rfl _ _ c1, World.ownsRow.cells hc (g := g) rfl _ _ c2, World.ownsRow.cells hc (g := g) rfl _ _ c3⟩

/-- What a table of these keys is refused for. -/
def zeroK (ks : List Ky) : Prop := ∃ k ∈ ks, k.id = 0
def twiceK (ks : List Ky) : Prop := ∃ (i j : Nat) (k l : Ky), j < i ∧ ks[i]? = some k ∧ ks[j]? = some l ∧ l.id = k.id
/-- The first so many have numbers that are not 0. -/
def nzK (ks : List Ky) (n : Nat) : Prop := ∀ (i : Nat) (k : Ky), i < n → ks[i]? = some k → k.id ≠ 0
/-- The first so many have numbers of their own. -/
def onceK (ks : List Ky) (n : Nat) : Prop := ∀ (i j : Nat) (k l : Ky), i < n → j < i → ks[i]? = some k → ks[j]? = some l → l.id ≠ k.id
/-- Key i has another number than the first so many. -/
def notK (ks : List Ky) (i m : Nat) : Prop := ∀ (j : Nat) (k l : Ky), j < m → ks[i]? = some k → ks[j]? = some l → l.id ≠ k.id
/-- A table is told: its keys in new memory. -/
def TabR (w : World) (ks : List Ky) (e : Ending) (w' : World) : Prop :=
  ∃ T p c, e = .returned (.tuple #[.pointer (some ⟨T, 0, none⟩), .int .i64 0]) ∧ w'.heap[T]? = some (.cells #[.slice p ks.length c] 70 (0, 0)) ∧ HoldsK w' p ks.length c ks ∧ w.heap.size ≤ T ∧ (∀ a, p = some a → w.heap.size ≤ a.block) ∧ Below w.heap.size w w'
/-- What New tells of any keys. -/
def NewR (w : World) (ks : List Ky) (e : Ending) (w' : World) : Prop :=
  (zeroK ks ∧ e = .returned (.tuple #[.pointer none, .int .i64 1]) ∧ Below w.heap.size w w') ∨ (¬ zeroK ks ∧ twiceK ks ∧ e = .returned (.tuple #[.pointer none, .int .i64 9]) ∧ Below w.heap.size w w') ∨
  (¬ zeroK ks ∧ ¬ twiceK ks ∧ 16 < ks.length ∧ e = .returned (.tuple #[.pointer none, .int .i64 7]) ∧ Below w.heap.size w w') ∨ (¬ zeroK ks ∧ ¬ twiceK ks ∧ ks.length ≤ 16 ∧ TabR w ks e w')
theorem infoK : (Try.prog.info? 25).map (fun i => (i.zero, i.size, i.bytes)) = some (some (.agg #[.int .u32 0, .int .u64 0, .int .u64 0]), 3, 24) := by kernel_rfl
theorem infoF_of {o : Option TypeInfo} {z : Option Value} {s b : Nat} (h : o.map (fun i => (i.zero, i.size, i.bytes)) = some (z, s, b)) : ∃ i, o = some i ∧ i.zero = z ∧ i.size = s ∧ i.bytes = b := by
  obtain ⟨i, hi, h⟩ := Option.map_eq_some_iff.1 h
  simp only [Prod.mk.injEq] at h
  exact ⟨i, hi, h.1, h.2.1, h.2.2⟩

theorem box_kept {w1 w3 : World} (g : (w1.alloc (.cells #[.slice none 0 0] 70)).grownBy w3 none) : w3.heap[w1.heap.size]? = some (.cells #[.slice none 0 0] 70 (0, 0)) := by
  rw [g.block w1.heap.size (by rw [World.size_alloc]; omega) (by intro e; cases e)]
  exact heap_alloc_new w1 _
/-- The table is boxed, its keys are copied into new memory. -/
theorem tabR_of {w w1 w3 : World} {ks : List Ky} {v : Value} (L1 : Below w.heap.size w w1) (o : w3.ownsRow (w1.heap.size + 1) 25 3 v ks.length (cellsK ks))
    (g : (w1.alloc (.cells #[.slice none 0 0] 70)).grownBy w3 none) :
    TabR w ks (.returned (.tuple #[.pointer (some ⟨w1.heap.size, 0, none⟩), .int .i64 0])) (w3.setCell ⟨w1.heap.size, 0, none⟩ v) := by
  have L2 := (L1.alloc L1.size (.cells #[.slice none 0 0] 70))
  have L3 := L2.grown g L2.size (fun k hk => by cases hk)
  have hT := box_kept g
  have o' := ownsRow_setCell_below o (a := ⟨w1.heap.size, 0, none⟩) (Nat.lt_succ_self _) v
  obtain ⟨-, p, c, rfl, HK, hb⟩ := ownK o'
  exact ⟨w1.heap.size, p, c, rfl, one_setCell hT, HK, L1.size, fun a ha => Nat.le_trans L1.size (Nat.le_trans (Nat.le_succ _) (hb a ha)), L3.setCell L1.size _⟩

set_option maxRecDepth 100000 in
set_option maxHeartbeats 16000000 in
theorem rnew6_any (w : World) (p : Option Addr) (n c : Nat) (ks : List Ky) (hx : HoldsK w p n c ks) (hn : n ≤ 100000) :
    Calls Try.prog 14 #[.slice p n c] w (NewR w ks) := by
  obtain ⟨iK, hi, hz0, hz1, hz2⟩ := infoF_of infoK
  have nb : (n : Int) ≤ 100000 := by omega
  have HX := Lib.hid hx
  have LN := Lib.hid hx.len
  have HN := Lib.hid hn
  clear hx hn
  go_enter Try.func14, Try.ntmps14
  go_wp2_with fail
  go_loop [4] (fun i => ∃ k : Nat, i = .int .i64 k ∧ Hid (k ≤ n) ∧ Hid (nzK ks k)) (fun i => 200000 - (intOf i).toNat)
  case atStart => exact ⟨0, rfl, Nat.zero_le _, fun i k h => absurd h (Nat.not_lt_zero _)⟩
  case round =>
    obtain ⟨i, rfl, hk, nz⟩ := hrel
    have ib : (i : Int) ≤ 100000 := by have := hk.out; have := HN.out; omega
    by_cases g : i < n
    · have g' : (i : Int) < (n : Int) := by omega
      have G : Hid (i + 1 ≤ n) := g
      obtain ⟨a, k, rfl, hf, c0, c1, c2⟩ := HX.out.at g
      obtain ⟨x, hx⟩ : ∃ x, x = k.id := ⟨_, rfl⟩
      rw [← hx] at c0
      by_cases x0 : x = 0
      · subst x0
        have F : Hid (NewR w ks (.returned (.tuple #[.pointer none, .int .i64 1])) w) := .inl ⟨⟨k, List.mem_of_getElem? hf, hx.symm⟩, rfl, Below.refl _ _⟩
        have c0' : w.cell? (a.add (i * 3)) = some (.int .u32 0) := c0
        clear g hk nz hf c0 c1 c2 hx
        go_wp2
        go_ret2
        exact F.out
      · have z1 : ((x : Int) == 0) = false := by simp; omega
        have z2 : ¬ (x : Int) = 0 := by omega
        have z3 : ((x : Int) != 0) = true := by simp; omega
        have NX : Hid (nzK ks (i + 1)) := fun j l hj hl => by
          by_cases e : j = i
          · subst e
            rw [hf] at hl
            injection hl with hl
            subst hl
            rw [← hx]
            exact x0
          · exact nz.out j l (by omega) hl
        clear g hk nz hf c1 c2 hx
        go_wp2
        go_round
        case rel => exact ⟨i + 1, by go_num, G, NX⟩
        case measure => simp [intOf]; omega
    · have g' : (n : Int) ≤ (i : Int) := by omega
      have NZ : Hid (¬ zeroK ks) := fun ⟨k, hk', e⟩ => by
        obtain ⟨j, hj, ej⟩ := List.getElem_of_mem hk'
        exact nz.out j k (by rw [LN.out] at hj; omega) (by rw [List.getElem?_eq_getElem hj, ej]) e
      have gi : Hid (decide (i < n) = false) := decide_eq_false g
      clear hk nz g
      go_wp2_with fail
      go_loopw [5] (fun v wr => ∃ i q : Nat, v = .int .i64 i ∧ Hid (i ≤ n) ∧ Hid (onceK ks i) ∧ wr = w.drewN q) (fun v _ => 200000 - (intOf v).toNat)
      case atStart => exact ⟨0, 0, rfl, Nat.zero_le _, (fun i j k l h => absurd h (Nat.not_lt_zero _)), rfl⟩
      case round =>
        obtain ⟨i, q, rfl, hi', on, rfl⟩ := hrel
        have ib : (i : Int) ≤ 100000 := by have := hi'.out; have := HN.out; omega
        by_cases g : i < n
        · have g' : (i : Int) < (n : Int) := by omega
          have G : Hid (i + 1 ≤ n) := g
          have g1 : Hid (decide (i < n) = true) := decide_eq_true g
          have GI := Lib.hid g
          clear g
          go_wp2_with fail
          try simp only [g1.out]
          go_loopw [6] (fun v wr => ∃ m q' : Nat, v = .int .i64 m ∧ Hid (m ≤ i) ∧ Hid (notK ks i m) ∧ wr = w.drewN q') (fun v _ => 200000 - (intOf v).toNat)
          case atStart => exact ⟨0, q, rfl, Nat.zero_le _, (fun j k l h => absurd h (Nat.not_lt_zero _)), rfl⟩
          case round =>
            obtain ⟨m, q', rfl, hm, no, rfl⟩ := hrel
            have mb : (m : Int) ≤ 100000 := by have := hm.out; omega
            by_cases h : m < i
            · have h' : (m : Int) < (i : Int) := by omega
              have HM : Hid (m + 1 ≤ i) := h
              obtain ⟨a, k, rfl, hf, c0, -, -⟩ := HX.out.at GI.out
              obtain ⟨a', l, ea, hl, d0, -, -⟩ := HX.out.at (Nat.lt_trans h GI.out)
              cases ea
              have mn : (m : Int) < (n : Int) := by have := GI.out; omega
              obtain ⟨x, hx⟩ : ∃ x, x = k.id := ⟨_, rfl⟩
              obtain ⟨y, hy⟩ : ∃ y, y = l.id := ⟨_, rfl⟩
              rw [← hx] at c0
              rw [← hy] at d0
              by_cases e : y = x
              · have F : Hid (∀ j, NewR w ks (.returned (.tuple #[.pointer none, .int .i64 9])) (w.drewN j)) := fun j => .inr (.inl ⟨NZ.out, ⟨i, m, k, l, h, hf, hl, by rw [← hx, ← hy]; exact e⟩, rfl, below_drewN (Below.refl _ _) j⟩)
                subst e
                clear h hm no hf hl hx hy
                go_wp2_with fail
                go_quiet (fail)
                go_wp2
                go_ret2
                rw [drewN_add]
                exact F.out _
              · have f1 : ((y : Int) == (x : Int)) = false := by simp; omega
                have f2 : ((y : Int) != (x : Int)) = true := by simp; omega
                have f3 : ¬ (y : Int) = (x : Int) := by omega
                have NX : Hid (notK ks i (m + 1)) := fun j k' l' hj hk' hl' => by
                  by_cases ej : j = m
                  · subst ej
                    rw [hf] at hk'
                    rw [hl] at hl'
                    injection hk' with hk'
                    injection hl' with hl'
                    subst hk' hl'
                    rw [← hx, ← hy]
                    exact e
                  · exact no.out j k' l' (by omega) hk' hl'
                clear h hm no hf hl hx hy e
                go_wp2_with fail
                go_quiet (fail)
                go_wp2
                go_roundw
                case rel => exact ⟨m + 1, _, by go_num, HM, NX, by first | exact drewN_add _ _ _ | rfl⟩
                case measure => simp [intOf]; omega
            · have h' : (i : Int) ≤ (m : Int) := by omega
              have NX : Hid (onceK ks (i + 1)) := fun i' j k l hi2 hj hk' hl' => by
                by_cases ei : i' = i
                · subst ei
                  exact no.out j k l (by have := hm.out; omega) hk' hl'
                · exact on.out i' j k l (by omega) hj hk' hl'
              clear h hm no
              go_wp2
              go_roundw
              case rel => exact ⟨i + 1, _, by go_num, G, NX, rfl⟩
              case measure => simp [intOf]; omega
        · have g' : (n : Int) ≤ (i : Int) := by omega
          have NT : Hid (¬ twiceK ks) := fun ⟨i', j, k, l, hj, hk', hl', e⟩ => by
            have := (List.getElem?_eq_some_iff.1 hk').1
            rw [LN.out] at this
            exact on.out i' j k l (by have := hi'.out; omega) hj hk' hl' e
          clear g hi' on
          by_cases n16 : 16 < n
          · have t1 : decide ((16 : Int) < (n : Int)) = true := by simp; omega
            have t2 : (16 : Int) < (n : Int) := by omega
            have F : Hid (NewR w ks (.returned (.tuple #[.pointer none, .int .i64 7])) (w.drewN q)) := .inr (.inr (.inl ⟨NZ.out, NT.out, by rw [LN.out]; exact n16, rfl, below_drewN (Below.refl _ _) q⟩))
            clear n16
            go_wp2
            go_ret2
            exact F.out
          · have t1 : decide ((16 : Int) < (n : Int)) = false := by simp; omega
            have t2 : ¬ (16 : Int) < (n : Int) := by omega
            have t3 : (n : Int) ≤ 16 := by omega
            have N16 : Hid (n ≤ 16) := by unfold Hid; omega
            clear n16
            generalize hw1 : w.drewN q = w1 at *
            have L1 : Hid (Below w.heap.size w w1) := by unfold Hid; rw [← hw1]; exact below_drewN (Below.refl _ _) q
            clear hw1
            have L2 := Lib.hid (L1.out.alloc L1.out.size (.cells #[.slice none 0 0] 70))
            have TB : Hid ((w1.alloc (.cells #[.slice none 0 0] 70)).heap[w1.heap.size]? = some (.cells #[.slice none 0 0] 70 (0, 0))) := heap_alloc_new w1 _
            have GN : Hid (¬ zeroK ks ∧ ¬ twiceK ks ∧ ks.length ≤ 16) := ⟨NZ.out, NT.out, by rw [LN.out]; exact N16.out⟩
            have SZ : Hid (w1.heap.size + 1 = (w1.alloc (.cells #[.slice none 0 0] 70)).heap.size) := by unfold Hid; rw [World.size_alloc]
            have OW : Hid ((w1.alloc (.cells #[.slice none 0 0] 70)).ownsRow (w1.heap.size + 1) 25 3 (.slice none 0 0) 0 []) := World.ownsRow_nil _ _ _ _
            clear t3 gi nb
            rcases p with _ | ad
            · obtain rfl : c = 0 := HX.out.bare rfl
              obtain rfl : n = 0 := by have := HX.out.cap; omega
              have EK : Hid (ks = []) := List.length_eq_zero_iff.1 LN.out
              have FIN : Hid (NewR w ks (.returned (.tuple #[.pointer (some ⟨w1.heap.size, 0, none⟩), .int .i64 0])) ((w1.alloc (.cells #[.slice none 0 0] 70)).setCell ⟨w1.heap.size, 0, none⟩ (.slice none 0 0))) :=
                .inr (.inr (.inr ⟨GN.out.1, GN.out.2.1, GN.out.2.2, tabR_of L1.out (by have := EK.out; subst this; exact OW.out) (World.grownBy.refl _ _)⟩))
              go_wp2_with (at_builtin; refine wpList_append_own_none rfl _ _ 34 rfl (w1.heap.size + 1) 25 iK 3 Try.underlying34 hi _ _ _ rfl OW.out rfl ?_)
              have E0 : Hid ((w1.alloc (.cells #[.slice none 0 0] 70)).setCell ⟨w1.heap.size, 0, none⟩ (.slice none 0 0) = w1.alloc (.cells #[.slice none 0 0] 70)) := by unfold Hid; rw [World.setCell_alloc_new]; rfl
              have FIN2 := Lib.hid (E0.out ▸ FIN.out)
              go_wp2
              go_ret2
              exact FIN2.out
            · have HC : Hid (∀ (j : Nat) (u : Value), (cellsK ks)[j]? = some u → (w1.alloc (.cells #[.slice none 0 0] 70)).cell? (ad.add j) = some u) := fun j u hu => by
                have HY := HX.out.below L2.out
                obtain ⟨i, k, hk, hh⟩ := cellsK_at ks j u hu
                obtain ⟨a', ea, c1, c2, c3⟩ := HY.cell i k hk
                cases ea
                rcases hh with ⟨e, eu⟩ | ⟨e, eu⟩ | ⟨e, eu⟩
                · rw [e, eu]; exact c1
                · rw [e, eu]; exact c2
                · rw [e, eu]; exact c3
              have FIN : Hid (∀ v w3, w3.ownsRow (w1.heap.size + 1) 25 3 v n (cellsK ks) → (w1.alloc (.cells #[.slice none 0 0] 70)).grownBy w3 none → NewR w ks (.returned (.tuple #[.pointer (some ⟨w1.heap.size, 0, none⟩), .int .i64 0])) (w3.setCell ⟨w1.heap.size, 0, none⟩ v)) := fun v w3 o g =>
                .inr (.inr (.inr ⟨GN.out.1, GN.out.2.1, GN.out.2.2, tabR_of L1.out (by rw [← LN.out] at o; exact o) g⟩))
              have M1 : Hid ((cellsK ks).length = n * 3) := by unfold Hid; rw [cellsK_len, LN.out]
              have M2 : Hid (0 + n ≤ maxLen) := by unfold Hid maxLen; have := N16.out; omega
              have M3 : Hid ((0 + n) * 24 ≤ 140737488355328) := by unfold Hid; have := N16.out; omega
              go_wp2_with (at_builtin; refine wpList_append_own _ rfl _ _ 34 rfl (w1.heap.size + 1) 25 iK _ 3 24 Try.underlying34 hi hz0 hz1 hz2 rfl (by decide) _ _ _ rfl OW.out ad n c (cellsK ks) rfl M1.out HC.out (cellsK_one ks) M2.out M3.out (Nat.le_of_eq SZ.out) ?_)
              intro v' w3 ho hg _
              have F := Lib.hid (FIN.out v' w3 ho hg)
              have C0 := cell_of_one (box_kept hg)
              have C1 := free_of_one (box_kept hg)
              obtain ⟨-, p', c', rfl, -, -⟩ := ownK ho
              clear ho hg FIN HC
              go_wp2
              go_ret2
              exact F.out
end Go.Proofs.Ytkojgegfmhoomaa
