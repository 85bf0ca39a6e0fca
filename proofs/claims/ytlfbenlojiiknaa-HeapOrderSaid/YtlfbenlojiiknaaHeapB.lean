/- Layer 13 (heap), the document's own: Ahead, Place, up. -/
import Derived.Test.YtlfbenlojiiknaaHeapA
import Derived.LoopTactic
import Derived.BigQuiet
import Derived.Deep.RegionHeld3
import Derived.Deep.RegionWith
import Derived.Deep.DeepCutAuto
set_option maxRecDepth 100000
namespace Go.Proofs.Ytlfbenlojiiknaa
open Go.ChangeShapes Go.WideShapes Go.ChangeAt Go.RowKit HeapM

theorem two_blocks (w : World) (c d : Array Value) (T U : TypeId) :
    Below w.heap.size w ((w.alloc (.cells c T)).alloc (.cells d U)) ∧ ((w.alloc (.cells c T)).alloc (.cells d U)).heap[w.heap.size]? = some (.cells c T (0, 0)) ∧ ((w.alloc (.cells c T)).alloc (.cells d U)).heap[w.heap.size + 1]? = some (.cells d U (0, 0)) ∧ ((w.alloc (.cells c T)).alloc (.cells d U)).heap.size = w.heap.size + 1 + 1 := by
  have B1 : Below w.heap.size w (w.alloc (.cells c T)) := (Below.refl _ _).alloc (Nat.le_refl _) _
  have C1 : (w.alloc (.cells c T)).heap[w.heap.size]? = some (.cells c T (0, 0)) := heap_alloc_new w _
  have s1 : (w.alloc (.cells c T)).heap.size = w.heap.size + 1 := by simp
  generalize w.alloc (.cells c T) = u at *
  have C2 := heap_alloc_new u (.cells d U)
  rw [s1] at C2
  have B2 : Below u.heap.size u (u.alloc (.cells d U)) := (Below.refl _ _).alloc (Nat.le_refl _) _
  exact ⟨B1.trans (B2.mono B1.size), (B2.block _ (by omega)).trans C1, C2, by simp [s1]⟩

theorem rahead13_any (w : World) (a b : It) :
    Calls Try.prog 48 #[itV a, itV b] w fun e w' => e = .returned (.bool (ahd a b)) ∧ Below w.heap.size w w' := by
  obtain ⟨i, s, t⟩ := a
  obtain ⟨j, r, u⟩ := b
  obtain ⟨l, B1, B2, -⟩ := two_blocks w (itC ⟨i, s, t⟩) (itC ⟨j, r, u⟩) 38 38
  have F : Hid (∀ z, ahd ⟨i, s, t⟩ ⟨j, r, u⟩ = z → (∀ w', Below w.heap.size w w' → (Ending.returned (.bool z) = .returned (.bool (ahd ⟨i, s, t⟩ ⟨j, r, u⟩)) ∧ Below w.heap.size w w'))) := fun z h w' k => ⟨by rw [h], k⟩
  have L := Lib.hid l
  unfold itC at B1 B2 L
  dsimp only at B1 B2 L
  have a0 := blk_cell (o := 0) B1
  have a1 := blk_cell (o := 1) B1
  have a2 := blk_cell (o := 2) B1
  have b0 := blk_cell (o := 0) B2
  have b1 := blk_cell (o := 1) B2
  have b2 := blk_cell (o := 2) B2
  simp only [List.getElem?_toArray, List.getElem?_cons_zero, List.getElem?_cons_succ] at a0 a1 a2 b0 b1 b2
  unfold itV
  dsimp only
  clear l B1 B2
  by_cases ht : t = u
  · have h1 : (t == u) = true := by simpa using ht
    have h2 : (t != u) = false := by simpa using ht
    by_cases hs : s = r
    · have h3 : ((s : Int) == (r : Int)) = true := by rw [beq_iff_eq, hs]
      have h4 : ((s : Int) != (r : Int)) = false := by rw [bne, h3]; rfl
      have FF := Lib.hid (F.out (decide (i < j)) (by unfold ahd; dsimp only; rw [if_pos ht, if_pos hs]))
      clear F ht hs
      go_enter Try.func48, Try.ntmps48
      go_wp2
      go_ret
      exact FF.out _ L.out
    · have h3 : ((s : Int) == (r : Int)) = false := by rw [beq_eq_false_iff_ne]; omega
      have h4 : ((s : Int) != (r : Int)) = true := by rw [bne, h3]; rfl
      have FF := Lib.hid (F.out (decide (s < r)) (by unfold ahd; dsimp only; rw [if_pos ht, if_neg hs]))
      clear F ht hs
      go_enter Try.func48, Try.ntmps48
      go_wp2
      go_ret
      exact FF.out _ L.out
  · have h1 : (t == u) = false := by simpa using ht
    have h2 : (t != u) = true := by simpa using ht
    have FF := Lib.hid (F.out (decide (t < u)) (by unfold ahd; dsimp only; rw [if_neg ht]))
    clear F ht
    go_enter Try.func48, Try.ntmps48
    go_wp2
    go_ret
    exact FF.out _ L.out

/-- In a block lies the document's own heap; its row. -/
structure RHp (w : World) (M : Nat) (p : Option Addr) (c : Nat) (sz : Int) (l : List It) : Prop where
  b : w.heap[M]? = some (.cells #[.slice p l.length c, .int .i64 sz] 52 (0, 0))
  o : OwnI w 38 0 p l.length c l
  far : ∀ a, p = some a → a.block ≠ M
  fit : l.length ≤ 1048576
theorem RHp.below {w w' : World} {M : Nat} {p : Option Addr} {c : Nat} {sz : Int} {l : List It} (h : RHp w M p c sz l) (b : Below w.heap.size w w') : RHp w' M p c sz l :=
  ⟨(b.block M (Array.getElem?_eq_some_iff.1 h.b).1).trans h.b, h.o.below b, h.far, h.fit⟩

/-- A place as Place tells it. -/
def placeI (l : List It) (d : Nat) : Int := match place l d with | some k => (k : Int) | none => -1
theorem rplace13_any (w : World) (M : Nat) (p : Option Addr) (c : Nat) (sz : Int) (l : List It) (d : Nat) (h : RHp w M p c sz l) :
    Calls Try.prog 23 #[.pointer (some ⟨M, 0, none⟩), .int .u64 (d : Nat)] w fun e w' => e = .returned (.int .i64 (placeI l d)) ∧ w = w' := by
  have F : Hid (∀ z, placeI l d = z → Ending.returned (.int .i64 z) = .returned (.int .i64 (placeI l d))) := fun z h => by rw [h]
  have HO := Lib.hid h.o.holds
  have fit := h.fit
  have C0 := blk_cell (o := 0) h.b
  simp only [List.getElem?_toArray, List.getElem?_cons_zero] at C0
  obtain ⟨n, hn⟩ : ∃ n, l.length = n := ⟨_, rfl⟩
  rw [hn] at C0 fit HO
  have HN := Lib.hid hn
  have nb : (n : Int) ≤ 1048576 := by omega
  clear h hn fit
  go_enter Try.func23, Try.ntmps23
  go_wp2
  go_loop [5] (fun i => ∃ q : Nat, i = .int .i64 (q : Nat) ∧ Hid (q ≤ n ∧ ∀ j, j < q → (gt l j).id ≠ d)) (fun i => 2000000 - (intOf i).toNat)
  case atStart => exact ⟨0, rfl, Nat.zero_le _, fun j hj => absurd hj (Nat.not_lt_zero _)⟩
  case round =>
    obtain ⟨q, rfl, B⟩ := hrel
    have q0 : (0 : Int) ≤ (q : Int) := by omega
    have qn : (q : Int) ≤ (n : Int) := by have := B.out.1; omega
    by_cases stop : n ≤ q
    · have s1 : decide ((q : Int) < (n : Int)) = false := decide_eq_false (by omega)
      have s2 : (n : Int) ≤ (q : Int) := by omega
      have e : placeI l d = -1 := by
        unfold placeI
        rw [place_not (fun j hj => B.out.2 j (by rw [HN.out] at hj; omega))]
      have FF := Lib.hid (F.out _ e)
      clear F e stop B HO
      go_wp2
      go_ret
      exact ⟨FF.out, rfl⟩
    · have h' : (q : Int) < (n : Int) := by omega
      have ql : q < n := by omega
      obtain ⟨a, rfl, c0, -, -⟩ := HO.out.at ql
      obtain ⟨y, hy⟩ : ∃ y, (gt l q).id = y := ⟨_, rfl⟩
      rw [hy] at c0
      have HY := Lib.hid hy
      by_cases e : y = d
      · have e1 : ((y : Int) == (d : Int)) = true := by rw [beq_iff_eq, e]
        have e2 : placeI l d = (q : Nat) := by
          unfold placeI
          cases hp : place l d with
          | none => exact absurd (by rw [hy, e]) (place_none hp (k := q) (by rw [HN.out]; exact ql))
          | some j =>
            have pj := place_some hp
            have lj : j ≤ q := by
              unfold place at hp
              have := (List.findIdx?_eq_some_iff_getElem.1 hp).2.2
              by_cases g : q < j
              · have := this q g
                rw [← gt_of (by rw [HN.out]; exact ql)] at this
                simp [hy, e] at this
              · omega
            have : ¬ j < q := fun g => B.out.2 j g pj.2
            show (j : Int) = (q : Int)
            omega
        have FF := Lib.hid (F.out _ e2)
        clear F e2 e stop B HO hy HY ql
        go_wp2
        go_ret
        exact ⟨FF.out, rfl⟩
      · have e1 : ((y : Int) == (d : Int)) = false := by rw [beq_eq_false_iff_ne]; omega
        have B2 : Hid (q + 1 ≤ n ∧ ∀ j, j < q + 1 → (gt l j).id ≠ d) := ⟨ql, fun j hj => by
          by_cases g : j = q
          · rw [g, HY.out]; exact e
          · exact B.out.2 j (by omega)⟩
        clear e stop B HO hy HY ql F
        go_wp2
        go_round
        case rel => exact ⟨q + 1, by go_num, B2⟩
        case measure => simp [intOf]; omega
end Go.Proofs.Ytlfbenlojiiknaa
