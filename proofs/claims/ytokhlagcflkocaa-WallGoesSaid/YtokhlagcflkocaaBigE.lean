/- Contracts of the document's own answers for layer 1: told, near, Of, Minus. -/
import Derived.Test.YtokhlagcflkocaaBigD
namespace Go.Proofs.Ytokhlagcflkocaa
open Go.ChangeShapes Go.WideShapes Go.ChangeAt Go.RowKit BigM

/-- A store into a block of another make leaves a row of digits as it was. -/
theorem own_set {B : Nat} {w : World} {v : Value} {ds : List Nat} {N o : Nat} {cs : Array Value} {T : TypeId} {fr : Nat × Nat} (h : OwnAt B w v ds) (hN : w.heap[N]? = some (.cells cs T fr)) (hT : T ≠ 69) (u : Value) : OwnAt B (w.setCell ⟨N, o, none⟩ u) v ds := by
  refine ⟨h.1, ?_⟩
  rcases h.2 with hn | ⟨g, cap, cur, rfl, hb, hg, r⟩
  · exact .inl hn
  · refine .inr ⟨g, cap, cur, rfl, hb, ?_, r⟩
    have hne : g ≠ N := by
      rintro rfl
      rw [hN] at hg
      injection hg with hg
      injection hg with _ h2 _
      exact hT h2
    rw [Below.heap_setCell _ _ _ _ hne]
    exact hg
theorem set_block {w : World} {N o : Nat} {cs : Array Value} {T : TypeId} {fr : Nat × Nat} {u : Value} (hN : w.heap[N]? = some (.cells cs T fr)) : (w.setCell ⟨N, o, none⟩ u).heap[N]? = some (.cells (cs.set! o u) T fr) := by
  simp only [World.setCell, Array.getElem?_modify, hN]
  simp

structure TwoPost (w : World) (q e : Int) (x : Ending) (w' : World) : Prop where
  out : x = .returned (.tuple #[.int .i64 q, .int .i64 e]) ∧ Below w.heap.size w w'
structure OnePost (w : World) (q : Int) (x : Ending) (w' : World) : Prop where
  out : x = .returned (.int .i64 q) ∧ Below w.heap.size w w'

theorem told_any (w : World) (x : Value) (m : Bool) (n L : Nat) (h : BigRaw w x m n L) (hL : L ≤ 1000) :
    Calls Try.prog 44 #[x] w (TwoPost w (outN (sg m n)) (outE (sg m n))) := by
  obtain ⟨v, ds, rfl, h2, h3, h5, h6⟩ := h.out
  have hb0 : Below w.heap.size w (w.alloc (.cells #[.bool m, v] 54)) := (Below.refl _ _).alloc (Nat.le_refl _) _
  have HI := Lib.hid (Int_any (w.alloc (.cells #[.bool m, v] 54)) (.agg #[.bool m, v]) m n L ⟨v, ds, rfl, own_below h2 hb0, h3, h5, h6⟩ hL)
  have HB0 := Lib.hid hb0
  clear h2 h3 h5 h6 h hb0
  go_enter Try.func44, Try.ntmps44
  go_wp2_with fail
  refine HI.out.mono ?_
  rintro e w1 ⟨q, ok, rfl, h1, h2, hb⟩
  cases ok
  · have fin : TwoPost w (outN (sg m n)) (outE (sg m n)) (.returned (.tuple #[.int .i64 0, .int .i64 20])) w1 := ⟨by rw [outN_no (h2 rfl), outE_no (h2 rfl)], HB0.out.trans (hb.mono (by simp))⟩
    have FIN := Lib.hid fin
    clear fin h1 h2 hb
    go_wp2
    go_ret2
    exact FIN.out
  · have fin : TwoPost w (outN (sg m n)) (outE (sg m n)) (.returned (.tuple #[.int .i64 q, .int .i64 0])) w1 := ⟨by rw [outN_ok (h1 rfl).1, outE_ok (h1 rfl).1, (h1 rfl).2], HB0.out.trans (hb.mono (by simp))⟩
    have FIN := Lib.hid fin
    clear fin h1 h2 hb
    go_wp2
    go_ret2
    exact FIN.out

/-- An int64, or the one next to it. -/
def nearN (t : Int) : Int := if t < -9223372036854775808 then -9223372036854775808 else if 9223372036854775807 < t then 9223372036854775807 else t

theorem zero_cells (w : World) (a : Value) (T : TypeId) (b : Value) : ((w.alloc (.cells #[a, b] T)).cell? ⟨w.heap.size, 0, none⟩ = some a ∧ (w.alloc (.cells #[a, b] T)).cell? ⟨w.heap.size, 1, none⟩ = some b) := by
  constructor <;> simp [go_sem]

/-- What stands at a head of the rounds that lay an int64's digits. -/
structure OfRel (w wr : World) (t : Nat) (mm : Bool) (p : Option Addr) (nn c : Nat) (out : List Nat) (k : Nat) : Prop where
  own : OwnAt (w.heap.size + 2) wr (.slice p nn c) out
  len : nn = out.length
  low : Below w.heap.size w wr
  dig : Dig out
  can : k = 0 → Canon out
  sum : val out + 65536 ^ out.length * k = t
  top : out.length ≤ 4
  b0 : wr.heap[w.heap.size]? = some (.cells #[.bool false, .slice none 0 0] 54 (0, 0))
  b1 : wr.heap[w.heap.size + 1]? = some (.cells #[.bool mm, .slice p nn c] 54 (0, 0))

theorem cell_blk {w : World} {N o : Nat} {cs : Array Value} {T : TypeId} (h : w.heap[N]? = some (.cells cs T (0, 0))) : w.cell? ⟨N, o, none⟩ = cs[o]? := cell_of_row w N o cs T (0, 0) h
theorem free_blk {w : World} {N o : Nat} {cs : Array Value} {T : TypeId} (h : w.heap[N]? = some (.cells cs T (0, 0))) : w.frozen? ⟨N, o, none⟩ = false := by
  simp [World.frozen?, h]

theorem row_shape {B : Nat} {w : World} {v : Value} {n : Nat} {xs : List Value} (h : w.ownsRow B 69 1 v n xs) : ∃ p c, v = .slice p n c := by
  rcases h.2 with ⟨rfl, h2⟩ | ⟨g, cap, cur, rfl, _⟩
  · exact ⟨none, 0, by rw [h2]⟩
  · exact ⟨_, cap, rfl⟩

theorem two_new (w : World) (o1 o2 : Obj) : ((w.alloc o1).alloc o2).heap[w.heap.size]? = some o1 ∧ ((w.alloc o1).alloc o2).heap[w.heap.size + 1]? = some o2 := by
  have h := heap_alloc_new w o1
  have g := heap_alloc_new (w.alloc o1) o2
  refine ⟨?_, by simpa using g⟩
  rw [Below.heap_alloc _ _ _ (by simp)]
  exact h

theorem of_start (w : World) (t : Nat) (mm : Bool) : OfRel w ((w.alloc (.cells #[.bool false, .slice none 0 0] 54)).alloc (.cells #[.bool mm, .slice none 0 0] 54)) t mm none 0 0 [] t := by
  refine ⟨own_nil _ _, rfl, ((Below.refl _ _).alloc (Nat.le_refl _) _).alloc (by simp) _, ?_, fun _ => canon_nil, ?_, ?_, (two_new _ _ _).1, (two_new _ _ _).2⟩
  · intro d hd; simp at hd
  · simp [val]
  · simp

theorem of_next {w wr w1 : World} {t : Nat} {mm : Bool} {p p' : Option Addr} {nn c nn' c' : Nat} {out : List Nat} {k : Nat} {o : Obj} (hk : 0 < k) (hl : out.length < 4) (h : OfRel w wr t mm p nn c out k)
    (hown' : w1.ownsRow (w.heap.size + 2) 69 1 (.slice p' nn' c') (out.length + 1) (out.map (fun d : Nat => Value.int .u32 (d : Int)) ++ [.int .u32 ((k % 65536 : Nat) : Int)])) (hn' : nn' = out.length + 1)
    (hgrow : (wr.alloc o).grownBy w1 (Value.slice p nn c).ownBlock) :
    OfRel w (w1.setCell ⟨w.heap.size + 1, 1, none⟩ (.slice p' nn' c')) t mm p' nn' c' (out ++ [k % 65536]) (k / 65536) := by
  have lt := (Array.getElem?_eq_some_iff.1 h.b1).1
  have hb : ∀ j, j < w.heap.size + 2 → w1.heap[j]? = wr.heap[j]? := fun j hj => by
    rw [hgrow.block j (by simp; omega) (fun e => by have := (World.ownsRow.lt h.own j e.symm).1; omega)]
    exact Below.heap_alloc _ _ _ (by omega)
  have b1 : w1.heap[w.heap.size + 1]? = some (.cells #[.bool mm, .slice p nn c] 54 (0, 0)) := by rw [hb _ (by omega)]; exact h.b1
  refine ⟨?_, by rw [List.length_append]; exact hn', ?_, dig_snoc h.dig (Nat.mod_lt _ (by omega)), fun hz => canon_snoc (by omega), of_step h.sum, by rw [List.length_append]; simp; omega, ?_, ?_⟩
  · refine own_set ?_ b1 (by decide) _
    unfold OwnAt
    rw [List.length_append, List.map_append]
    exact hown'
  · have g : Below w.heap.size w w1 := (h.low.alloc (by omega) o).grown hgrow (by simp; omega) (fun j hj => by have := (World.ownsRow.lt h.own j hj).1; omega)
    exact g.setCell (by simp) _
  · rw [Below.heap_setCell _ _ _ _ (by simp), hb _ (by omega)]
    exact h.b0
  · rw [set_block b1]
    rfl

theorem of_len {out : List Nat} {k t : Nat} (h : val out + 65536 ^ out.length * k = t) (hk : 0 < k) (ht : t < 18446744073709551616) : out.length < 4 := by
  rcases Nat.lt_or_ge out.length 4 with g | g
  · exact g
  · have := Nat.pow_le_pow_right (n := 65536) (by omega) g
    have := Nat.mul_le_mul this (show 1 ≤ k by omega)
    omega

set_option maxHeartbeats 2000000 in
theorem of_any (w : World) (a : Int) (ha : I64 a) :
    Calls Try.prog 33 #[.int .i64 a] w (BigPost w (decide (a < 0)) a.natAbs 4) := by
  obtain ⟨i0, hi, hz0, hz1, hz2⟩ := info_parts info32
  obtain ⟨t, ht⟩ : ∃ t, t = a.natAbs := ⟨_, rfl⟩
  have t64 : t < 18446744073709551616 := by unfold I64 at ha; omega
  obtain ⟨mm, hmm⟩ : ∃ b, b = decide (a < 0) := ⟨_, rfl⟩
  have HT := Lib.hid ht
  have T64 := Lib.hid t64
  have HMM := Lib.hid hmm
  rw [← ht, ← hmm]
  by_cases c : a < 0
  · have e1 : IntKind.u64.wrap (-IntKind.u64.wrap a) = (t : Int) := by unfold I64 at ha; simp only [IntKind.wrap_u64]; omega
    have em : Hid (mm = true) := by unfold Hid; rw [hmm]; simp [c]
    clear ht t64 hmm
    go_enter Try.func33, Try.ntmps33
    go_wp2
    go_loopw [3] (fun n wr => ∃ (k : Nat) (p : Option Addr) (nn c : Nat) (out : List Nat), n = .int .u64 k ∧ OfRel w wr t mm p nn c out k) (fun n _ => (intOf n).toNat)
    case atStart => exact ⟨t, none, 0, 0, [], rfl, by have h := of_start w t mm; rw [em.out] at h ⊢; exact h⟩
    case round =>
      obtain ⟨k, p, nn, cc, out, rfl, h⟩ := hrel
      have b0 := h.b0
      have b1 := h.b1
      have a0 : wr.cell? ⟨w.heap.size, 0, none⟩ = some (.bool false) := cell_blk b0
      have a1 : wr.cell? ⟨w.heap.size, 1, none⟩ = some (.slice none 0 0) := cell_blk b0
      have a2 : wr.cell? ⟨w.heap.size + 1, 0, none⟩ = some (.bool mm) := cell_blk b1
      have a3 : wr.cell? ⟨w.heap.size + 1, 1, none⟩ = some (.slice p nn cc) := cell_blk b1
      have f0 : wr.frozen? ⟨w.heap.size, 0, none⟩ = false := free_blk b0
      have f1 : wr.frozen? ⟨w.heap.size, 1, none⟩ = false := free_blk b0
      have HR := Lib.hid h
      have nl := h.len
      have n4 := h.top
      have NL := Lib.hid nl
      have n4' : nn ≤ 4 := by omega
      clear h b0 b1 nl n4
      by_cases k0 : 0 < k
      · have l4 := of_len HR.out.sum k0 T64.out
        have L4 := Lib.hid l4
        have K0 := Lib.hid k0
        have k0' : 0 < (k : Int) := by omega
        obtain ⟨d, hd⟩ : ∃ d, d = k % 65536 := ⟨_, rfl⟩
        obtain ⟨q, hq⟩ : ∃ q, q = k / 65536 := ⟨_, rfl⟩
        have kb : k < 18446744073709551616 := by
          have h1 := HR.out.sum
          have h2 := T64.out
          have h3 := Nat.le_mul_of_pos_left k (Nat.pow_pos (n := out.length) (show 0 < 65536 by omega))
          omega
        have e7 : IntKind.u64.wrap (q : Int) = (q : Int) := by rw [IntKind.wrap_u64]; omega
        have e3 : (k : Int) % 65536 = (d : Int) := by omega
        have e4 : (k : Int) / 65536 = (q : Int) := by omega
        have e5 : (d : Int) % 4294967296 = (d : Int) := by omega
        have e6 : IntKind.u32.wrap (d : Int) = (d : Int) := by rw [IntKind.wrap_u32]; omega
        have LT : Hid (q < k) := by unfold Hid; omega
        have DD := Lib.hid hd
        have QQ := Lib.hid hq
        have BM : Hid (out.length + 1 ≤ maxLen) := by unfold Hid maxLen; omega
        have BY : Hid ((out.length + 1) * 4 ≤ 140737488355328) := by unfold Hid; omega
        have BL := HR.out.low.size
        have lt2 := (Array.getElem?_eq_some_iff.1 HR.out.b1).1
        have BS : Hid (w.heap.size + 2 ≤ (wr.alloc (.cells #[.int .u32 (d : Int)] 69)).heap.size) := by unfold Hid; simp; omega
        have OW : Hid (wr.ownsRow (w.heap.size + 2) 69 1 (.slice p nn cc) out.length (out.map (fun d : Nat => Value.int .u32 (d : Int)))) := HR.out.own
        clear k0 l4 hd hq BL lt2 kb
        go_wp2_with (at_builtin; refine wpList_append_own _ rfl _ _ 52 rfl (w.heap.size + 2) 69 i0 (.int .u32 0) 1 4 Try.underlying52 hi hz0 hz1 hz2 rfl (by decide) _ _ _ rfl (World.ownsRow.alloc OW.out _) ⟨wr.heap.size, 0, none⟩ 1 1 [.int .u32 (d : Int)] rfl rfl (one_new wr _ _) (one_cell d) BM.out BY.out BS.out ?_)
        intro v' w1 hown1 hgrow1 _
        obtain ⟨p', cc', rfl⟩ := row_shape hown1
        obtain ⟨nn', hn'⟩ : ∃ z, z = out.length + 1 := ⟨_, rfl⟩
        have hblk : ∀ j, j < w.heap.size + 2 → w1.heap[j]? = wr.heap[j]? := fun j hj => by
          have lt2 := (Array.getElem?_eq_some_iff.1 HR.out.b1).1
          rw [hgrow1.block j (by simp; omega) (fun e => by have := (World.ownsRow.lt HR.out.own j e.symm).1; omega)]
          exact Below.heap_alloc _ _ _ (by omega)
        have g1 : w1.cell? ⟨w.heap.size + 1, 1, none⟩ = some (.slice p nn cc) := by rw [cell_blk ((hblk _ (by omega)).trans HR.out.b1)]; rfl
        have g2 : w1.frozen? ⟨w.heap.size + 1, 1, none⟩ = false := free_blk ((hblk _ (by omega)).trans HR.out.b1)
        have HN : Hid (OfRel w (w1.setCell ⟨w.heap.size + 1, 1, none⟩ (.slice p' nn' cc')) t mm p' nn' cc' (out ++ [d]) q) := by
          unfold Hid
          rw [DD.out, QQ.out]
          rw [DD.out] at hown1
          rw [hn'] at *
          exact of_next K0.out L4.out HR.out hown1 rfl hgrow1
        rw [← hn']
        clear hown1 hgrow1 hblk hn'
        go_wp2
        go_roundw
        case rel => exact ⟨q, p', nn', cc', out ++ [d], rfl, HN.out⟩
        case measure => have := LT.out; simp [intOf]; omega
      · obtain rfl : k = 0 := by omega
        have fin : BigPost w mm t 4 (.returned (.agg #[.bool mm, .slice p nn cc])) ((wr.setCell ⟨w.heap.size, 0, none⟩ (.bool mm)).setCell ⟨w.heap.size, 1, none⟩ (.slice p nn cc)) := by
          have h := HR.out
          refine ⟨_, rfl, ⟨_, out, rfl, own_set (own_set h.own.weak h.b0 (by decide) _) (set_block h.b0) (by decide) _, h.dig, h.can rfl, by simpa using h.sum, h.top⟩, ?_⟩
          exact (h.low.setCell (Nat.le_refl _) _).setCell (Nat.le_refl _) _
        have FIN := Lib.hid fin
        clear fin k0
        go_wp2
        exact bodyPost_ret (v := .agg #[.bool mm, .slice p nn cc]) (by simp [results, Try.results33, go_sem, a0, a1]) rfl FIN.out
  · have e1 : IntKind.u64.wrap a = (t : Int) := by unfold I64 at ha; simp only [IntKind.wrap_u64]; omega
    have em : Hid (mm = false) := by unfold Hid; rw [hmm]; simp [c]
    have c' : 0 ≤ a := by omega
    have cf : decide (a < 0) = false := by simp; omega
    clear ht t64 hmm c
    go_enter Try.func33, Try.ntmps33
    go_wp2
    go_loopw [3] (fun n wr => ∃ (k : Nat) (p : Option Addr) (nn c : Nat) (out : List Nat), n = .int .u64 k ∧ OfRel w wr t mm p nn c out k) (fun n _ => (intOf n).toNat)
    case atStart => exact ⟨t, none, 0, 0, [], rfl, by have h := of_start w t mm; rw [em.out] at h ⊢; exact h⟩
    case round =>
      obtain ⟨k, p, nn, cc, out, rfl, h⟩ := hrel
      have b0 := h.b0
      have b1 := h.b1
      have a0 : wr.cell? ⟨w.heap.size, 0, none⟩ = some (.bool false) := cell_blk b0
      have a1 : wr.cell? ⟨w.heap.size, 1, none⟩ = some (.slice none 0 0) := cell_blk b0
      have a2 : wr.cell? ⟨w.heap.size + 1, 0, none⟩ = some (.bool mm) := cell_blk b1
      have a3 : wr.cell? ⟨w.heap.size + 1, 1, none⟩ = some (.slice p nn cc) := cell_blk b1
      have f0 : wr.frozen? ⟨w.heap.size, 0, none⟩ = false := free_blk b0
      have f1 : wr.frozen? ⟨w.heap.size, 1, none⟩ = false := free_blk b0
      have HR := Lib.hid h
      have nl := h.len
      have n4 := h.top
      have NL := Lib.hid nl
      have n4' : nn ≤ 4 := by omega
      clear h b0 b1 nl n4
      by_cases k0 : 0 < k
      · have l4 := of_len HR.out.sum k0 T64.out
        have L4 := Lib.hid l4
        have K0 := Lib.hid k0
        have k0' : 0 < (k : Int) := by omega
        obtain ⟨d, hd⟩ : ∃ d, d = k % 65536 := ⟨_, rfl⟩
        obtain ⟨q, hq⟩ : ∃ q, q = k / 65536 := ⟨_, rfl⟩
        have kb : k < 18446744073709551616 := by
          have h1 := HR.out.sum
          have h2 := T64.out
          have h3 := Nat.le_mul_of_pos_left k (Nat.pow_pos (n := out.length) (show 0 < 65536 by omega))
          omega
        have e7 : IntKind.u64.wrap (q : Int) = (q : Int) := by rw [IntKind.wrap_u64]; omega
        have e3 : (k : Int) % 65536 = (d : Int) := by omega
        have e4 : (k : Int) / 65536 = (q : Int) := by omega
        have e5 : (d : Int) % 4294967296 = (d : Int) := by omega
        have e6 : IntKind.u32.wrap (d : Int) = (d : Int) := by rw [IntKind.wrap_u32]; omega
        have LT : Hid (q < k) := by unfold Hid; omega
        have DD := Lib.hid hd
        have QQ := Lib.hid hq
        have BM : Hid (out.length + 1 ≤ maxLen) := by unfold Hid maxLen; omega
        have BY : Hid ((out.length + 1) * 4 ≤ 140737488355328) := by unfold Hid; omega
        have BL := HR.out.low.size
        have lt2 := (Array.getElem?_eq_some_iff.1 HR.out.b1).1
        have BS : Hid (w.heap.size + 2 ≤ (wr.alloc (.cells #[.int .u32 (d : Int)] 69)).heap.size) := by unfold Hid; simp; omega
        have OW : Hid (wr.ownsRow (w.heap.size + 2) 69 1 (.slice p nn cc) out.length (out.map (fun d : Nat => Value.int .u32 (d : Int)))) := HR.out.own
        clear k0 l4 hd hq BL lt2 kb
        go_wp2_with (at_builtin; refine wpList_append_own _ rfl _ _ 52 rfl (w.heap.size + 2) 69 i0 (.int .u32 0) 1 4 Try.underlying52 hi hz0 hz1 hz2 rfl (by decide) _ _ _ rfl (World.ownsRow.alloc OW.out _) ⟨wr.heap.size, 0, none⟩ 1 1 [.int .u32 (d : Int)] rfl rfl (one_new wr _ _) (one_cell d) BM.out BY.out BS.out ?_)
        intro v' w1 hown1 hgrow1 _
        obtain ⟨p', cc', rfl⟩ := row_shape hown1
        obtain ⟨nn', hn'⟩ : ∃ z, z = out.length + 1 := ⟨_, rfl⟩
        have hblk : ∀ j, j < w.heap.size + 2 → w1.heap[j]? = wr.heap[j]? := fun j hj => by
          have lt2 := (Array.getElem?_eq_some_iff.1 HR.out.b1).1
          rw [hgrow1.block j (by simp; omega) (fun e => by have := (World.ownsRow.lt HR.out.own j e.symm).1; omega)]
          exact Below.heap_alloc _ _ _ (by omega)
        have g1 : w1.cell? ⟨w.heap.size + 1, 1, none⟩ = some (.slice p nn cc) := by rw [cell_blk ((hblk _ (by omega)).trans HR.out.b1)]; rfl
        have g2 : w1.frozen? ⟨w.heap.size + 1, 1, none⟩ = false := free_blk ((hblk _ (by omega)).trans HR.out.b1)
        have HN : Hid (OfRel w (w1.setCell ⟨w.heap.size + 1, 1, none⟩ (.slice p' nn' cc')) t mm p' nn' cc' (out ++ [d]) q) := by
          unfold Hid
          rw [DD.out, QQ.out]
          rw [DD.out] at hown1
          rw [hn'] at *
          exact of_next K0.out L4.out HR.out hown1 rfl hgrow1
        rw [← hn']
        clear hown1 hgrow1 hblk hn'
        go_wp2
        go_roundw
        case rel => exact ⟨q, p', nn', cc', out ++ [d], rfl, HN.out⟩
        case measure => have := LT.out; simp [intOf]; omega
      · obtain rfl : k = 0 := by omega
        have fin : BigPost w mm t 4 (.returned (.agg #[.bool mm, .slice p nn cc])) ((wr.setCell ⟨w.heap.size, 0, none⟩ (.bool mm)).setCell ⟨w.heap.size, 1, none⟩ (.slice p nn cc)) := by
          have h := HR.out
          refine ⟨_, rfl, ⟨_, out, rfl, own_set (own_set h.own.weak h.b0 (by decide) _) (set_block h.b0) (by decide) _, h.dig, h.can rfl, by simpa using h.sum, h.top⟩, ?_⟩
          exact (h.low.setCell (Nat.le_refl _) _).setCell (Nat.le_refl _) _
        have FIN := Lib.hid fin
        clear fin k0
        go_wp2
        exact bodyPost_ret (v := .agg #[.bool mm, .slice p nn cc]) (by simp [results, Try.results33, go_sem, a0, a1]) rfl FIN.out
end Go.Proofs.Ytokhlagcflkocaa

