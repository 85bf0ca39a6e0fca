/- Contracts of the document's own answers for layer 3 (octet): a number's digits, in new memory. -/
import Derived.Test.YtpamnephndoefaaOctR
import Derived.Laws.MakeOwn
namespace Go.Proofs.Ytpamnephndoefaa
open Go.ChangeShapes Go.WideShapes Go.ChangeAt Go.RowKit OctM

theorem info8 : (Try.prog.info? 5).map (fun i => (i.zero, i.size, i.bytes)) = some (some (.int .u8 0), 1, 1) := by kernel_rfl
theorem info_of {o : Option TypeInfo} {z : Option Value} {s b : Nat} (h : o.map (fun i => (i.zero, i.size, i.bytes)) = some (z, s, b)) : ∃ i, o = some i ∧ i.zero = z ∧ i.size = s ∧ i.bytes = b := by
  obtain ⟨i, hi, h⟩ := Option.map_eq_some_iff.1 h
  simp only [Prod.mk.injEq] at h
  exact ⟨i, hi, h.1, h.2.1, h.2.2⟩

/-- New bytes, nothing in them. -/
theorem make8 (s : Nat) (hs : s ≤ 1000000) : ∃ C : Array Value, C.size = s ∧ ∀ w, (Instr.makeSlice 24 (.int .i64 (s : Int)) (.int .i64 (s : Int))).run Try.prog w = .ok (.slice (some ⟨w.heap.size, 0, none⟩) s s) (w.alloc (.cells C 5)) := by
  obtain ⟨i, hi, h0, h1, h2⟩ := info_of info8
  refine ⟨madeCells #[Value.int .u8 0] s, size_madeCells _ _, fun w => ?_⟩
  have r := run_make (P := Try.prog) w 24 5 i (.int .u8 0) Try.underlying24 hi h0 .i64 .i64 (s : Int) (s : Int) (by omega) (by omega) (by rw [h2]; omega) (by omega)
  rw [h1, Int.toNat_natCast, Nat.mul_one] at r
  exact r

structure DRel (w wr : World) (n s j m : Nat) (cs : Array Value) : Prop where
  blk : wr.heap[w.heap.size]? = some (.cells cs 5 (0, 0))
  low : Below w.heap.size w wr
  siz : cs.size = s
  top : j ≤ s
  num : n / 256 ^ (s - j) = m
  dig : ∀ i, j ≤ i → i < s → cs[i]? = some (.int .u8 ((digN n s).getD i 0 : Nat))

theorem drel_step {w wr : World} {n s j m : Nat} {cs : Array Value} (h : DRel w wr n s (j + 1) m cs) : DRel w (wr.setCell ⟨w.heap.size, j, none⟩ (.int .u8 (m % 256 : Nat))) n s j (m / 256) (cs.set! j (.int .u8 (m % 256 : Nat))) := by
  have t := h.top
  refine ⟨blk_set h.blk, h.low.setCell (Nat.le_refl _) _, by rw [Array.set!_eq_setIfInBounds, Array.size_setIfInBounds]; exact h.siz, by omega, ?_, fun i hi hs => ?_⟩
  · rw [← h.num, div_step, show s - (j + 1) + 1 = s - j by omega]
  · rw [Array.set!_eq_setIfInBounds, Array.getElem?_setIfInBounds]
    by_cases e : j = i
    · subst e
      have z := h.siz
      rw [if_pos rfl, if_pos (by omega), dig_at _ _ _ hs, show s - 1 - j = s - (j + 1) by omega, h.num]
    · rw [if_neg e]
      exact h.dig i (by omega) hs

theorem drel_end {w wr : World} {n s m : Nat} {cs : Array Value} (h : DRel w wr n s 0 m cs) : cs.toList = valsN .u8 (digN n s) ∧ n / 256 ^ s = m := by
  refine ⟨?_, h.num⟩
  apply List.ext_getElem?
  intro i
  rw [Array.getElem?_toList]
  by_cases g : i < s
  · rw [h.dig i (Nat.zero_le _) g, valsN_get (by rw [digN_len]; exact g)]
  · rw [Array.getElem?_eq_none (by rw [h.siz]; omega), List.getElem?_eq_none (by rw [valsN_len, digN_len]; omega)]

/-- What Digits leaves: new bytes that hold the digits. -/
structure DPost (w : World) (n s : Nat) (e : Ending) (w' : World) : Prop where
  out : ∃ cs, e = .returned (.tuple #[.slice (some ⟨w.heap.size, 0, none⟩) s s, .bool (decide (n < 256 ^ s))]) ∧ w'.heap[w.heap.size]? = some (.cells cs 5 (0, 0)) ∧ cs.toList = valsN .u8 (digN n s) ∧ Below w.heap.size w w'

set_option maxHeartbeats 1600000 in
theorem rdigits_any (w : World) (n s : Nat) (hn : n < 18446744073709551616) (h1 : 1 ≤ s) (h8 : s ≤ 8) :
    Calls Try.prog 35 #[.int .u64 n, .int .i64 s] w (DPost w n s) := by
  obtain ⟨C, hC, mk⟩ := make8 s (by omega)
  have HC := Lib.hid hC
  have HN := Lib.hid hn
  have s1 : (1 : Int) ≤ (s : Int) := by omega
  have s8 : (s : Int) ≤ 8 := by omega
  have H8 := Lib.hid h8
  clear hC hn h1 h8
  go_enter Try.func35, Try.ntmps35
  go_wp2_with fail
  go_loopw [0, 7] (fun nn i wr => ∃ (z : Int) (j m : Nat) (cs : Array Value), nn = .int .u64 m ∧ i = .int .i64 z ∧ Hid (z = (j : Int) - 1) ∧ Hid (m < 18446744073709551616) ∧ Hid (DRel w wr n s j m cs)) (fun _ i _ => (intOf i + 1).toNat)
  case atStart => exact ⟨_, s, n, C, rfl, rfl, rfl, HN.out, ⟨heap_alloc_new w _, (Below.refl _ _).alloc (Nat.le_refl _) _, HC.out, Nat.le_refl _, by rw [Nat.sub_self, Nat.pow_zero, Nat.div_one], fun i h h' => by omega⟩⟩
  case round =>
    obtain ⟨z, j, m, cs, rfl, rfl, hz, hm, h⟩ := hrel
    rcases j with _ | j
    · obtain rfl : z = -1 := by rw [hz.out]; rfl
      have E := drel_end h.out
      obtain ⟨b, hb⟩ : ∃ b, b = decide (n < 256 ^ s) := ⟨_, rfl⟩
      have fb : ((m : Int) == 0) = b := by
        rw [hb, ← E.2]
        have := fits_iff n s
        rw [Bool.eq_iff_iff, beq_iff_eq, decide_eq_true_iff, ← this]
        omega
      have FIN : Hid (DPost w n s (.returned (.tuple #[.slice (some ⟨w.heap.size, 0, none⟩) s s, .bool b])) wr) := by
        unfold Hid
        rw [hb]
        exact ⟨cs, rfl, h.out.blk, E.1, h.out.low⟩
      clear hb E h hz hm
      go_wp2
      go_ret2
      exact FIN.out
    · obtain rfl : z = (j : Int) := by rw [hz.out]; omega
      have jt : (j : Int) < (s : Int) := by have := h.out.top; omega
      have c0 : ∃ u, wr.cell? ⟨w.heap.size, j, none⟩ = some u := by
        rw [blk_cell h.out.blk]
        have t := h.out.top
        have z := h.out.siz
        exact ⟨_, Array.getElem?_eq_getElem (by omega)⟩
      obtain ⟨u, c0⟩ := c0
      have f0 : wr.frozen? ⟨w.heap.size, j, none⟩ = false := blk_free h.out.blk
      have ad : (⟨w.heap.size, 0, none⟩ : Addr).add j = ⟨w.heap.size, j, none⟩ := add_zero' _ _
      obtain ⟨d, hd⟩ : ∃ d, d = m % 256 := ⟨_, rfl⟩
      obtain ⟨q, hq⟩ : ∃ q, q = m / 256 := ⟨_, rfl⟩
      have e1 : (m : Int) % 256 = (d : Int) := by omega
      have e2 : IntKind.u8.wrap (d : Int) = (d : Int) := by rw [IntKind.wrap_u8]; omega
      have e3 : (m : Int) / 256 = (q : Int) := by omega
      have e4 : IntKind.u64.wrap (q : Int) = (q : Int) := by have := hm.out; rw [IntKind.wrap_u64]; omega
      have NX := drel_step h.out
      rw [← hd, ← hq] at NX
      replace NX := Lib.hid NX
      have QB : Hid (q < 18446744073709551616) := by unfold Hid; have := hm.out; omega
      clear hd hq h hz hm
      go_wp2
      go_roundw
      case rel => exact ⟨_, j, q, _, rfl, rfl, rfl, QB, NX⟩
      case measure => simp [intOf]
end Go.Proofs.Ytpamnephndoefaa
