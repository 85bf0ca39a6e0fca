/- Contracts of the document's own answers for layer 3 (octet): signed numbers. -/
import Derived.Test.YtpamnephndoefaaOctA
namespace Go.Proofs.Ytpamnephndoefaa
open Go.ChangeShapes Go.WideShapes Go.ChangeAt Go.RowKit OctM

structure CRel (w wr : World) (ds : List Nat) (s k : Nat) (cs : Array Value) : Prop where
  blk : wr.heap[w.heap.size]? = some (.cells cs 5 (0, 0))
  low : Below w.heap.size w wr
  siz : cs.size = s
  dig : ∀ i, i < s → cs[i]? = some (.int .u8 (if i < k then (255 - ds.getD i 0 : Nat) else (ds.getD i 0 : Nat)))

theorem crel_start {w w1 : World} {ds : List Nat} {s : Nat} {cs : Array Value} (hb : w1.heap[w.heap.size]? = some (.cells cs 5 (0, 0))) (hl : Below w.heap.size w w1) (hc : cs.toList = valsN .u8 ds) (hs : ds.length = s) : CRel w w1 ds s 0 cs := by
  have e : cs.size = s := by rw [← Array.length_toList, hc, valsN_len, hs]
  refine ⟨hb, hl, e, fun i hi => ?_⟩
  rw [if_neg (by omega), ← Array.getElem?_toList, hc, valsN_get (by omega)]
theorem crel_step {w wr : World} {ds : List Nat} {s k : Nat} {cs : Array Value} (h : CRel w wr ds s k cs) (hk : k < s) : CRel w (wr.setCell ⟨w.heap.size, k, none⟩ (.int .u8 (255 - ds.getD k 0 : Nat))) ds s (k + 1) (cs.set! k (.int .u8 (255 - ds.getD k 0 : Nat))) := by
  refine ⟨blk_set h.blk, h.low.setCell (Nat.le_refl _) _, by rw [Array.set!_eq_setIfInBounds, Array.size_setIfInBounds]; exact h.siz, fun i hi => ?_⟩
  rw [Array.set!_eq_setIfInBounds, Array.getElem?_setIfInBounds]
  by_cases e : k = i
  · subst e
    have z := h.siz
    rw [if_pos rfl, if_pos (by omega), if_pos (by omega)]
  · rw [if_neg e, h.dig i hi]
    by_cases g : i < k
    · rw [if_pos g, if_pos (by omega)]
    · rw [if_neg g, if_neg (by omega)]
theorem crel_end {w wr : World} {ds : List Nat} {s : Nat} {cs : Array Value} (h : CRel w wr ds s s cs) (hs : ds.length = s) (hm : s ≤ 8) : Holds wr (some ⟨w.heap.size, 0, none⟩) s s (valsN .u8 (flip ds)) := by
  have e : cs.toList = valsN .u8 (flip ds) := by
    apply List.ext_getElem?
    intro i
    rw [Array.getElem?_toList]
    by_cases g : i < s
    · rw [h.dig i g, if_pos g, valsN_get (by rw [flip_len]; omega), flip_get _ _ (by omega)]
    · rw [Array.getElem?_eq_none (by rw [h.siz]; omega), List.getElem?_eq_none (by rw [valsN_len, flip_len]; omega)]
  have o := own_of_blk h.blk h.siz (by unfold maxLen; omega) (Nat.zero_le _)
  rw [e] at o
  obtain ⟨p, c, hv, hh⟩ := own_holds o
  cases hv
  exact hh

/-- What a call leaves that lays new memory alone, and answers e. -/
def TellPost (w : World) (x : Ending) (e : Ending) (w' : World) : Prop := e = x ∧ Below w.heap.size w w'

theorem rsigned_arg (w : World) (n : Nat) (z : Int) (h : ¬ okS z) :
    Calls Try.prog 25 #[.int .u64 n, .int .i64 z] w (TellPost w (.returned (.tuple #[.int .i64 0, .int .i64 1]))) := by
  have SO := Lib.hid (rsize_no z h)
  have FIN : Hid (TellPost w (.returned (.tuple #[.int .i64 0, .int .i64 1])) (.returned (.tuple #[.int .i64 0, .int .i64 1])) w) := ⟨rfl, Below.refl _ _⟩
  clear h
  go_enter Try.func25, Try.ntmps25
  go_wp2_with fail
  refine (SO.out _).mono ?_; rintro e w' ⟨rfl, rfl⟩
  go_wp2
  go_ret2
  exact FIN.out

theorem rsigned_range (w : World) (n s : Nat) (hn : n < 18446744073709551616) (h1 : 1 ≤ s) (h8 : s ≤ 8) (h : ¬ n < 256 ^ s) :
    Calls Try.prog 25 #[.int .u64 n, .int .i64 s] w (TellPost w (.returned (.tuple #[.int .i64 0, .int .i64 20]))) := by
  have SO := Lib.hid (rsize_ok (s : Int) ⟨by omega, by omega⟩)
  have DG := rdigits_any w n s hn h1 h8
  replace DG := Lib.hid DG
  have hf : Hid (decide (n < 256 ^ s) = false) := by unfold Hid; simp; omega
  clear h hn h1 h8
  go_enter Try.func25, Try.ntmps25
  go_wp2_with fail
  refine (SO.out _).mono ?_; rintro e w' ⟨rfl, rfl⟩
  go_wp2_with fail
  refine DG.out.mono ?_; rintro e w' ⟨cs, rfl, hb, hc, hl⟩
  rw [hf.out]
  have FIN : Hid (TellPost w (.returned (.tuple #[.int .i64 0, .int .i64 20])) (.returned (.tuple #[.int .i64 0, .int .i64 20])) w') := ⟨rfl, hl⟩
  clear hb hc hl
  go_wp2
  go_ret2
  exact FIN.out

theorem rsigned_low (w : World) (n s : Nat) (hn : n < 18446744073709551616) (h1 : 1 ≤ s) (h8 : s ≤ 8) (h : n < halfN s) :
    Calls Try.prog 25 #[.int .u64 n, .int .i64 s] w (TellPost w (.returned (.tuple #[.int .i64 n, .int .i64 0]))) := by
  have SO := Lib.hid (rsize_ok (s : Int) ⟨by omega, by omega⟩)
  have DG := rdigits_any w n s hn h1 h8
  replace DG := Lib.hid DG
  have hx : n < 256 ^ s := by
    unfold halfN at h
    rw [pow_split s h1]
    omega
  have hf : Hid (decide (n < 256 ^ s) = true) := by unfold Hid; simp; omega
  have td := (top_dig n s h1 hx).2 h
  obtain ⟨d, hd⟩ : ∃ d, d = (digN n s).getD 0 0 := ⟨_, rfl⟩
  rw [← hd] at td
  have HD := Lib.hid hd
  have d1 : (d : Int) < 128 := by omega
  have d2 : decide ((d : Int) < 128) = true := by simp; omega
  have d3 : decide (d < 128) = true := by simp; omega
  have hb64 := half_le8 s h1 h8
  unfold halfN at h
  have nb : (n : Int) < 9223372036854775808 := by omega
  have s1 : (1 : Int) ≤ (s : Int) := by omega
  have S1 := Lib.hid h1
  clear h hn h1 h8 hx hd td hb64
  go_enter Try.func25, Try.ntmps25
  go_wp2_with fail
  refine (SO.out _).mono ?_; rintro e w' ⟨rfl, rfl⟩
  go_wp2_with fail
  refine DG.out.mono ?_; rintro e w' ⟨cs, rfl, hb, hc, hl⟩
  rw [hf.out]
  have FIN : Hid (TellPost w (.returned (.tuple #[.int .i64 n, .int .i64 0])) (.returned (.tuple #[.int .i64 n, .int .i64 0])) w') := ⟨rfl, hl⟩
  have c0 : w'.cell? ⟨w.heap.size, 0, none⟩ = some (.int .u8 d) := by
    rw [blk_cell hb, ← Array.getElem?_toList, hc, valsN_get (by rw [digN_len]; exact S1.out), ← HD.out]
  have a0 : (⟨w.heap.size, 0, none⟩ : Addr).add 0 = ⟨w.heap.size, 0, none⟩ := add_zero' _ _
  clear hb hc hl
  go_wp2
  go_ret2
  exact FIN.out

set_option maxHeartbeats 1600000 in
theorem rsigned_high (w : World) (n s : Nat) (hn : n < 18446744073709551616) (h1 : 1 ≤ s) (h8 : s ≤ 8) (hx : n < 256 ^ s) (h : ¬ n < halfN s) (r : Int) (hr : (n : Int) - (256 ^ s : Nat) = r) :
    Calls Try.prog 25 #[.int .u64 n, .int .i64 s] w (TellPost w (.returned (.tuple #[.int .i64 r, .int .i64 0]))) := by
  have SO := Lib.hid (rsize_ok (s : Int) ⟨by omega, by omega⟩)
  have DG := rdigits_any w n s hn h1 h8
  replace DG := Lib.hid DG
  have hf : Hid (decide (n < 256 ^ s) = true) := by unfold Hid; simp; omega
  have td : ¬ (digN n s).getD 0 0 < 128 := fun g => h ((top_dig n s h1 hx).1 g)
  obtain ⟨d, hd⟩ : ∃ d, d = (digN n s).getD 0 0 := ⟨_, rfl⟩
  rw [← hd] at td
  have HD := Lib.hid hd
  have d1 : 128 ≤ (d : Int) := by omega
  have d2 : decide ((d : Int) < 128) = false := by simp; omega
  have d3 : decide (d < 128) = false := by simp; omega
  obtain ⟨v, hv⟩ : ∃ v, v = 256 ^ s - 1 - n := ⟨_, rfl⟩
  have VV : Hid (numN (flip (digN n s)) = v) := by unfold Hid; rw [flip_dig hx, hv]
  have vb : (v : Int) < 9223372036854775808 := by
    have a := two_halves s h1
    have b := half_le8 s h1 h8
    unfold halfN at a h
    omega
  have VR : Hid (-(v : Int) - 1 = r) := by unfold Hid; omega
  have s1 : (1 : Int) ≤ (s : Int) := by omega
  have S1 := Lib.hid h1
  have S8 := Lib.hid h8
  clear h hn h1 h8 hx hd td hv hr
  go_enter Try.func25, Try.ntmps25
  go_wp2_with fail
  refine (SO.out _).mono ?_; rintro e w' ⟨rfl, rfl⟩
  go_wp2_with fail
  refine DG.out.mono ?_; rintro e w' ⟨cs, rfl, hb, hc, hl⟩
  rw [hf.out]
  have c0 : w'.cell? ⟨w.heap.size, 0, none⟩ = some (.int .u8 d) := by
    rw [blk_cell hb, ← Array.getElem?_toList, hc, valsN_get (by rw [digN_len]; exact S1.out), ← HD.out]
  have a0 : (⟨w.heap.size, 0, none⟩ : Addr).add 0 = ⟨w.heap.size, 0, none⟩ := add_zero' _ _
  have CS : Hid (CRel w w' (digN n s) s 0 cs) := crel_start hb hl hc (digN_len n s)
  clear hb hc hl
  go_wp2
  go_loopw [8] (fun i wr => ∃ (k : Nat) (cs : Array Value), i = .int .i64 k ∧ Hid (k ≤ s) ∧ Hid (CRel w wr (digN n s) s k cs)) (fun i _ => 100 - (intOf i).toNat)
  case atStart => exact ⟨0, cs, rfl, Nat.zero_le _, CS.out⟩
  case round =>
    obtain ⟨k, cs', rfl, hk, h⟩ := hrel
    by_cases g : k < s
    · have g' : (k : Int) < (s : Int) := by omega
      obtain ⟨x, hx⟩ : ∃ x, x = (digN n s).getD k 0 := ⟨_, rfl⟩
      have x1 : x < 256 := by rw [hx]; exact byt_get (digN_byt n s) k
      obtain ⟨q, hq⟩ : ∃ q, q = 255 - x := ⟨_, rfl⟩
      have c0' : wr.cell? ⟨w.heap.size, k, none⟩ = some (.int .u8 x) := by
        rw [blk_cell h.out.blk, h.out.dig k g, if_neg (by omega), ← hx]
      have f0 : wr.frozen? ⟨w.heap.size, k, none⟩ = false := blk_free h.out.blk
      have ak : (⟨w.heap.size, 0, none⟩ : Addr).add k = ⟨w.heap.size, k, none⟩ := add_zero' _ _
      have e1 : (255 : Int) - (x : Int) = (q : Int) := by omega
      have e2 : IntKind.u8.wrap (q : Int) = (q : Int) := by rw [IntKind.wrap_u8]; omega
      have NX := crel_step h.out g
      rw [← hx, ← hq] at NX
      replace NX := Lib.hid NX
      have G := Lib.hid g
      have k8 : (k : Int) ≤ 8 := by have := S8.out; omega
      clear g hx hq x1 h hk
      go_wp2
      go_roundw
      case rel => exact ⟨k + 1, _, by go_num, G.out, NX⟩
      case measure => simp [intOf]; omega
    · have g' : (s : Int) ≤ (k : Int) := by omega
      have ks : k = s := by have := hk.out; omega
      subst ks
      have HH := crel_end h.out (digN_len _ _) S8.out
      have NB := Lib.hid (rnumber_any wr _ _ _ _ HH (flip_byt _) S8.out v VV.out)
      have LOW : Hid (Below w.heap.size w wr) := h.out.low
      clear g HH h hk
      go_wp2_with fail
      refine NB.out.mono ?_; rintro e w' ⟨rfl, rfl⟩
      go_wp2
      go_ret2
      exact ⟨ret_pair VR.out rfl, LOW.out⟩
end Go.Proofs.Ytpamnephndoefaa
