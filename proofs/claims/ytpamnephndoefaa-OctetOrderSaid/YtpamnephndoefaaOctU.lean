/- Contracts of the document's own answers for layer 3 (octet): what a signed number stands as. -/
import Derived.Test.YtpamnephndoefaaOctS
namespace Go.Proofs.Ytpamnephndoefaa
open Go.ChangeShapes Go.WideShapes Go.ChangeAt Go.RowKit OctM

theorem absM_lt (n : Int) (h : I64 n) : absM n < 9223372036854775808 := by unfold absM; unfold I64 at h; split <;> omega
theorem absM_neg (n : Int) (h : n < 0) : -(n + 1) = (absM n : Nat) := by unfold absM; rw [if_pos h]; omega
theorem absM_pos (n : Int) (h : 0 ≤ n) : n = (absM n : Nat) := by unfold absM; rw [if_neg (by omega)]; omega

theorem runsigned_arg (w : World) (n z : Int) (h : ¬ okS z) :
    Calls Try.prog 27 #[.int .i64 n, .int .i64 z] w (TellPost w (.returned (.tuple #[.int .u64 0, .int .i64 1]))) := by
  have SO := Lib.hid (rsize_no z h)
  have FIN : Hid (TellPost w (.returned (.tuple #[.int .u64 0, .int .i64 1])) (.returned (.tuple #[.int .u64 0, .int .i64 1])) w) := ⟨rfl, Below.refl _ _⟩
  clear h
  go_enter Try.func27, Try.ntmps27
  go_wp2_with fail
  refine (SO.out _).mono ?_; rintro e w' ⟨rfl, rfl⟩
  go_wp2
  go_ret2
  exact FIN.out

theorem runsigned_range (w : World) (n : Int) (s : Nat) (h : I64 n) (h1 : 1 ≤ s) (h8 : s ≤ 8) (hx : ¬ absM n < 256 ^ s) :
    Calls Try.prog 27 #[.int .i64 n, .int .i64 s] w (TellPost w (.returned (.tuple #[.int .u64 0, .int .i64 20]))) := by
  obtain ⟨m, hm⟩ : ∃ m, m = absM n := ⟨_, rfl⟩
  have mb : m < 9223372036854775808 := by rw [hm]; exact absM_lt n h
  have mb' : (m : Int) < 9223372036854775808 := by omega
  have SO := Lib.hid (rsize_ok (s : Int) ⟨by omega, by omega⟩)
  have DG := rdigits_any w m s (by omega) h1 h8
  replace DG := Lib.hid DG
  rw [← hm] at hx
  have hf : Hid (decide (m < 256 ^ s) = false) := by unfold Hid; simp; omega
  by_cases c : n < 0
  · have c1 : n < 0 := c
    have c2 : decide (n < 0) = true := by simp; omega
    have c3 : decide (0 ≤ n) = false := by simp; omega
    have em : -(n + 1) = (m : Int) := by rw [hm]; exact absM_neg n c
    have c4 : -9223372036854775808 ≤ n := h.1
    clear c h hm mb hx h1 h8
    go_enter Try.func27, Try.ntmps27
    go_wp2_with fail
    refine (SO.out _).mono ?_; rintro e w' ⟨rfl, rfl⟩
    go_wp2_with fail
    refine DG.out.mono ?_; rintro e w' ⟨cs, rfl, hb, hc, hl⟩
    rw [hf.out]
    have FIN : Hid (TellPost w (.returned (.tuple #[.int .u64 0, .int .i64 20])) (.returned (.tuple #[.int .u64 0, .int .i64 20])) w') := ⟨rfl, hl⟩
    clear hb hc hl
    go_wp2
    go_ret2
    exact FIN.out
  · have c1 : 0 ≤ n := by omega
    have c2 : decide (n < 0) = false := by simp; omega
    have c3 : decide (0 ≤ n) = true := by simp; omega
    obtain rfl : n = (m : Int) := by rw [hm]; exact absM_pos n c1
    clear c h hm mb hx h1 h8
    go_enter Try.func27, Try.ntmps27
    go_wp2_with fail
    refine (SO.out _).mono ?_; rintro e w' ⟨rfl, rfl⟩
    go_wp2_with fail
    refine DG.out.mono ?_; rintro e w' ⟨cs, rfl, hb, hc, hl⟩
    rw [hf.out]
    have FIN : Hid (TellPost w (.returned (.tuple #[.int .u64 0, .int .i64 20])) (.returned (.tuple #[.int .u64 0, .int .i64 20])) w') := ⟨rfl, hl⟩
    clear hb hc hl
    go_wp2
    go_ret2
    exact FIN.out

theorem runsigned_half (w : World) (n : Int) (s : Nat) (h : I64 n) (h1 : 1 ≤ s) (h8 : s ≤ 8) (hx : absM n < 256 ^ s) (hh : ¬ absM n < halfN s) :
    Calls Try.prog 27 #[.int .i64 n, .int .i64 s] w (TellPost w (.returned (.tuple #[.int .u64 0, .int .i64 20]))) := by
  obtain ⟨m, hm⟩ : ∃ m, m = absM n := ⟨_, rfl⟩
  have mb : m < 9223372036854775808 := by rw [hm]; exact absM_lt n h
  have mb' : (m : Int) < 9223372036854775808 := by omega
  have SO := Lib.hid (rsize_ok (s : Int) ⟨by omega, by omega⟩)
  have DG := rdigits_any w m s (by omega) h1 h8
  replace DG := Lib.hid DG
  rw [← hm] at hx hh
  have hf : Hid (decide (m < 256 ^ s) = true) := by unfold Hid; simp; omega
  have td : (digN m s).getD 0 0 < 128 ↔ m < halfN s := top_dig m s h1 hx
  obtain ⟨d, hd⟩ : ∃ d, d = (digN m s).getD 0 0 := ⟨_, rfl⟩
  rw [← hd] at td
  have HD := Lib.hid hd
  have g1 : 128 ≤ (d : Int) := by omega
  have g2 : decide (128 ≤ (d : Int)) = true := by simp; omega
  have g3 : decide (128 ≤ d) = true := by simp; omega
  have s1 : (1 : Int) ≤ (s : Int) := by omega
  have S1 := Lib.hid h1
  by_cases c : n < 0
  · have c1 : n < 0 := c
    have c2 : decide (n < 0) = true := by simp; omega
    have c3 : decide (0 ≤ n) = false := by simp; omega
    have em : -(n + 1) = (m : Int) := by rw [hm]; exact absM_neg n c
    have c4 : -9223372036854775808 ≤ n := h.1
    clear c h hm mb hx hh h1 h8 td hd
    go_enter Try.func27, Try.ntmps27
    go_wp2_with fail
    refine (SO.out _).mono ?_; rintro e w' ⟨rfl, rfl⟩
    go_wp2_with fail
    refine DG.out.mono ?_; rintro e w' ⟨cs, rfl, hb, hc, hl⟩
    rw [hf.out]
    have c0 : w'.cell? ⟨w.heap.size, 0, none⟩ = some (.int .u8 d) := by
      rw [blk_cell hb, ← Array.getElem?_toList, hc, valsN_get (by rw [digN_len]; exact S1.out), ← HD.out]
    have a0 : (⟨w.heap.size, 0, none⟩ : Addr).add 0 = ⟨w.heap.size, 0, none⟩ := add_zero' _ _
    have FIN : Hid (TellPost w (.returned (.tuple #[.int .u64 0, .int .i64 20])) (.returned (.tuple #[.int .u64 0, .int .i64 20])) w') := ⟨rfl, hl⟩
    clear hb hc hl
    go_wp2
    go_ret2
    exact FIN.out
  · have c1 : 0 ≤ n := by omega
    have c2 : decide (n < 0) = false := by simp; omega
    have c3 : decide (0 ≤ n) = true := by simp; omega
    obtain rfl : n = (m : Int) := by rw [hm]; exact absM_pos n c1
    clear c h hm mb hx hh h1 h8 td hd
    go_enter Try.func27, Try.ntmps27
    go_wp2_with fail
    refine (SO.out _).mono ?_; rintro e w' ⟨rfl, rfl⟩
    go_wp2_with fail
    refine DG.out.mono ?_; rintro e w' ⟨cs, rfl, hb, hc, hl⟩
    rw [hf.out]
    have c0 : w'.cell? ⟨w.heap.size, 0, none⟩ = some (.int .u8 d) := by
      rw [blk_cell hb, ← Array.getElem?_toList, hc, valsN_get (by rw [digN_len]; exact S1.out), ← HD.out]
    have a0 : (⟨w.heap.size, 0, none⟩ : Addr).add 0 = ⟨w.heap.size, 0, none⟩ := add_zero' _ _
    have FIN : Hid (TellPost w (.returned (.tuple #[.int .u64 0, .int .i64 20])) (.returned (.tuple #[.int .u64 0, .int .i64 20])) w') := ⟨rfl, hl⟩
    clear hb hc hl
    go_wp2
    go_ret2
    exact FIN.out

theorem runsigned_pos (w : World) (n : Int) (s : Nat) (h : I64 n) (h1 : 1 ≤ s) (h8 : s ≤ 8) (hh : absM n < halfN s) (c : 0 ≤ n) :
    Calls Try.prog 27 #[.int .i64 n, .int .i64 s] w (TellPost w (.returned (.tuple #[.int .u64 n, .int .i64 0]))) := by
  obtain ⟨m, hm⟩ : ∃ m, m = absM n := ⟨_, rfl⟩
  have mb : m < 9223372036854775808 := by rw [hm]; exact absM_lt n h
  have mb' : (m : Int) < 9223372036854775808 := by omega
  have SO := Lib.hid (rsize_ok (s : Int) ⟨by omega, by omega⟩)
  have DG := rdigits_any w m s (by omega) h1 h8
  replace DG := Lib.hid DG
  rw [← hm] at hh
  have hx : m < 256 ^ s := by rw [two_halves s h1]; omega
  have hf : Hid (decide (m < 256 ^ s) = true) := by unfold Hid; simp; omega
  have td : (digN m s).getD 0 0 < 128 ↔ m < halfN s := top_dig m s h1 hx
  obtain ⟨d, hd⟩ : ∃ d, d = (digN m s).getD 0 0 := ⟨_, rfl⟩
  rw [← hd] at td
  have HD := Lib.hid hd
  have g1 : (d : Int) < 128 := by omega
  have g2 : decide (128 ≤ (d : Int)) = false := by simp; omega
  have g3 : decide (128 ≤ d) = false := by simp; omega
  have s1 : (1 : Int) ≤ (s : Int) := by omega
  have S1 := Lib.hid h1
  have S8 := Lib.hid h8
  have c1 : 0 ≤ n := c
  have c2 : decide (n < 0) = false := by simp; omega
  have c3 : decide (0 ≤ n) = true := by simp; omega
  obtain rfl : n = (m : Int) := by rw [hm]; exact absM_pos n c1
  clear c h hm mb hx hh h1 h8 td hd
  go_enter Try.func27, Try.ntmps27
  go_wp2_with fail
  refine (SO.out _).mono ?_; rintro e w' ⟨rfl, rfl⟩
  go_wp2_with fail
  refine DG.out.mono ?_; rintro e w' ⟨cs, rfl, hb, hc, hl⟩
  rw [hf.out]
  have c0 : w'.cell? ⟨w.heap.size, 0, none⟩ = some (.int .u8 d) := by
    rw [blk_cell hb, ← Array.getElem?_toList, hc, valsN_get (by rw [digN_len]; exact S1.out), ← HD.out]
  have a0 : (⟨w.heap.size, 0, none⟩ : Addr).add 0 = ⟨w.heap.size, 0, none⟩ := add_zero' _ _
  have FIN : Hid (TellPost w (.returned (.tuple #[.int .u64 (m : Int), .int .i64 0])) (.returned (.tuple #[.int .u64 (m : Int), .int .i64 0])) w') := ⟨rfl, hl⟩
  clear hb hc hl
  go_wp2
  go_ret2
  exact FIN.out

set_option maxHeartbeats 1600000 in
theorem runsigned_neg (w : World) (n : Int) (s : Nat) (h : I64 n) (h1 : 1 ≤ s) (h8 : s ≤ 8) (hh : absM n < halfN s) (c : n < 0) (v : Nat) (hv : 256 ^ s - 1 - absM n = v) :
    Calls Try.prog 27 #[.int .i64 n, .int .i64 s] w (TellPost w (.returned (.tuple #[.int .u64 v, .int .i64 0]))) := by
  obtain ⟨m, hm⟩ : ∃ m, m = absM n := ⟨_, rfl⟩
  have mb : m < 9223372036854775808 := by rw [hm]; exact absM_lt n h
  have mb' : (m : Int) < 9223372036854775808 := by omega
  have SO := Lib.hid (rsize_ok (s : Int) ⟨by omega, by omega⟩)
  have DG := rdigits_any w m s (by omega) h1 h8
  replace DG := Lib.hid DG
  rw [← hm] at hh hv
  have hx : m < 256 ^ s := by rw [two_halves s h1]; omega
  have VV : Hid (numN (flip (digN m s)) = v) := by unfold Hid; rw [flip_dig hx, hv]
  have hf : Hid (decide (m < 256 ^ s) = true) := by unfold Hid; simp; omega
  have td : (digN m s).getD 0 0 < 128 ↔ m < halfN s := top_dig m s h1 hx
  obtain ⟨d, hd⟩ : ∃ d, d = (digN m s).getD 0 0 := ⟨_, rfl⟩
  rw [← hd] at td
  have HD := Lib.hid hd
  have g1 : (d : Int) < 128 := by omega
  have g2 : decide (128 ≤ (d : Int)) = false := by simp; omega
  have g3 : decide (128 ≤ d) = false := by simp; omega
  have s1 : (1 : Int) ≤ (s : Int) := by omega
  have S1 := Lib.hid h1
  have S8 := Lib.hid h8
  have c1 : n < 0 := c
  have c2 : decide (n < 0) = true := by simp; omega
  have c3 : decide (0 ≤ n) = false := by simp; omega
  have em : -(n + 1) = (m : Int) := by rw [hm]; exact absM_neg n c
  have c4 : -9223372036854775808 ≤ n := h.1
  clear c h hm mb hx hh h1 h8 td hd hv
  go_enter Try.func27, Try.ntmps27
  go_wp2_with fail
  refine (SO.out _).mono ?_; rintro e w' ⟨rfl, rfl⟩
  go_wp2_with fail
  refine DG.out.mono ?_; rintro e w' ⟨cs, rfl, hb, hc, hl⟩
  rw [hf.out]
  have c0 : w'.cell? ⟨w.heap.size, 0, none⟩ = some (.int .u8 d) := by
    rw [blk_cell hb, ← Array.getElem?_toList, hc, valsN_get (by rw [digN_len]; exact S1.out), ← HD.out]
  have a0 : (⟨w.heap.size, 0, none⟩ : Addr).add 0 = ⟨w.heap.size, 0, none⟩ := add_zero' _ _
  have CS : Hid (CRel w w' (digN m s) s 0 cs) := crel_start hb hl hc (digN_len m s)
  clear hb hc hl
  go_wp2
  go_loopw [9] (fun i wr => ∃ (k : Nat) (cs : Array Value), i = .int .i64 k ∧ Hid (k ≤ s) ∧ Hid (CRel w wr (digN m s) s k cs)) (fun i _ => 100 - (intOf i).toNat)
  case atStart => exact ⟨0, cs, rfl, Nat.zero_le _, CS.out⟩
  case round =>
    obtain ⟨k, cs', rfl, hk, h⟩ := hrel
    by_cases g : k < s
    · have g' : (k : Int) < (s : Int) := by omega
      obtain ⟨x, hx⟩ : ∃ x, x = (digN m s).getD k 0 := ⟨_, rfl⟩
      have x1 : x < 256 := by rw [hx]; exact byt_get (digN_byt m s) k
      obtain ⟨q, hq⟩ : ∃ q, q = 255 - x := ⟨_, rfl⟩
      have c0' : wr.cell? ⟨w.heap.size, k, none⟩ = some (.int .u8 x) := by
        rw [blk_cell h.out.blk, h.out.dig k g, if_neg (by omega), ← hx]
      have f0 : wr.frozen? ⟨w.heap.size, k, none⟩ = false := blk_free h.out.blk
      have ak : (⟨w.heap.size, 0, none⟩ : Addr).add k = ⟨w.heap.size, k, none⟩ := add_zero' _ _
      have e1 : (255 : Int) - (x : Int) = (q : Int) := by omega
      have e2 : IntKind.u8.wrap (q : Int) = (q : Int) := by rw [IntKind.wrap_u8]; omega
      have NX := crel_step h.out g
      rw [← hx, ← hq] at NX
      replace NX := Lib.hid NX
      have G := Lib.hid g
      have k8 : (k : Int) ≤ 8 := by have := S8.out; omega
      clear g hx hq x1 h hk
      go_wp2
      go_roundw
      case rel => exact ⟨k + 1, _, by go_num, G.out, NX⟩
      case measure => simp [intOf]; omega
    · have g' : (s : Int) ≤ (k : Int) := by omega
      have ks : k = s := by have := hk.out; omega
      subst ks
      have HH := crel_end h.out (digN_len _ _) S8.out
      have NB := Lib.hid (rnumber_any wr _ _ _ _ HH (flip_byt _) S8.out v VV.out)
      have LOW : Hid (Below w.heap.size w wr) := h.out.low
      clear g HH h hk
      go_wp2_with fail
      refine NB.out.mono ?_; rintro e w' ⟨rfl, rfl⟩
      have FIN : Hid (TellPost w (.returned (.tuple #[.int .u64 v, .int .i64 0])) (.returned (.tuple #[.int .u64 v, .int .i64 0])) wr) := ⟨rfl, LOW.out⟩
      go_wp2
      go_ret2
      exact FIN.out
end Go.Proofs.Ytpamnephndoefaa
