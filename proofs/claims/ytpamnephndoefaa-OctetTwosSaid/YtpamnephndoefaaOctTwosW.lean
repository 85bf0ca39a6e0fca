/- The walk of OctetTwos: signed numbers stand for themselves, size by size. -/
import Derived.Test.YtpamnephndoefaaOctW
namespace Go.Proofs.Ytpamnephndoefaa
open Go.ChangeShapes Go.WideShapes Go.ChangeAt Go.RowKit OctM

set_option maxRecDepth 100000 in
set_option maxHeartbeats 3200000 in
theorem twos_1l (HC : OctCode) (n sz m : Nat) (hz : (sz : Int) % 8 = 0) (hm : (n : Int) / 72057594037927936 = (m : Int)) (m1 : m < 128) (w : World) :
    Calls Try.prog 6 #[.int .u64 n, .int .u8 sz] w fun e w' => e = .returned (.bool true) ∧ Below w.heap.size w w' := by
  have HH := Lib.hid HC
  obtain ⟨s, hs⟩ : ∃ s : Int, s = (m : Int) := ⟨_, rfl⟩
  have S1 : Hid (sgR m 1 = s ∧ sgE m 1 = 0) := by
    have e : sgE m 1 = 0 := by unfold sgE; rw [if_pos (by decide), if_pos (by show m < 256; omega)]
    refine ⟨?_, e⟩
    unfold sgR sgV; rw [if_pos e, if_pos (by show m < 128; omega), hs]
  have A1 : absM s = m := by unfold absM; rw [if_neg (by omega)]; omega
  have U1 : Hid (unR s 1 = m ∧ unE s 1 = 0) := by
    have e : unE s 1 = 0 := by unfold unE; rw [if_pos (by decide), A1, if_pos (by show _ < 128; omega)]
    refine ⟨?_, e⟩
    unfold unR unV; rw [if_pos e, if_neg (by omega)]
    omega
  have sI : Hid (I64 s) := i64k _ (by omega) (by omega)
  have mI : Hid (m < 18446744073709551616) := by unfold Hid; omega
  have b1 : decide (s < 0) = false := by simp; omega
  have b2 : decide (128 ≤ (m : Int)) = false := by simp; omega
  have b3 : decide ((m : Int) < 128) = true := by simp; omega
  have b4 : ((m : Int) != (m : Int)) = false := by simp
  have sl : s = (m : Int) := hs
  have sh : s < 128 := by omega
  subst hs
  have m2 : (m : Int) < 128 := by omega
  clear m1 A1
  go_enter Try.func6, Try.ntmps6
  go_wp2_with fail
  refine (sg_at HH.out _ m 1 (m : Int) 0 mI.out (i64k _ (by omega) (by omega)) S1.out.1 S1.out.2).mono ?_; rintro e w1 ⟨rfl, l1⟩
  go_wp2_with fail
  refine (un_at HH.out _ (m : Int) 1 m 0 sI.out (i64k _ (by omega) (by omega)) U1.out.1 U1.out.2).mono ?_; rintro e w2 ⟨rfl, l2⟩
  go_wp2_with fail
  refine (un_at HH.out _ 128 1 0 20 (i64k _ (by omega) (by omega)) (i64k _ (by omega) (by omega)) (by decide +kernel) (by decide +kernel)).mono ?_; rintro e w3 ⟨rfl, l3⟩
  go_wp2_with fail
  refine (un_at HH.out _ (-129) 1 0 20 (i64k _ (by omega) (by omega)) (i64k _ (by omega) (by omega)) (by decide +kernel) (by decide +kernel)).mono ?_; rintro e w4 ⟨rfl, l4⟩
  go_wp2_with fail
  refine (un_at HH.out _ (-128) 1 128 0 (i64k _ (by omega) (by omega)) (i64k _ (by omega) (by omega)) (by decide +kernel) (by decide +kernel)).mono ?_; rintro e w5 ⟨rfl, l5⟩
  go_wp2_with fail
  refine (sg_at HH.out _ 256 1 0 20 (by omega) (i64k _ (by omega) (by omega)) (by decide +kernel) (by decide +kernel)).mono ?_; rintro e w6 ⟨rfl, l6⟩
  go_wp2_with fail
  refine (awake3_any HH.out _).mono ?_; rintro e w7 ⟨rfl, l7⟩
  have FIN : Hid (Below w.heap.size w w7) := seqB (seqB (seqB (seqB (seqB (seqB l1 l2) l3) l4) l5) l6) l7
  clear l1 l2 l7 l3 l4 l5 l6
  go_wp2
  go_ret
  exact ⟨rfl, FIN.out⟩

set_option maxRecDepth 100000 in
set_option maxHeartbeats 3200000 in
theorem twos_1h (HC : OctCode) (n sz m : Nat) (hz : (sz : Int) % 8 = 0) (hm : (n : Int) / 72057594037927936 = (m : Int)) (m1 : 128 ≤ m ∧ m < 256) (w : World) :
    Calls Try.prog 6 #[.int .u64 n, .int .u8 sz] w fun e w' => e = .returned (.bool true) ∧ Below w.heap.size w w' := by
  have HH := Lib.hid HC
  obtain ⟨m1, m2⟩ := m1
  obtain ⟨s, hs⟩ : ∃ s : Int, s = (m : Int) - 256 := ⟨_, rfl⟩
  have S1 : Hid (sgR m 1 = s ∧ sgE m 1 = 0) := by
    have e : sgE m 1 = 0 := by unfold sgE; rw [if_pos (by decide), if_pos (by show m < 256; omega)]
    refine ⟨?_, e⟩
    unfold sgR sgV; rw [if_pos e, if_neg (by show ¬ m < 128; omega), hs]
    rfl
  have A1 : absM s = 255 - m := by unfold absM; rw [if_pos (by omega)]; omega
  have U1 : Hid (unR s 1 = m ∧ unE s 1 = 0) := by
    have e : unE s 1 = 0 := by unfold unE; rw [if_pos (by decide), A1, if_pos (by show _ < 128; omega)]
    refine ⟨?_, e⟩
    unfold unR unV; rw [if_pos e, if_pos (by omega), show ((256 ^ (Int.toNat 1) : Nat) : Int) = 256 from rfl]
    omega
  have sI : Hid (I64 s) := i64k _ (by omega) (by omega)
  have mI : Hid (m < 18446744073709551616) := by unfold Hid; omega
  have b1 : decide (s < 0) = true := by simp; omega
  have b2 : decide (128 ≤ (m : Int)) = true := by simp; omega
  have b3 : decide ((m : Int) < 128) = false := by simp; omega
  have b4 : ((m : Int) != (m : Int)) = false := by simp
  have b5 : (s != (m : Int)) = true := by simp; omega
  have b6 : (m : Int) - 256 = s := hs.symm
  have b7 : (s != s) = false := by simp
  obtain ⟨t, ht⟩ : ∃ t : Nat, (t : Int) = -s := ⟨(-s).toNat, by omega⟩
  have b8 : -s = (t : Int) := ht.symm
  have b9 : 256 - (m : Int) = (t : Int) := by omega
  have t1 : (t : Int) ≤ 256 := by omega
  have sl : -128 ≤ s := by omega
  have sh : s < 128 := by omega
  have m3 : (m : Int) < 256 := by omega
  have m4 : 128 ≤ (m : Int) := by omega
  clear m1 m2 A1 hs ht
  go_enter Try.func6, Try.ntmps6
  go_wp2_with fail
  refine (sg_at HH.out _ m 1 s 0 mI.out (i64k _ (by omega) (by omega)) S1.out.1 S1.out.2).mono ?_; rintro e w1 ⟨rfl, l1⟩
  go_wp2_with fail
  refine (un_at HH.out _ s 1 m 0 sI.out (i64k _ (by omega) (by omega)) U1.out.1 U1.out.2).mono ?_; rintro e w2 ⟨rfl, l2⟩
  go_wp2_with fail
  refine (un_at HH.out _ 128 1 0 20 (i64k _ (by omega) (by omega)) (i64k _ (by omega) (by omega)) (by decide +kernel) (by decide +kernel)).mono ?_; rintro e w3 ⟨rfl, l3⟩
  go_wp2_with fail
  refine (un_at HH.out _ (-129) 1 0 20 (i64k _ (by omega) (by omega)) (i64k _ (by omega) (by omega)) (by decide +kernel) (by decide +kernel)).mono ?_; rintro e w4 ⟨rfl, l4⟩
  go_wp2_with fail
  refine (un_at HH.out _ (-128) 1 128 0 (i64k _ (by omega) (by omega)) (i64k _ (by omega) (by omega)) (by decide +kernel) (by decide +kernel)).mono ?_; rintro e w5 ⟨rfl, l5⟩
  go_wp2_with fail
  refine (sg_at HH.out _ 256 1 0 20 (by omega) (i64k _ (by omega) (by omega)) (by decide +kernel) (by decide +kernel)).mono ?_; rintro e w6 ⟨rfl, l6⟩
  go_wp2_with fail
  refine (awake3_any HH.out _).mono ?_; rintro e w7 ⟨rfl, l7⟩
  have FIN : Hid (Below w.heap.size w w7) := seqB (seqB (seqB (seqB (seqB (seqB l1 l2) l3) l4) l5) l6) l7
  clear l1 l2 l7 l3 l4 l5 l6
  go_wp2
  go_ret
  exact ⟨rfl, FIN.out⟩

set_option maxRecDepth 100000 in
set_option maxHeartbeats 3200000 in
theorem twos_2l (HC : OctCode) (n sz m : Nat) (hz : (sz : Int) % 8 = 1) (hm : (n : Int) / 281474976710656 = (m : Int)) (m1 : m < 32768) (w : World) :
    Calls Try.prog 6 #[.int .u64 n, .int .u8 sz] w fun e w' => e = .returned (.bool true) ∧ Below w.heap.size w w' := by
  have HH := Lib.hid HC
  obtain ⟨s, hs⟩ : ∃ s : Int, s = (m : Int) := ⟨_, rfl⟩
  have S1 : Hid (sgR m 2 = s ∧ sgE m 2 = 0) := by
    have e : sgE m 2 = 0 := by unfold sgE; rw [if_pos (by decide), if_pos (by show m < 65536; omega)]
    refine ⟨?_, e⟩
    unfold sgR sgV; rw [if_pos e, if_pos (by show m < 32768; omega), hs]
  have A1 : absM s = m := by unfold absM; rw [if_neg (by omega)]; omega
  have U1 : Hid (unR s 2 = m ∧ unE s 2 = 0) := by
    have e : unE s 2 = 0 := by unfold unE; rw [if_pos (by decide), A1, if_pos (by show _ < 32768; omega)]
    refine ⟨?_, e⟩
    unfold unR unV; rw [if_pos e, if_neg (by omega)]
    omega
  have sI : Hid (I64 s) := i64k _ (by omega) (by omega)
  have mI : Hid (m < 18446744073709551616) := by unfold Hid; omega
  have b1 : decide (s < 0) = false := by simp; omega
  have b2 : decide (32768 ≤ (m : Int)) = false := by simp; omega
  have b3 : decide ((m : Int) < 32768) = true := by simp; omega
  have b4 : ((m : Int) != (m : Int)) = false := by simp
  have sl : s = (m : Int) := hs
  have sh : s < 32768 := by omega
  subst hs
  have m2 : (m : Int) < 32768 := by omega
  clear m1 A1
  go_enter Try.func6, Try.ntmps6
  go_wp2_with fail
  refine (sg_at HH.out _ m 2 (m : Int) 0 mI.out (i64k _ (by omega) (by omega)) S1.out.1 S1.out.2).mono ?_; rintro e w1 ⟨rfl, l1⟩
  go_wp2_with fail
  refine (un_at HH.out _ (m : Int) 2 m 0 sI.out (i64k _ (by omega) (by omega)) U1.out.1 U1.out.2).mono ?_; rintro e w2 ⟨rfl, l2⟩
  go_wp2_with fail
  refine (un_at HH.out _ 32768 2 0 20 (i64k _ (by omega) (by omega)) (i64k _ (by omega) (by omega)) (by decide +kernel) (by decide +kernel)).mono ?_; rintro e w3 ⟨rfl, l3⟩
  go_wp2_with fail
  refine (un_at HH.out _ (-32769) 2 0 20 (i64k _ (by omega) (by omega)) (i64k _ (by omega) (by omega)) (by decide +kernel) (by decide +kernel)).mono ?_; rintro e w4 ⟨rfl, l4⟩
  go_wp2_with fail
  refine (un_at HH.out _ (-32768) 2 32768 0 (i64k _ (by omega) (by omega)) (i64k _ (by omega) (by omega)) (by decide +kernel) (by decide +kernel)).mono ?_; rintro e w5 ⟨rfl, l5⟩
  go_wp2_with fail
  refine (sg_at HH.out _ 65536 2 0 20 (by omega) (i64k _ (by omega) (by omega)) (by decide +kernel) (by decide +kernel)).mono ?_; rintro e w6 ⟨rfl, l6⟩
  go_wp2_with fail
  refine (awake3_any HH.out _).mono ?_; rintro e w7 ⟨rfl, l7⟩
  have FIN : Hid (Below w.heap.size w w7) := seqB (seqB (seqB (seqB (seqB (seqB l1 l2) l3) l4) l5) l6) l7
  clear l1 l2 l7 l3 l4 l5 l6
  go_wp2
  go_ret
  exact ⟨rfl, FIN.out⟩

set_option maxRecDepth 100000 in
set_option maxHeartbeats 3200000 in
theorem twos_2h (HC : OctCode) (n sz m : Nat) (hz : (sz : Int) % 8 = 1) (hm : (n : Int) / 281474976710656 = (m : Int)) (m1 : 32768 ≤ m ∧ m < 65536) (w : World) :
    Calls Try.prog 6 #[.int .u64 n, .int .u8 sz] w fun e w' => e = .returned (.bool true) ∧ Below w.heap.size w w' := by
  have HH := Lib.hid HC
  obtain ⟨m1, m2⟩ := m1
  obtain ⟨s, hs⟩ : ∃ s : Int, s = (m : Int) - 65536 := ⟨_, rfl⟩
  have S1 : Hid (sgR m 2 = s ∧ sgE m 2 = 0) := by
    have e : sgE m 2 = 0 := by unfold sgE; rw [if_pos (by decide), if_pos (by show m < 65536; omega)]
    refine ⟨?_, e⟩
    unfold sgR sgV; rw [if_pos e, if_neg (by show ¬ m < 32768; omega), hs]
    rfl
  have A1 : absM s = 65535 - m := by unfold absM; rw [if_pos (by omega)]; omega
  have U1 : Hid (unR s 2 = m ∧ unE s 2 = 0) := by
    have e : unE s 2 = 0 := by unfold unE; rw [if_pos (by decide), A1, if_pos (by show _ < 32768; omega)]
    refine ⟨?_, e⟩
    unfold unR unV; rw [if_pos e, if_pos (by omega), show ((256 ^ (Int.toNat 2) : Nat) : Int) = 65536 from rfl]
    omega
  have sI : Hid (I64 s) := i64k _ (by omega) (by omega)
  have mI : Hid (m < 18446744073709551616) := by unfold Hid; omega
  have b1 : decide (s < 0) = true := by simp; omega
  have b2 : decide (32768 ≤ (m : Int)) = true := by simp; omega
  have b3 : decide ((m : Int) < 32768) = false := by simp; omega
  have b4 : ((m : Int) != (m : Int)) = false := by simp
  have b5 : (s != (m : Int)) = true := by simp; omega
  have b6 : (m : Int) - 65536 = s := hs.symm
  have b7 : (s != s) = false := by simp
  obtain ⟨t, ht⟩ : ∃ t : Nat, (t : Int) = -s := ⟨(-s).toNat, by omega⟩
  have b8 : -s = (t : Int) := ht.symm
  have b9 : 65536 - (m : Int) = (t : Int) := by omega
  have t1 : (t : Int) ≤ 65536 := by omega
  have sl : -32768 ≤ s := by omega
  have sh : s < 32768 := by omega
  have m3 : (m : Int) < 65536 := by omega
  have m4 : 32768 ≤ (m : Int) := by omega
  clear m1 m2 A1 hs ht
  go_enter Try.func6, Try.ntmps6
  go_wp2_with fail
  refine (sg_at HH.out _ m 2 s 0 mI.out (i64k _ (by omega) (by omega)) S1.out.1 S1.out.2).mono ?_; rintro e w1 ⟨rfl, l1⟩
  go_wp2_with fail
  refine (un_at HH.out _ s 2 m 0 sI.out (i64k _ (by omega) (by omega)) U1.out.1 U1.out.2).mono ?_; rintro e w2 ⟨rfl, l2⟩
  go_wp2_with fail
  refine (un_at HH.out _ 32768 2 0 20 (i64k _ (by omega) (by omega)) (i64k _ (by omega) (by omega)) (by decide +kernel) (by decide +kernel)).mono ?_; rintro e w3 ⟨rfl, l3⟩
  go_wp2_with fail
  refine (un_at HH.out _ (-32769) 2 0 20 (i64k _ (by omega) (by omega)) (i64k _ (by omega) (by omega)) (by decide +kernel) (by decide +kernel)).mono ?_; rintro e w4 ⟨rfl, l4⟩
  go_wp2_with fail
  refine (un_at HH.out _ (-32768) 2 32768 0 (i64k _ (by omega) (by omega)) (i64k _ (by omega) (by omega)) (by decide +kernel) (by decide +kernel)).mono ?_; rintro e w5 ⟨rfl, l5⟩
  go_wp2_with fail
  refine (sg_at HH.out _ 65536 2 0 20 (by omega) (i64k _ (by omega) (by omega)) (by decide +kernel) (by decide +kernel)).mono ?_; rintro e w6 ⟨rfl, l6⟩
  go_wp2_with fail
  refine (awake3_any HH.out _).mono ?_; rintro e w7 ⟨rfl, l7⟩
  have FIN : Hid (Below w.heap.size w w7) := seqB (seqB (seqB (seqB (seqB (seqB l1 l2) l3) l4) l5) l6) l7
  clear l1 l2 l7 l3 l4 l5 l6
  go_wp2
  go_ret
  exact ⟨rfl, FIN.out⟩

set_option maxRecDepth 100000 in
set_option maxHeartbeats 3200000 in
theorem twos_3l (HC : OctCode) (n sz m : Nat) (hz : (sz : Int) % 8 = 2) (hm : (n : Int) / 1099511627776 = (m : Int)) (m1 : m < 8388608) (w : World) :
    Calls Try.prog 6 #[.int .u64 n, .int .u8 sz] w fun e w' => e = .returned (.bool true) ∧ Below w.heap.size w w' := by
  have HH := Lib.hid HC
  obtain ⟨s, hs⟩ : ∃ s : Int, s = (m : Int) := ⟨_, rfl⟩
  have S1 : Hid (sgR m 3 = s ∧ sgE m 3 = 0) := by
    have e : sgE m 3 = 0 := by unfold sgE; rw [if_pos (by decide), if_pos (by show m < 16777216; omega)]
    refine ⟨?_, e⟩
    unfold sgR sgV; rw [if_pos e, if_pos (by show m < 8388608; omega), hs]
  have A1 : absM s = m := by unfold absM; rw [if_neg (by omega)]; omega
  have U1 : Hid (unR s 3 = m ∧ unE s 3 = 0) := by
    have e : unE s 3 = 0 := by unfold unE; rw [if_pos (by decide), A1, if_pos (by show _ < 8388608; omega)]
    refine ⟨?_, e⟩
    unfold unR unV; rw [if_pos e, if_neg (by omega)]
    omega
  have sI : Hid (I64 s) := i64k _ (by omega) (by omega)
  have mI : Hid (m < 18446744073709551616) := by unfold Hid; omega
  have b1 : decide (s < 0) = false := by simp; omega
  have b2 : decide (8388608 ≤ (m : Int)) = false := by simp; omega
  have b3 : decide ((m : Int) < 8388608) = true := by simp; omega
  have b4 : ((m : Int) != (m : Int)) = false := by simp
  have sl : s = (m : Int) := hs
  have sh : s < 8388608 := by omega
  subst hs
  have m2 : (m : Int) < 8388608 := by omega
  clear m1 A1
  go_enter Try.func6, Try.ntmps6
  go_wp2_with fail
  refine (sg_at HH.out _ m 3 (m : Int) 0 mI.out (i64k _ (by omega) (by omega)) S1.out.1 S1.out.2).mono ?_; rintro e w1 ⟨rfl, l1⟩
  go_wp2_with fail
  refine (un_at HH.out _ (m : Int) 3 m 0 sI.out (i64k _ (by omega) (by omega)) U1.out.1 U1.out.2).mono ?_; rintro e w2 ⟨rfl, l2⟩
  go_wp2_with fail
  refine (un_at HH.out _ 8388608 3 0 20 (i64k _ (by omega) (by omega)) (i64k _ (by omega) (by omega)) (by decide +kernel) (by decide +kernel)).mono ?_; rintro e w3 ⟨rfl, l3⟩
  go_wp2_with fail
  refine (un_at HH.out _ (-8388609) 3 0 20 (i64k _ (by omega) (by omega)) (i64k _ (by omega) (by omega)) (by decide +kernel) (by decide +kernel)).mono ?_; rintro e w4 ⟨rfl, l4⟩
  go_wp2_with fail
  refine (un_at HH.out _ (-8388608) 3 8388608 0 (i64k _ (by omega) (by omega)) (i64k _ (by omega) (by omega)) (by decide +kernel) (by decide +kernel)).mono ?_; rintro e w5 ⟨rfl, l5⟩
  go_wp2_with fail
  refine (sg_at HH.out _ 16777216 3 0 20 (by omega) (i64k _ (by omega) (by omega)) (by decide +kernel) (by decide +kernel)).mono ?_; rintro e w6 ⟨rfl, l6⟩
  go_wp2_with fail
  refine (awake3_any HH.out _).mono ?_; rintro e w7 ⟨rfl, l7⟩
  have FIN : Hid (Below w.heap.size w w7) := seqB (seqB (seqB (seqB (seqB (seqB l1 l2) l3) l4) l5) l6) l7
  clear l1 l2 l7 l3 l4 l5 l6
  go_wp2
  go_ret
  exact ⟨rfl, FIN.out⟩

set_option maxRecDepth 100000 in
set_option maxHeartbeats 3200000 in
theorem twos_3h (HC : OctCode) (n sz m : Nat) (hz : (sz : Int) % 8 = 2) (hm : (n : Int) / 1099511627776 = (m : Int)) (m1 : 8388608 ≤ m ∧ m < 16777216) (w : World) :
    Calls Try.prog 6 #[.int .u64 n, .int .u8 sz] w fun e w' => e = .returned (.bool true) ∧ Below w.heap.size w w' := by
  have HH := Lib.hid HC
  obtain ⟨m1, m2⟩ := m1
  obtain ⟨s, hs⟩ : ∃ s : Int, s = (m : Int) - 16777216 := ⟨_, rfl⟩
  have S1 : Hid (sgR m 3 = s ∧ sgE m 3 = 0) := by
    have e : sgE m 3 = 0 := by unfold sgE; rw [if_pos (by decide), if_pos (by show m < 16777216; omega)]
    refine ⟨?_, e⟩
    unfold sgR sgV; rw [if_pos e, if_neg (by show ¬ m < 8388608; omega), hs]
    rfl
  have A1 : absM s = 16777215 - m := by unfold absM; rw [if_pos (by omega)]; omega
  have U1 : Hid (unR s 3 = m ∧ unE s 3 = 0) := by
    have e : unE s 3 = 0 := by unfold unE; rw [if_pos (by decide), A1, if_pos (by show _ < 8388608; omega)]
    refine ⟨?_, e⟩
    unfold unR unV; rw [if_pos e, if_pos (by omega), show ((256 ^ (Int.toNat 3) : Nat) : Int) = 16777216 from rfl]
    omega
  have sI : Hid (I64 s) := i64k _ (by omega) (by omega)
  have mI : Hid (m < 18446744073709551616) := by unfold Hid; omega
  have b1 : decide (s < 0) = true := by simp; omega
  have b2 : decide (8388608 ≤ (m : Int)) = true := by simp; omega
  have b3 : decide ((m : Int) < 8388608) = false := by simp; omega
  have b4 : ((m : Int) != (m : Int)) = false := by simp
  have b5 : (s != (m : Int)) = true := by simp; omega
  have b6 : (m : Int) - 16777216 = s := hs.symm
  have b7 : (s != s) = false := by simp
  obtain ⟨t, ht⟩ : ∃ t : Nat, (t : Int) = -s := ⟨(-s).toNat, by omega⟩
  have b8 : -s = (t : Int) := ht.symm
  have b9 : 16777216 - (m : Int) = (t : Int) := by omega
  have t1 : (t : Int) ≤ 16777216 := by omega
  have sl : -8388608 ≤ s := by omega
  have sh : s < 8388608 := by omega
  have m3 : (m : Int) < 16777216 := by omega
  have m4 : 8388608 ≤ (m : Int) := by omega
  clear m1 m2 A1 hs ht
  go_enter Try.func6, Try.ntmps6
  go_wp2_with fail
  refine (sg_at HH.out _ m 3 s 0 mI.out (i64k _ (by omega) (by omega)) S1.out.1 S1.out.2).mono ?_; rintro e w1 ⟨rfl, l1⟩
  go_wp2_with fail
  refine (un_at HH.out _ s 3 m 0 sI.out (i64k _ (by omega) (by omega)) U1.out.1 U1.out.2).mono ?_; rintro e w2 ⟨rfl, l2⟩
  go_wp2_with fail
  refine (un_at HH.out _ 8388608 3 0 20 (i64k _ (by omega) (by omega)) (i64k _ (by omega) (by omega)) (by decide +kernel) (by decide +kernel)).mono ?_; rintro e w3 ⟨rfl, l3⟩
  go_wp2_with fail
  refine (un_at HH.out _ (-8388609) 3 0 20 (i64k _ (by omega) (by omega)) (i64k _ (by omega) (by omega)) (by decide +kernel) (by decide +kernel)).mono ?_; rintro e w4 ⟨rfl, l4⟩
  go_wp2_with fail
  refine (un_at HH.out _ (-8388608) 3 8388608 0 (i64k _ (by omega) (by omega)) (i64k _ (by omega) (by omega)) (by decide +kernel) (by decide +kernel)).mono ?_; rintro e w5 ⟨rfl, l5⟩
  go_wp2_with fail
  refine (sg_at HH.out _ 16777216 3 0 20 (by omega) (i64k _ (by omega) (by omega)) (by decide +kernel) (by decide +kernel)).mono ?_; rintro e w6 ⟨rfl, l6⟩
  go_wp2_with fail
  refine (awake3_any HH.out _).mono ?_; rintro e w7 ⟨rfl, l7⟩
  have FIN : Hid (Below w.heap.size w w7) := seqB (seqB (seqB (seqB (seqB (seqB l1 l2) l3) l4) l5) l6) l7
  clear l1 l2 l7 l3 l4 l5 l6
  go_wp2
  go_ret
  exact ⟨rfl, FIN.out⟩

set_option maxRecDepth 100000 in
set_option maxHeartbeats 3200000 in
theorem twos_4l (HC : OctCode) (n sz m : Nat) (hz : (sz : Int) % 8 = 3) (hm : (n : Int) / 4294967296 = (m : Int)) (m1 : m < 2147483648) (w : World) :
    Calls Try.prog 6 #[.int .u64 n, .int .u8 sz] w fun e w' => e = .returned (.bool true) ∧ Below w.heap.size w w' := by
  have HH := Lib.hid HC
  obtain ⟨s, hs⟩ : ∃ s : Int, s = (m : Int) := ⟨_, rfl⟩
  have S1 : Hid (sgR m 4 = s ∧ sgE m 4 = 0) := by
    have e : sgE m 4 = 0 := by unfold sgE; rw [if_pos (by decide), if_pos (by show m < 4294967296; omega)]
    refine ⟨?_, e⟩
    unfold sgR sgV; rw [if_pos e, if_pos (by show m < 2147483648; omega), hs]
  have A1 : absM s = m := by unfold absM; rw [if_neg (by omega)]; omega
  have U1 : Hid (unR s 4 = m ∧ unE s 4 = 0) := by
    have e : unE s 4 = 0 := by unfold unE; rw [if_pos (by decide), A1, if_pos (by show _ < 2147483648; omega)]
    refine ⟨?_, e⟩
    unfold unR unV; rw [if_pos e, if_neg (by omega)]
    omega
  have sI : Hid (I64 s) := i64k _ (by omega) (by omega)
  have mI : Hid (m < 18446744073709551616) := by unfold Hid; omega
  have b1 : decide (s < 0) = false := by simp; omega
  have b2 : decide (2147483648 ≤ (m : Int)) = false := by simp; omega
  have b3 : decide ((m : Int) < 2147483648) = true := by simp; omega
  have b4 : ((m : Int) != (m : Int)) = false := by simp
  have sl : s = (m : Int) := hs
  have sh : s < 2147483648 := by omega
  subst hs
  have m2 : (m : Int) < 2147483648 := by omega
  clear m1 A1
  go_enter Try.func6, Try.ntmps6
  go_wp2_with fail
  refine (sg_at HH.out _ m 4 (m : Int) 0 mI.out (i64k _ (by omega) (by omega)) S1.out.1 S1.out.2).mono ?_; rintro e w1 ⟨rfl, l1⟩
  go_wp2_with fail
  refine (un_at HH.out _ (m : Int) 4 m 0 sI.out (i64k _ (by omega) (by omega)) U1.out.1 U1.out.2).mono ?_; rintro e w2 ⟨rfl, l2⟩
  go_wp2_with fail
  refine (un_at HH.out _ 2147483648 4 0 20 (i64k _ (by omega) (by omega)) (i64k _ (by omega) (by omega)) (by decide +kernel) (by decide +kernel)).mono ?_; rintro e w3 ⟨rfl, l3⟩
  go_wp2_with fail
  refine (un_at HH.out _ (-2147483649) 4 0 20 (i64k _ (by omega) (by omega)) (i64k _ (by omega) (by omega)) (by decide +kernel) (by decide +kernel)).mono ?_; rintro e w4 ⟨rfl, l4⟩
  go_wp2_with fail
  refine (un_at HH.out _ (-2147483648) 4 2147483648 0 (i64k _ (by omega) (by omega)) (i64k _ (by omega) (by omega)) (by decide +kernel) (by decide +kernel)).mono ?_; rintro e w5 ⟨rfl, l5⟩
  go_wp2_with fail
  refine (sg_at HH.out _ 4294967296 4 0 20 (by omega) (i64k _ (by omega) (by omega)) (by decide +kernel) (by decide +kernel)).mono ?_; rintro e w6 ⟨rfl, l6⟩
  go_wp2_with fail
  refine (awake3_any HH.out _).mono ?_; rintro e w7 ⟨rfl, l7⟩
  have FIN : Hid (Below w.heap.size w w7) := seqB (seqB (seqB (seqB (seqB (seqB l1 l2) l3) l4) l5) l6) l7
  clear l1 l2 l7 l3 l4 l5 l6
  go_wp2
  go_ret
  exact ⟨rfl, FIN.out⟩

set_option maxRecDepth 100000 in
set_option maxHeartbeats 3200000 in
theorem twos_4h (HC : OctCode) (n sz m : Nat) (hz : (sz : Int) % 8 = 3) (hm : (n : Int) / 4294967296 = (m : Int)) (m1 : 2147483648 ≤ m ∧ m < 4294967296) (w : World) :
    Calls Try.prog 6 #[.int .u64 n, .int .u8 sz] w fun e w' => e = .returned (.bool true) ∧ Below w.heap.size w w' := by
  have HH := Lib.hid HC
  obtain ⟨m1, m2⟩ := m1
  obtain ⟨s, hs⟩ : ∃ s : Int, s = (m : Int) - 4294967296 := ⟨_, rfl⟩
  have S1 : Hid (sgR m 4 = s ∧ sgE m 4 = 0) := by
    have e : sgE m 4 = 0 := by unfold sgE; rw [if_pos (by decide), if_pos (by show m < 4294967296; omega)]
    refine ⟨?_, e⟩
    unfold sgR sgV; rw [if_pos e, if_neg (by show ¬ m < 2147483648; omega), hs]
    rfl
  have A1 : absM s = 4294967295 - m := by unfold absM; rw [if_pos (by omega)]; omega
  have U1 : Hid (unR s 4 = m ∧ unE s 4 = 0) := by
    have e : unE s 4 = 0 := by unfold unE; rw [if_pos (by decide), A1, if_pos (by show _ < 2147483648; omega)]
    refine ⟨?_, e⟩
    unfold unR unV; rw [if_pos e, if_pos (by omega), show ((256 ^ (Int.toNat 4) : Nat) : Int) = 4294967296 from rfl]
    omega
  have sI : Hid (I64 s) := i64k _ (by omega) (by omega)
  have mI : Hid (m < 18446744073709551616) := by unfold Hid; omega
  have b1 : decide (s < 0) = true := by simp; omega
  have b2 : decide (2147483648 ≤ (m : Int)) = true := by simp; omega
  have b3 : decide ((m : Int) < 2147483648) = false := by simp; omega
  have b4 : ((m : Int) != (m : Int)) = false := by simp
  have b5 : (s != (m : Int)) = true := by simp; omega
  have b6 : (m : Int) - 4294967296 = s := hs.symm
  have b7 : (s != s) = false := by simp
  obtain ⟨t, ht⟩ : ∃ t : Nat, (t : Int) = -s := ⟨(-s).toNat, by omega⟩
  have b8 : -s = (t : Int) := ht.symm
  have b9 : 4294967296 - (m : Int) = (t : Int) := by omega
  have t1 : (t : Int) ≤ 4294967296 := by omega
  have sl : -2147483648 ≤ s := by omega
  have sh : s < 2147483648 := by omega
  have m3 : (m : Int) < 4294967296 := by omega
  have m4 : 2147483648 ≤ (m : Int) := by omega
  clear m1 m2 A1 hs ht
  go_enter Try.func6, Try.ntmps6
  go_wp2_with fail
  refine (sg_at HH.out _ m 4 s 0 mI.out (i64k _ (by omega) (by omega)) S1.out.1 S1.out.2).mono ?_; rintro e w1 ⟨rfl, l1⟩
  go_wp2_with fail
  refine (un_at HH.out _ s 4 m 0 sI.out (i64k _ (by omega) (by omega)) U1.out.1 U1.out.2).mono ?_; rintro e w2 ⟨rfl, l2⟩
  go_wp2_with fail
  refine (un_at HH.out _ 2147483648 4 0 20 (i64k _ (by omega) (by omega)) (i64k _ (by omega) (by omega)) (by decide +kernel) (by decide +kernel)).mono ?_; rintro e w3 ⟨rfl, l3⟩
  go_wp2_with fail
  refine (un_at HH.out _ (-2147483649) 4 0 20 (i64k _ (by omega) (by omega)) (i64k _ (by omega) (by omega)) (by decide +kernel) (by decide +kernel)).mono ?_; rintro e w4 ⟨rfl, l4⟩
  go_wp2_with fail
  refine (un_at HH.out _ (-2147483648) 4 2147483648 0 (i64k _ (by omega) (by omega)) (i64k _ (by omega) (by omega)) (by decide +kernel) (by decide +kernel)).mono ?_; rintro e w5 ⟨rfl, l5⟩
  go_wp2_with fail
  refine (sg_at HH.out _ 4294967296 4 0 20 (by omega) (i64k _ (by omega) (by omega)) (by decide +kernel) (by decide +kernel)).mono ?_; rintro e w6 ⟨rfl, l6⟩
  go_wp2_with fail
  refine (awake3_any HH.out _).mono ?_; rintro e w7 ⟨rfl, l7⟩
  have FIN : Hid (Below w.heap.size w w7) := seqB (seqB (seqB (seqB (seqB (seqB l1 l2) l3) l4) l5) l6) l7
  clear l1 l2 l7 l3 l4 l5 l6
  go_wp2
  go_ret
  exact ⟨rfl, FIN.out⟩

set_option maxRecDepth 100000 in
set_option maxHeartbeats 3200000 in
theorem twos_5l (HC : OctCode) (n sz m : Nat) (hz : (sz : Int) % 8 = 4) (hm : (n : Int) / 16777216 = (m : Int)) (m1 : m < 549755813888) (w : World) :
    Calls Try.prog 6 #[.int .u64 n, .int .u8 sz] w fun e w' => e = .returned (.bool true) ∧ Below w.heap.size w w' := by
  have HH := Lib.hid HC
  obtain ⟨s, hs⟩ : ∃ s : Int, s = (m : Int) := ⟨_, rfl⟩
  have S1 : Hid (sgR m 5 = s ∧ sgE m 5 = 0) := by
    have e : sgE m 5 = 0 := by unfold sgE; rw [if_pos (by decide), if_pos (by show m < 1099511627776; omega)]
    refine ⟨?_, e⟩
    unfold sgR sgV; rw [if_pos e, if_pos (by show m < 549755813888; omega), hs]
  have A1 : absM s = m := by unfold absM; rw [if_neg (by omega)]; omega
  have U1 : Hid (unR s 5 = m ∧ unE s 5 = 0) := by
    have e : unE s 5 = 0 := by unfold unE; rw [if_pos (by decide), A1, if_pos (by show _ < 549755813888; omega)]
    refine ⟨?_, e⟩
    unfold unR unV; rw [if_pos e, if_neg (by omega)]
    omega
  have sI : Hid (I64 s) := i64k _ (by omega) (by omega)
  have mI : Hid (m < 18446744073709551616) := by unfold Hid; omega
  have b1 : decide (s < 0) = false := by simp; omega
  have b2 : decide (549755813888 ≤ (m : Int)) = false := by simp; omega
  have b3 : decide ((m : Int) < 549755813888) = true := by simp; omega
  have b4 : ((m : Int) != (m : Int)) = false := by simp
  have sl : s = (m : Int) := hs
  have sh : s < 549755813888 := by omega
  subst hs
  have m2 : (m : Int) < 549755813888 := by omega
  clear m1 A1
  go_enter Try.func6, Try.ntmps6
  go_wp2_with fail
  refine (sg_at HH.out _ m 5 (m : Int) 0 mI.out (i64k _ (by omega) (by omega)) S1.out.1 S1.out.2).mono ?_; rintro e w1 ⟨rfl, l1⟩
  go_wp2_with fail
  refine (un_at HH.out _ (m : Int) 5 m 0 sI.out (i64k _ (by omega) (by omega)) U1.out.1 U1.out.2).mono ?_; rintro e w2 ⟨rfl, l2⟩
  go_wp2_with fail
  refine (un_at HH.out _ 549755813888 5 0 20 (i64k _ (by omega) (by omega)) (i64k _ (by omega) (by omega)) (by decide +kernel) (by decide +kernel)).mono ?_; rintro e w3 ⟨rfl, l3⟩
  go_wp2_with fail
  refine (un_at HH.out _ (-549755813889) 5 0 20 (i64k _ (by omega) (by omega)) (i64k _ (by omega) (by omega)) (by decide +kernel) (by decide +kernel)).mono ?_; rintro e w4 ⟨rfl, l4⟩
  go_wp2_with fail
  refine (un_at HH.out _ (-549755813888) 5 549755813888 0 (i64k _ (by omega) (by omega)) (i64k _ (by omega) (by omega)) (by decide +kernel) (by decide +kernel)).mono ?_; rintro e w5 ⟨rfl, l5⟩
  go_wp2_with fail
  refine (sg_at HH.out _ 1099511627776 5 0 20 (by omega) (i64k _ (by omega) (by omega)) (by decide +kernel) (by decide +kernel)).mono ?_; rintro e w6 ⟨rfl, l6⟩
  go_wp2_with fail
  refine (awake3_any HH.out _).mono ?_; rintro e w7 ⟨rfl, l7⟩
  have FIN : Hid (Below w.heap.size w w7) := seqB (seqB (seqB (seqB (seqB (seqB l1 l2) l3) l4) l5) l6) l7
  clear l1 l2 l7 l3 l4 l5 l6
  go_wp2
  go_ret
  exact ⟨rfl, FIN.out⟩

set_option maxRecDepth 100000 in
set_option maxHeartbeats 3200000 in
theorem twos_5h (HC : OctCode) (n sz m : Nat) (hz : (sz : Int) % 8 = 4) (hm : (n : Int) / 16777216 = (m : Int)) (m1 : 549755813888 ≤ m ∧ m < 1099511627776) (w : World) :
    Calls Try.prog 6 #[.int .u64 n, .int .u8 sz] w fun e w' => e = .returned (.bool true) ∧ Below w.heap.size w w' := by
  have HH := Lib.hid HC
  obtain ⟨m1, m2⟩ := m1
  obtain ⟨s, hs⟩ : ∃ s : Int, s = (m : Int) - 1099511627776 := ⟨_, rfl⟩
  have S1 : Hid (sgR m 5 = s ∧ sgE m 5 = 0) := by
    have e : sgE m 5 = 0 := by unfold sgE; rw [if_pos (by decide), if_pos (by show m < 1099511627776; omega)]
    refine ⟨?_, e⟩
    unfold sgR sgV; rw [if_pos e, if_neg (by show ¬ m < 549755813888; omega), hs]
    rfl
  have A1 : absM s = 1099511627775 - m := by unfold absM; rw [if_pos (by omega)]; omega
  have U1 : Hid (unR s 5 = m ∧ unE s 5 = 0) := by
    have e : unE s 5 = 0 := by unfold unE; rw [if_pos (by decide), A1, if_pos (by show _ < 549755813888; omega)]
    refine ⟨?_, e⟩
    unfold unR unV; rw [if_pos e, if_pos (by omega), show ((256 ^ (Int.toNat 5) : Nat) : Int) = 1099511627776 from rfl]
    omega
  have sI : Hid (I64 s) := i64k _ (by omega) (by omega)
  have mI : Hid (m < 18446744073709551616) := by unfold Hid; omega
  have b1 : decide (s < 0) = true := by simp; omega
  have b2 : decide (549755813888 ≤ (m : Int)) = true := by simp; omega
  have b3 : decide ((m : Int) < 549755813888) = false := by simp; omega
  have b4 : ((m : Int) != (m : Int)) = false := by simp
  have b5 : (s != (m : Int)) = true := by simp; omega
  have b6 : (m : Int) - 1099511627776 = s := hs.symm
  have b7 : (s != s) = false := by simp
  obtain ⟨t, ht⟩ : ∃ t : Nat, (t : Int) = -s := ⟨(-s).toNat, by omega⟩
  have b8 : -s = (t : Int) := ht.symm
  have b9 : 1099511627776 - (m : Int) = (t : Int) := by omega
  have t1 : (t : Int) ≤ 1099511627776 := by omega
  have sl : -549755813888 ≤ s := by omega
  have sh : s < 549755813888 := by omega
  have m3 : (m : Int) < 1099511627776 := by omega
  have m4 : 549755813888 ≤ (m : Int) := by omega
  clear m1 m2 A1 hs ht
  go_enter Try.func6, Try.ntmps6
  go_wp2_with fail
  refine (sg_at HH.out _ m 5 s 0 mI.out (i64k _ (by omega) (by omega)) S1.out.1 S1.out.2).mono ?_; rintro e w1 ⟨rfl, l1⟩
  go_wp2_with fail
  refine (un_at HH.out _ s 5 m 0 sI.out (i64k _ (by omega) (by omega)) U1.out.1 U1.out.2).mono ?_; rintro e w2 ⟨rfl, l2⟩
  go_wp2_with fail
  refine (un_at HH.out _ 549755813888 5 0 20 (i64k _ (by omega) (by omega)) (i64k _ (by omega) (by omega)) (by decide +kernel) (by decide +kernel)).mono ?_; rintro e w3 ⟨rfl, l3⟩
  go_wp2_with fail
  refine (un_at HH.out _ (-549755813889) 5 0 20 (i64k _ (by omega) (by omega)) (i64k _ (by omega) (by omega)) (by decide +kernel) (by decide +kernel)).mono ?_; rintro e w4 ⟨rfl, l4⟩
  go_wp2_with fail
  refine (un_at HH.out _ (-549755813888) 5 549755813888 0 (i64k _ (by omega) (by omega)) (i64k _ (by omega) (by omega)) (by decide +kernel) (by decide +kernel)).mono ?_; rintro e w5 ⟨rfl, l5⟩
  go_wp2_with fail
  refine (sg_at HH.out _ 1099511627776 5 0 20 (by omega) (i64k _ (by omega) (by omega)) (by decide +kernel) (by decide +kernel)).mono ?_; rintro e w6 ⟨rfl, l6⟩
  go_wp2_with fail
  refine (awake3_any HH.out _).mono ?_; rintro e w7 ⟨rfl, l7⟩
  have FIN : Hid (Below w.heap.size w w7) := seqB (seqB (seqB (seqB (seqB (seqB l1 l2) l3) l4) l5) l6) l7
  clear l1 l2 l7 l3 l4 l5 l6
  go_wp2
  go_ret
  exact ⟨rfl, FIN.out⟩

set_option maxRecDepth 100000 in
set_option maxHeartbeats 3200000 in
theorem twos_6l (HC : OctCode) (n sz m : Nat) (hz : (sz : Int) % 8 = 5) (hm : (n : Int) / 65536 = (m : Int)) (m1 : m < 140737488355328) (w : World) :
    Calls Try.prog 6 #[.int .u64 n, .int .u8 sz] w fun e w' => e = .returned (.bool true) ∧ Below w.heap.size w w' := by
  have HH := Lib.hid HC
  obtain ⟨s, hs⟩ : ∃ s : Int, s = (m : Int) := ⟨_, rfl⟩
  have S1 : Hid (sgR m 6 = s ∧ sgE m 6 = 0) := by
    have e : sgE m 6 = 0 := by unfold sgE; rw [if_pos (by decide), if_pos (by show m < 281474976710656; omega)]
    refine ⟨?_, e⟩
    unfold sgR sgV; rw [if_pos e, if_pos (by show m < 140737488355328; omega), hs]
  have A1 : absM s = m := by unfold absM; rw [if_neg (by omega)]; omega
  have U1 : Hid (unR s 6 = m ∧ unE s 6 = 0) := by
    have e : unE s 6 = 0 := by unfold unE; rw [if_pos (by decide), A1, if_pos (by show _ < 140737488355328; omega)]
    refine ⟨?_, e⟩
    unfold unR unV; rw [if_pos e, if_neg (by omega)]
    omega
  have sI : Hid (I64 s) := i64k _ (by omega) (by omega)
  have mI : Hid (m < 18446744073709551616) := by unfold Hid; omega
  have b1 : decide (s < 0) = false := by simp; omega
  have b2 : decide (140737488355328 ≤ (m : Int)) = false := by simp; omega
  have b3 : decide ((m : Int) < 140737488355328) = true := by simp; omega
  have b4 : ((m : Int) != (m : Int)) = false := by simp
  have sl : s = (m : Int) := hs
  have sh : s < 140737488355328 := by omega
  subst hs
  have m2 : (m : Int) < 140737488355328 := by omega
  clear m1 A1
  go_enter Try.func6, Try.ntmps6
  go_wp2_with fail
  refine (sg_at HH.out _ m 6 (m : Int) 0 mI.out (i64k _ (by omega) (by omega)) S1.out.1 S1.out.2).mono ?_; rintro e w1 ⟨rfl, l1⟩
  go_wp2_with fail
  refine (un_at HH.out _ (m : Int) 6 m 0 sI.out (i64k _ (by omega) (by omega)) U1.out.1 U1.out.2).mono ?_; rintro e w2 ⟨rfl, l2⟩
  go_wp2_with fail
  refine (un_at HH.out _ 140737488355328 6 0 20 (i64k _ (by omega) (by omega)) (i64k _ (by omega) (by omega)) (by decide +kernel) (by decide +kernel)).mono ?_; rintro e w3 ⟨rfl, l3⟩
  go_wp2_with fail
  refine (un_at HH.out _ (-140737488355329) 6 0 20 (i64k _ (by omega) (by omega)) (i64k _ (by omega) (by omega)) (by decide +kernel) (by decide +kernel)).mono ?_; rintro e w4 ⟨rfl, l4⟩
  go_wp2_with fail
  refine (un_at HH.out _ (-140737488355328) 6 140737488355328 0 (i64k _ (by omega) (by omega)) (i64k _ (by omega) (by omega)) (by decide +kernel) (by decide +kernel)).mono ?_; rintro e w5 ⟨rfl, l5⟩
  go_wp2_with fail
  refine (sg_at HH.out _ 281474976710656 6 0 20 (by omega) (i64k _ (by omega) (by omega)) (by decide +kernel) (by decide +kernel)).mono ?_; rintro e w6 ⟨rfl, l6⟩
  go_wp2_with fail
  refine (awake3_any HH.out _).mono ?_; rintro e w7 ⟨rfl, l7⟩
  have FIN : Hid (Below w.heap.size w w7) := seqB (seqB (seqB (seqB (seqB (seqB l1 l2) l3) l4) l5) l6) l7
  clear l1 l2 l7 l3 l4 l5 l6
  go_wp2
  go_ret
  exact ⟨rfl, FIN.out⟩

set_option maxRecDepth 100000 in
set_option maxHeartbeats 3200000 in
theorem twos_6h (HC : OctCode) (n sz m : Nat) (hz : (sz : Int) % 8 = 5) (hm : (n : Int) / 65536 = (m : Int)) (m1 : 140737488355328 ≤ m ∧ m < 281474976710656) (w : World) :
    Calls Try.prog 6 #[.int .u64 n, .int .u8 sz] w fun e w' => e = .returned (.bool true) ∧ Below w.heap.size w w' := by
  have HH := Lib.hid HC
  obtain ⟨m1, m2⟩ := m1
  obtain ⟨s, hs⟩ : ∃ s : Int, s = (m : Int) - 281474976710656 := ⟨_, rfl⟩
  have S1 : Hid (sgR m 6 = s ∧ sgE m 6 = 0) := by
    have e : sgE m 6 = 0 := by unfold sgE; rw [if_pos (by decide), if_pos (by show m < 281474976710656; omega)]
    refine ⟨?_, e⟩
    unfold sgR sgV; rw [if_pos e, if_neg (by show ¬ m < 140737488355328; omega), hs]
    rfl
  have A1 : absM s = 281474976710655 - m := by unfold absM; rw [if_pos (by omega)]; omega
  have U1 : Hid (unR s 6 = m ∧ unE s 6 = 0) := by
    have e : unE s 6 = 0 := by unfold unE; rw [if_pos (by decide), A1, if_pos (by show _ < 140737488355328; omega)]
    refine ⟨?_, e⟩
    unfold unR unV; rw [if_pos e, if_pos (by omega), show ((256 ^ (Int.toNat 6) : Nat) : Int) = 281474976710656 from rfl]
    omega
  have sI : Hid (I64 s) := i64k _ (by omega) (by omega)
  have mI : Hid (m < 18446744073709551616) := by unfold Hid; omega
  have b1 : decide (s < 0) = true := by simp; omega
  have b2 : decide (140737488355328 ≤ (m : Int)) = true := by simp; omega
  have b3 : decide ((m : Int) < 140737488355328) = false := by simp; omega
  have b4 : ((m : Int) != (m : Int)) = false := by simp
  have b5 : (s != (m : Int)) = true := by simp; omega
  have b6 : (m : Int) - 281474976710656 = s := hs.symm
  have b7 : (s != s) = false := by simp
  obtain ⟨t, ht⟩ : ∃ t : Nat, (t : Int) = -s := ⟨(-s).toNat, by omega⟩
  have b8 : -s = (t : Int) := ht.symm
  have b9 : 281474976710656 - (m : Int) = (t : Int) := by omega
  have t1 : (t : Int) ≤ 281474976710656 := by omega
  have sl : -140737488355328 ≤ s := by omega
  have sh : s < 140737488355328 := by omega
  have m3 : (m : Int) < 281474976710656 := by omega
  have m4 : 140737488355328 ≤ (m : Int) := by omega
  clear m1 m2 A1 hs ht
  go_enter Try.func6, Try.ntmps6
  go_wp2_with fail
  refine (sg_at HH.out _ m 6 s 0 mI.out (i64k _ (by omega) (by omega)) S1.out.1 S1.out.2).mono ?_; rintro e w1 ⟨rfl, l1⟩
  go_wp2_with fail
  refine (un_at HH.out _ s 6 m 0 sI.out (i64k _ (by omega) (by omega)) U1.out.1 U1.out.2).mono ?_; rintro e w2 ⟨rfl, l2⟩
  go_wp2_with fail
  refine (un_at HH.out _ 140737488355328 6 0 20 (i64k _ (by omega) (by omega)) (i64k _ (by omega) (by omega)) (by decide +kernel) (by decide +kernel)).mono ?_; rintro e w3 ⟨rfl, l3⟩
  go_wp2_with fail
  refine (un_at HH.out _ (-140737488355329) 6 0 20 (i64k _ (by omega) (by omega)) (i64k _ (by omega) (by omega)) (by decide +kernel) (by decide +kernel)).mono ?_; rintro e w4 ⟨rfl, l4⟩
  go_wp2_with fail
  refine (un_at HH.out _ (-140737488355328) 6 140737488355328 0 (i64k _ (by omega) (by omega)) (i64k _ (by omega) (by omega)) (by decide +kernel) (by decide +kernel)).mono ?_; rintro e w5 ⟨rfl, l5⟩
  go_wp2_with fail
  refine (sg_at HH.out _ 281474976710656 6 0 20 (by omega) (i64k _ (by omega) (by omega)) (by decide +kernel) (by decide +kernel)).mono ?_; rintro e w6 ⟨rfl, l6⟩
  go_wp2_with fail
  refine (awake3_any HH.out _).mono ?_; rintro e w7 ⟨rfl, l7⟩
  have FIN : Hid (Below w.heap.size w w7) := seqB (seqB (seqB (seqB (seqB (seqB l1 l2) l3) l4) l5) l6) l7
  clear l1 l2 l7 l3 l4 l5 l6
  go_wp2
  go_ret
  exact ⟨rfl, FIN.out⟩

set_option maxRecDepth 100000 in
set_option maxHeartbeats 3200000 in
theorem twos_7l (HC : OctCode) (n sz m : Nat) (hz : (sz : Int) % 8 = 6) (hm : (n : Int) / 256 = (m : Int)) (m1 : m < 36028797018963968) (w : World) :
    Calls Try.prog 6 #[.int .u64 n, .int .u8 sz] w fun e w' => e = .returned (.bool true) ∧ Below w.heap.size w w' := by
  have HH := Lib.hid HC
  obtain ⟨s, hs⟩ : ∃ s : Int, s = (m : Int) := ⟨_, rfl⟩
  have S1 : Hid (sgR m 7 = s ∧ sgE m 7 = 0) := by
    have e : sgE m 7 = 0 := by unfold sgE; rw [if_pos (by decide), if_pos (by show m < 72057594037927936; omega)]
    refine ⟨?_, e⟩
    unfold sgR sgV; rw [if_pos e, if_pos (by show m < 36028797018963968; omega), hs]
  have A1 : absM s = m := by unfold absM; rw [if_neg (by omega)]; omega
  have U1 : Hid (unR s 7 = m ∧ unE s 7 = 0) := by
    have e : unE s 7 = 0 := by unfold unE; rw [if_pos (by decide), A1, if_pos (by show _ < 36028797018963968; omega)]
    refine ⟨?_, e⟩
    unfold unR unV; rw [if_pos e, if_neg (by omega)]
    omega
  have sI : Hid (I64 s) := i64k _ (by omega) (by omega)
  have mI : Hid (m < 18446744073709551616) := by unfold Hid; omega
  have b1 : decide (s < 0) = false := by simp; omega
  have b2 : decide (36028797018963968 ≤ (m : Int)) = false := by simp; omega
  have b3 : decide ((m : Int) < 36028797018963968) = true := by simp; omega
  have b4 : ((m : Int) != (m : Int)) = false := by simp
  have sl : s = (m : Int) := hs
  have sh : s < 36028797018963968 := by omega
  subst hs
  have m2 : (m : Int) < 36028797018963968 := by omega
  clear m1 A1
  go_enter Try.func6, Try.ntmps6
  go_wp2_with fail
  refine (sg_at HH.out _ m 7 (m : Int) 0 mI.out (i64k _ (by omega) (by omega)) S1.out.1 S1.out.2).mono ?_; rintro e w1 ⟨rfl, l1⟩
  go_wp2_with fail
  refine (un_at HH.out _ (m : Int) 7 m 0 sI.out (i64k _ (by omega) (by omega)) U1.out.1 U1.out.2).mono ?_; rintro e w2 ⟨rfl, l2⟩
  go_wp2_with fail
  refine (un_at HH.out _ 36028797018963968 7 0 20 (i64k _ (by omega) (by omega)) (i64k _ (by omega) (by omega)) (by decide +kernel) (by decide +kernel)).mono ?_; rintro e w3 ⟨rfl, l3⟩
  go_wp2_with fail
  refine (un_at HH.out _ (-36028797018963969) 7 0 20 (i64k _ (by omega) (by omega)) (i64k _ (by omega) (by omega)) (by decide +kernel) (by decide +kernel)).mono ?_; rintro e w4 ⟨rfl, l4⟩
  go_wp2_with fail
  refine (un_at HH.out _ (-36028797018963968) 7 36028797018963968 0 (i64k _ (by omega) (by omega)) (i64k _ (by omega) (by omega)) (by decide +kernel) (by decide +kernel)).mono ?_; rintro e w5 ⟨rfl, l5⟩
  go_wp2_with fail
  refine (sg_at HH.out _ 72057594037927936 7 0 20 (by omega) (i64k _ (by omega) (by omega)) (by decide +kernel) (by decide +kernel)).mono ?_; rintro e w6 ⟨rfl, l6⟩
  go_wp2_with fail
  refine (awake3_any HH.out _).mono ?_; rintro e w7 ⟨rfl, l7⟩
  have FIN : Hid (Below w.heap.size w w7) := seqB (seqB (seqB (seqB (seqB (seqB l1 l2) l3) l4) l5) l6) l7
  clear l1 l2 l7 l3 l4 l5 l6
  go_wp2
  go_ret
  exact ⟨rfl, FIN.out⟩

set_option maxRecDepth 100000 in
set_option maxHeartbeats 3200000 in
theorem twos_7h (HC : OctCode) (n sz m : Nat) (hz : (sz : Int) % 8 = 6) (hm : (n : Int) / 256 = (m : Int)) (m1 : 36028797018963968 ≤ m ∧ m < 72057594037927936) (w : World) :
    Calls Try.prog 6 #[.int .u64 n, .int .u8 sz] w fun e w' => e = .returned (.bool true) ∧ Below w.heap.size w w' := by
  have HH := Lib.hid HC
  obtain ⟨m1, m2⟩ := m1
  obtain ⟨s, hs⟩ : ∃ s : Int, s = (m : Int) - 72057594037927936 := ⟨_, rfl⟩
  have S1 : Hid (sgR m 7 = s ∧ sgE m 7 = 0) := by
    have e : sgE m 7 = 0 := by unfold sgE; rw [if_pos (by decide), if_pos (by show m < 72057594037927936; omega)]
    refine ⟨?_, e⟩
    unfold sgR sgV; rw [if_pos e, if_neg (by show ¬ m < 36028797018963968; omega), hs]
    rfl
  have A1 : absM s = 72057594037927935 - m := by unfold absM; rw [if_pos (by omega)]; omega
  have U1 : Hid (unR s 7 = m ∧ unE s 7 = 0) := by
    have e : unE s 7 = 0 := by unfold unE; rw [if_pos (by decide), A1, if_pos (by show _ < 36028797018963968; omega)]
    refine ⟨?_, e⟩
    unfold unR unV; rw [if_pos e, if_pos (by omega), show ((256 ^ (Int.toNat 7) : Nat) : Int) = 72057594037927936 from rfl]
    omega
  have sI : Hid (I64 s) := i64k _ (by omega) (by omega)
  have mI : Hid (m < 18446744073709551616) := by unfold Hid; omega
  have b1 : decide (s < 0) = true := by simp; omega
  have b2 : decide (36028797018963968 ≤ (m : Int)) = true := by simp; omega
  have b3 : decide ((m : Int) < 36028797018963968) = false := by simp; omega
  have b4 : ((m : Int) != (m : Int)) = false := by simp
  have b5 : (s != (m : Int)) = true := by simp; omega
  have b6 : (m : Int) - 72057594037927936 = s := hs.symm
  have b7 : (s != s) = false := by simp
  obtain ⟨t, ht⟩ : ∃ t : Nat, (t : Int) = -s := ⟨(-s).toNat, by omega⟩
  have b8 : -s = (t : Int) := ht.symm
  have b9 : 72057594037927936 - (m : Int) = (t : Int) := by omega
  have t1 : (t : Int) ≤ 72057594037927936 := by omega
  have sl : -36028797018963968 ≤ s := by omega
  have sh : s < 36028797018963968 := by omega
  have m3 : (m : Int) < 72057594037927936 := by omega
  have m4 : 36028797018963968 ≤ (m : Int) := by omega
  clear m1 m2 A1 hs ht
  go_enter Try.func6, Try.ntmps6
  go_wp2_with fail
  refine (sg_at HH.out _ m 7 s 0 mI.out (i64k _ (by omega) (by omega)) S1.out.1 S1.out.2).mono ?_; rintro e w1 ⟨rfl, l1⟩
  go_wp2_with fail
  refine (un_at HH.out _ s 7 m 0 sI.out (i64k _ (by omega) (by omega)) U1.out.1 U1.out.2).mono ?_; rintro e w2 ⟨rfl, l2⟩
  go_wp2_with fail
  refine (un_at HH.out _ 36028797018963968 7 0 20 (i64k _ (by omega) (by omega)) (i64k _ (by omega) (by omega)) (by decide +kernel) (by decide +kernel)).mono ?_; rintro e w3 ⟨rfl, l3⟩
  go_wp2_with fail
  refine (un_at HH.out _ (-36028797018963969) 7 0 20 (i64k _ (by omega) (by omega)) (i64k _ (by omega) (by omega)) (by decide +kernel) (by decide +kernel)).mono ?_; rintro e w4 ⟨rfl, l4⟩
  go_wp2_with fail
  refine (un_at HH.out _ (-36028797018963968) 7 36028797018963968 0 (i64k _ (by omega) (by omega)) (i64k _ (by omega) (by omega)) (by decide +kernel) (by decide +kernel)).mono ?_; rintro e w5 ⟨rfl, l5⟩
  go_wp2_with fail
  refine (sg_at HH.out _ 72057594037927936 7 0 20 (by omega) (i64k _ (by omega) (by omega)) (by decide +kernel) (by decide +kernel)).mono ?_; rintro e w6 ⟨rfl, l6⟩
  go_wp2_with fail
  refine (awake3_any HH.out _).mono ?_; rintro e w7 ⟨rfl, l7⟩
  have FIN : Hid (Below w.heap.size w w7) := seqB (seqB (seqB (seqB (seqB (seqB l1 l2) l3) l4) l5) l6) l7
  clear l1 l2 l7 l3 l4 l5 l6
  go_wp2
  go_ret
  exact ⟨rfl, FIN.out⟩

set_option maxRecDepth 100000 in
set_option maxHeartbeats 3200000 in
theorem twos_8l (HC : OctCode) (n sz m : Nat) (hz : (sz : Int) % 8 = 7) (hm : (n : Int) / 1 = (m : Int)) (m1 : m < 9223372036854775808) (w : World) :
    Calls Try.prog 6 #[.int .u64 n, .int .u8 sz] w fun e w' => e = .returned (.bool true) ∧ Below w.heap.size w w' := by
  have HH := Lib.hid HC
  obtain ⟨s, hs⟩ : ∃ s : Int, s = (m : Int) := ⟨_, rfl⟩
  have S1 : Hid (sgR m 8 = s ∧ sgE m 8 = 0) := by
    have e : sgE m 8 = 0 := by unfold sgE; rw [if_pos (by decide), if_pos (by show m < 18446744073709551616; omega)]
    refine ⟨?_, e⟩
    unfold sgR sgV; rw [if_pos e, if_pos (by show m < 9223372036854775808; omega), hs]
  have A1 : absM s = m := by unfold absM; rw [if_neg (by omega)]; omega
  have U1 : Hid (unR s 8 = m ∧ unE s 8 = 0) := by
    have e : unE s 8 = 0 := by unfold unE; rw [if_pos (by decide), A1, if_pos (by show _ < 9223372036854775808; omega)]
    refine ⟨?_, e⟩
    unfold unR unV; rw [if_pos e, if_neg (by omega)]
    omega
  have sI : Hid (I64 s) := i64k _ (by omega) (by omega)
  have mI : Hid (m < 18446744073709551616) := by unfold Hid; omega
  have b1 : decide (s < 0) = false := by simp; omega
  have b2 : decide (9223372036854775808 ≤ (m : Int)) = false := by simp; omega
  have b3 : decide ((m : Int) < 9223372036854775808) = true := by simp; omega
  have b4 : ((m : Int) != (m : Int)) = false := by simp
  subst hs
  have m2 : (m : Int) < 9223372036854775808 := by omega
  clear m1 A1
  go_enter Try.func6, Try.ntmps6
  go_wp2_with fail
  refine (sg_at HH.out _ m 8 (m : Int) 0 mI.out (i64k _ (by omega) (by omega)) S1.out.1 S1.out.2).mono ?_; rintro e w1 ⟨rfl, l1⟩
  go_wp2_with fail
  refine (un_at HH.out _ (m : Int) 8 m 0 sI.out (i64k _ (by omega) (by omega)) U1.out.1 U1.out.2).mono ?_; rintro e w2 ⟨rfl, l2⟩
  go_wp2_with fail
  refine (awake3_any HH.out _).mono ?_; rintro e w7 ⟨rfl, l7⟩
  have FIN : Hid (Below w.heap.size w w7) := seqB (seqB l1 l2) l7
  clear l1 l2 l7
  go_wp2
  go_ret
  exact ⟨rfl, FIN.out⟩

set_option maxRecDepth 100000 in
set_option maxHeartbeats 3200000 in
theorem twos_8h (HC : OctCode) (n sz m : Nat) (hz : (sz : Int) % 8 = 7) (hm : (n : Int) / 1 = (m : Int)) (m1 : 9223372036854775808 ≤ m ∧ m < 18446744073709551616) (w : World) :
    Calls Try.prog 6 #[.int .u64 n, .int .u8 sz] w fun e w' => e = .returned (.bool true) ∧ Below w.heap.size w w' := by
  have HH := Lib.hid HC
  obtain ⟨m1, m2⟩ := m1
  obtain ⟨s, hs⟩ : ∃ s : Int, s = (m : Int) - 18446744073709551616 := ⟨_, rfl⟩
  have S1 : Hid (sgR m 8 = s ∧ sgE m 8 = 0) := by
    have e : sgE m 8 = 0 := by unfold sgE; rw [if_pos (by decide), if_pos (by show m < 18446744073709551616; omega)]
    refine ⟨?_, e⟩
    unfold sgR sgV; rw [if_pos e, if_neg (by show ¬ m < 9223372036854775808; omega), hs]
    rfl
  have A1 : absM s = 18446744073709551615 - m := by unfold absM; rw [if_pos (by omega)]; omega
  have U1 : Hid (unR s 8 = m ∧ unE s 8 = 0) := by
    have e : unE s 8 = 0 := by unfold unE; rw [if_pos (by decide), A1, if_pos (by show _ < 9223372036854775808; omega)]
    refine ⟨?_, e⟩
    unfold unR unV; rw [if_pos e, if_pos (by omega), show ((256 ^ (Int.toNat 8) : Nat) : Int) = 18446744073709551616 from rfl]
    omega
  have sI : Hid (I64 s) := i64k _ (by omega) (by omega)
  have mI : Hid (m < 18446744073709551616) := by unfold Hid; omega
  have b1 : decide (s < 0) = true := by simp; omega
  have b2 : decide (9223372036854775808 ≤ (m : Int)) = true := by simp; omega
  have b3 : decide ((m : Int) < 9223372036854775808) = false := by simp; omega
  have b4 : ((m : Int) != (m : Int)) = false := by simp
  obtain ⟨t, ht⟩ : ∃ t : Nat, (t : Int) = -s := ⟨(-s).toNat, by omega⟩
  have b8 : IntKind.u64.wrap (wrap64 (-s)) = (t : Int) := by rw [IntKind.wrap_u64]; unfold wrap64; omega
  have b9 : IntKind.u64.wrap (-(m : Int)) = (t : Int) := by rw [IntKind.wrap_u64]; omega
  have b10 : IntKind.u64.wrap (IntKind.u64.wrap 18446744073709551616 - (m : Int)) = (t : Int) := by simp only [IntKind.wrap_u64]; omega
  have b11 : ((t : Int) == (t : Int)) = true := by simp
  have m3 : (m : Int) < 18446744073709551616 := by omega
  have m4 : 9223372036854775808 ≤ (m : Int) := by omega
  clear m1 m2 A1 hs ht
  go_enter Try.func6, Try.ntmps6
  go_wp2_with fail
  refine (sg_at HH.out _ m 8 s 0 mI.out (i64k _ (by omega) (by omega)) S1.out.1 S1.out.2).mono ?_; rintro e w1 ⟨rfl, l1⟩
  go_wp2_with fail
  refine (un_at HH.out _ s 8 m 0 sI.out (i64k _ (by omega) (by omega)) U1.out.1 U1.out.2).mono ?_; rintro e w2 ⟨rfl, l2⟩
  go_wp2_with fail
  refine (awake3_any HH.out _).mono ?_; rintro e w7 ⟨rfl, l7⟩
  have FIN : Hid (Below w.heap.size w w7) := seqB (seqB l1 l2) l7
  clear l1 l2 l7
  go_wp2
  go_ret
  exact ⟨rfl, FIN.out⟩

theorem twos_walk (HC : OctCode) (n sz : Nat) (hn : n < 18446744073709551616) (w : World) :
    Calls Try.prog 6 #[.int .u64 n, .int .u8 sz] w fun e w' => e = .returned (.bool true) ∧ Below w.heap.size w w' := by
  have c : sz % 8 = 0 ∨ sz % 8 = 1 ∨ sz % 8 = 2 ∨ sz % 8 = 3 ∨ sz % 8 = 4 ∨ sz % 8 = 5 ∨ sz % 8 = 6 ∨ sz % 8 = 7 := by omega
  rcases c with c | c | c | c | c | c | c | c
  · by_cases g : n / 72057594037927936 < 128
    · exact twos_1l HC n sz (n / 72057594037927936) (by omega) (by omega) g w
    · exact twos_1h HC n sz (n / 72057594037927936) (by omega) (by omega) ⟨by omega, by omega⟩ w
  · by_cases g : n / 281474976710656 < 32768
    · exact twos_2l HC n sz (n / 281474976710656) (by omega) (by omega) g w
    · exact twos_2h HC n sz (n / 281474976710656) (by omega) (by omega) ⟨by omega, by omega⟩ w
  · by_cases g : n / 1099511627776 < 8388608
    · exact twos_3l HC n sz (n / 1099511627776) (by omega) (by omega) g w
    · exact twos_3h HC n sz (n / 1099511627776) (by omega) (by omega) ⟨by omega, by omega⟩ w
  · by_cases g : n / 4294967296 < 2147483648
    · exact twos_4l HC n sz (n / 4294967296) (by omega) (by omega) g w
    · exact twos_4h HC n sz (n / 4294967296) (by omega) (by omega) ⟨by omega, by omega⟩ w
  · by_cases g : n / 16777216 < 549755813888
    · exact twos_5l HC n sz (n / 16777216) (by omega) (by omega) g w
    · exact twos_5h HC n sz (n / 16777216) (by omega) (by omega) ⟨by omega, by omega⟩ w
  · by_cases g : n / 65536 < 140737488355328
    · exact twos_6l HC n sz (n / 65536) (by omega) (by omega) g w
    · exact twos_6h HC n sz (n / 65536) (by omega) (by omega) ⟨by omega, by omega⟩ w
  · by_cases g : n / 256 < 36028797018963968
    · exact twos_7l HC n sz (n / 256) (by omega) (by omega) g w
    · exact twos_7h HC n sz (n / 256) (by omega) (by omega) ⟨by omega, by omega⟩ w
  · by_cases g : n / 1 < 9223372036854775808
    · exact twos_8l HC n sz (n / 1) (by omega) (by omega) g w
    · exact twos_8h HC n sz (n / 1) (by omega) (by omega) ⟨by omega, by omega⟩ w
end Go.Proofs.Ytpamnephndoefaa
