/- The walk of OctetHole: Put changes its place alone. -/
import Derived.Test.YtpamnephndoefaaOctRowsW
import Derived.Test.YtpamnephndoefaaOctHoleM
namespace Go.Proofs.Ytpamnephndoefaa
open Go.ChangeShapes Go.WideShapes Go.ChangeAt Go.RowKit OctM

/-- What every way through the law begins with. -/
structure HoleIn (w : World) (p : Option Addr) (nn c m k pp sz at' : Nat) (es : List Nat) : Prop where
  em : min (nn : Int) 200 = (m : Int)
  ek : 1 + (sz : Int) % 8 = (k : Int)
  ep : (at' : Int) % ((m : Int) + 2) = (pp : Int)
  k1 : 1 ≤ k
  k8 : k ≤ 8
  mb : m ≤ 200
  mc : m ≤ c
  pm : pp ≤ m + 1
  rows : ∀ w', Below w.heap.size w w' → Holds w' p m c (valsN .u8 es)
  byt : Byt es
  len : es.length = m

theorem shr_ne (v k : Nat) : (((v : Int) / 2 ^ (8 * k)) != 0) = decide (¬ v < 256 ^ k) := by
  have e : ((2 : Int) ^ (8 * k)) = ((256 ^ k : Nat) : Int) := by
    rw [show (256 : Nat) ^ k = 2 ^ (8 * k) by rw [Nat.pow_mul]]
    simp
  have f := fits_iff v k
  rw [e, ← Int.natCast_ediv, Bool.eq_iff_iff, bne_iff_ne, decide_eq_true_iff, ← f]
  omega
theorem shr_eq (v k : Nat) : (((v : Int) / 2 ^ (8 * k)) == 0) = decide (v < 256 ^ k) := by
  have a := shr_ne v k
  by_cases h : v < 256 ^ k
  · rw [decide_eq_true h]
    rw [decide_eq_false (not_not_intro h)] at a
    simpa using a
  · rw [decide_eq_false h]
    rw [decide_eq_true h] at a
    simpa using a

set_option maxRecDepth 100000 in
set_option maxHeartbeats 6400000 in
theorem hole_range_walk (HC : OctCode) (w : World) (p : Option Addr) (nn c m k pp sz at' v : Nat) (es : List Nat) (I : HoleIn w p nn c m k pp sz at' es) (hs : sz < 256) (ha : at' < 256) (hv : v < 18446744073709551616) (hk : k < 8) (hf : ¬ v < 256 ^ k) :
    Calls Try.prog 7 #[.slice p nn c, .agg #[.int .u8 sz, .int .u64 v], .int .u8 at'] w fun e w' => e = .returned (.bool true) ∧ Below w.heap.size w w' := by
  have HH := Lib.hid HC
  have II := Lib.hid I
  have e1 := I.em
  have e2 := I.ek
  have e3 := I.ep
  have q1 : (1 : Int) ≤ (k : Int) := by have := I.k1; omega
  have q8 : (k : Int) ≤ 8 := by have := I.k8; omega
  have q2 : (m : Int) ≤ (c : Int) := by have := I.mc; omega
  have q3 : (m : Int) ≤ 200 := by have := I.mb; omega
  have q5 : (sz : Int) < 256 := by omega
  have q6 : (at' : Int) < 256 := by omega
  have q4 : decide ((k : Int) < 8) = true := by simp; omega
  have q4' : (k : Int) < 8 := by omega
  have q7 : (((v : Int) / 2 ^ (8 * k)) != 0) = true := by rw [shr_ne]; exact decide_eq_true hf
  have q7' : (((v : Int) / 2 ^ (8 * k)) == 0) = false := by rw [shr_eq]; exact decide_eq_false hf
  have r := hole_range es pp k v I.k1 I.k8 hf
  replace r := Lib.hid r
  have HV := Lib.hid hv
  have KI : Hid (I64 (k : Int)) := i64k _ (by omega) (by omega)
  have PI : Hid (I64 (pp : Int)) := i64k _ (by omega) (by have := I.pm; omega)
  clear I hs ha hv HC hf hk
  go_enter Try.func7, Try.ntmps7
  go_wp2_with fail
  go_quiet (fail)
  have W1 : Hid (Below w.heap.size w ((w.alloc (.cells #[.int .u8 sz, .int .u64 v] 64)).drewN nq)) := below_drewN (laidB _ _) nq
  generalize hw : (w.alloc (.cells #[.int .u8 sz, .int .u64 v] 64)).drewN nq = w1 at *
  clear hw
  go_wp2_with fail
  refine (put_at HH.out _ _ _ _ es pp k v [] 20 (II.out.rows _ W1.out) II.out.byt PI.out KI.out (by have := II.out.mb; omega) HV.out r.out.1 r.out.2).mono ?_
  rintro e w2 ⟨px, cx, rfl, -, l⟩
  have W2 : Hid (Below w.heap.size w w2) := seqB W1.out l
  clear l
  go_wp2_with fail
  refine (at_at HH.out _ _ _ _ es pp k _ _ (II.out.rows _ W2.out) II.out.byt PI.out KI.out (by have := II.out.mb; omega) rfl rfl).mono ?_
  rintro e w3 ⟨rfl, l⟩
  have W3 : Hid (Below w.heap.size w w3) := seqB W2.out l
  clear l
  go_wp2_with fail
  refine (awake3_any HH.out _).mono ?_
  rintro e w4 ⟨rfl, l⟩
  have FIN : Hid (Below w.heap.size w w4) := seqB W3.out l
  clear l
  go_wp2
  go_ret
  exact ⟨rfl, FIN.out⟩

set_option maxRecDepth 100000 in
set_option maxHeartbeats 6400000 in
theorem hole_short_walk_a (HC : OctCode) (w : World) (p : Option Addr) (nn c m k pp sz at' v : Nat) (es : List Nat) (I : HoleIn w p nn c m k pp sz at' es) (hs : sz < 256) (ha : at' < 256) (hv : v < 18446744073709551616) (hk : k < 8) (hf : v < 256 ^ k) (hl : es.length < pp + k) :
    Calls Try.prog 7 #[.slice p nn c, .agg #[.int .u8 sz, .int .u64 v], .int .u8 at'] w fun e w' => e = .returned (.bool true) ∧ Below w.heap.size w w' := by
  have HH := Lib.hid HC
  have II := Lib.hid I
  have e1 := I.em
  have e2 := I.ek
  have e3 := I.ep
  have q1 : (1 : Int) ≤ (k : Int) := by have := I.k1; omega
  have q8 : (k : Int) ≤ 8 := by have := I.k8; omega
  have q2 : (m : Int) ≤ (c : Int) := by have := I.mc; omega
  have q3 : (m : Int) ≤ 200 := by have := I.mb; omega
  have q5 : (sz : Int) < 256 := by omega
  have q6 : (at' : Int) < 256 := by omega
  have q4 : decide ((k : Int) < 8) = true := by simp; omega
  have q4' : (k : Int) < 8 := by omega
  have q7 : (((v : Int) / 2 ^ (8 * k)) != 0) = false := by rw [shr_ne]; exact decide_eq_false (not_not_intro hf)
  have q7' : (((v : Int) / 2 ^ (8 * k)) == 0) = true := by rw [shr_eq]; exact decide_eq_true hf
  have q9 : (m : Int) < (pp : Int) + (k : Int) := by have := I.len; omega
  have q10 : decide ((m : Int) < (pp : Int) + (k : Int)) = true := by simp; omega
  have q11 : (pp : Int) ≤ (m : Int) + 1 := by have := I.pm; omega
  have r := hole_short es pp k v I.k1 I.k8 hf hl
  replace r := Lib.hid r
  have HV := Lib.hid hv
  have KI : Hid (I64 (k : Int)) := i64k _ (by omega) (by omega)
  have PI : Hid (I64 (pp : Int)) := i64k _ (by omega) (by have := I.pm; omega)
  clear I hs ha hv HC hf hk hl
  go_enter Try.func7, Try.ntmps7
  go_wp2_with fail
  go_quiet (fail)
  have W1 : Hid (Below w.heap.size w ((w.alloc (.cells #[.int .u8 sz, .int .u64 v] 64)).drewN nq)) := below_drewN (laidB _ _) nq
  generalize hw : (w.alloc (.cells #[.int .u8 sz, .int .u64 v] 64)).drewN nq = w1 at *
  clear hw
  go_wp2_with fail
  refine (put_at HH.out _ _ _ _ es pp k v [] 4 (II.out.rows _ W1.out) II.out.byt PI.out KI.out (by have := II.out.mb; omega) HV.out r.out.1.1 r.out.1.2).mono ?_
  rintro e w2 ⟨px, cx, rfl, -, l⟩
  have W2 : Hid (Below w.heap.size w w2) := seqB W1.out l
  clear l
  go_wp2_with fail
  refine (at_at HH.out _ _ _ _ es pp k 0 false (II.out.rows _ W2.out) II.out.byt PI.out KI.out (by have := II.out.mb; omega) r.out.2.1 r.out.2.2).mono ?_
  rintro e w3 ⟨rfl, l⟩
  have W3 : Hid (Below w.heap.size w w3) := seqB W2.out l
  clear l
  go_wp2_with fail
  refine (awake3_any HH.out _).mono ?_
  rintro e w4 ⟨rfl, l⟩
  have FIN : Hid (Below w.heap.size w w4) := seqB W3.out l
  clear l
  go_wp2
  go_ret
  exact ⟨rfl, FIN.out⟩

set_option maxRecDepth 100000 in
set_option maxHeartbeats 6400000 in
theorem hole_short_walk_b (HC : OctCode) (w : World) (p : Option Addr) (nn c m k pp sz at' v : Nat) (es : List Nat) (I : HoleIn w p nn c m k pp sz at' es) (hs : sz < 256) (ha : at' < 256) (hv : v < 18446744073709551616) (hk : ¬ k < 8) (hf : v < 256 ^ k) (hl : es.length < pp + k) :
    Calls Try.prog 7 #[.slice p nn c, .agg #[.int .u8 sz, .int .u64 v], .int .u8 at'] w fun e w' => e = .returned (.bool true) ∧ Below w.heap.size w w' := by
  have HH := Lib.hid HC
  have II := Lib.hid I
  have e1 := I.em
  have e2 := I.ek
  have e3 := I.ep
  have q1 : (1 : Int) ≤ (k : Int) := by have := I.k1; omega
  have q8 : (k : Int) ≤ 8 := by have := I.k8; omega
  have q2 : (m : Int) ≤ (c : Int) := by have := I.mc; omega
  have q3 : (m : Int) ≤ 200 := by have := I.mb; omega
  have q5 : (sz : Int) < 256 := by omega
  have q6 : (at' : Int) < 256 := by omega
  have q4 : decide ((k : Int) < 8) = false := by simp; omega
  have q4' : 8 ≤ (k : Int) := by omega
  have q9 : (m : Int) < (pp : Int) + (k : Int) := by have := I.len; omega
  have q10 : decide ((m : Int) < (pp : Int) + (k : Int)) = true := by simp; omega
  have q11 : (pp : Int) ≤ (m : Int) + 1 := by have := I.pm; omega
  have r := hole_short es pp k v I.k1 I.k8 hf hl
  replace r := Lib.hid r
  have HV := Lib.hid hv
  have KI : Hid (I64 (k : Int)) := i64k _ (by omega) (by omega)
  have PI : Hid (I64 (pp : Int)) := i64k _ (by omega) (by have := I.pm; omega)
  clear I hs ha hv HC hf hk hl
  go_enter Try.func7, Try.ntmps7
  go_wp2_with fail
  go_quiet (fail)
  have W1 : Hid (Below w.heap.size w ((w.alloc (.cells #[.int .u8 sz, .int .u64 v] 64)).drewN nq)) := below_drewN (laidB _ _) nq
  generalize hw : (w.alloc (.cells #[.int .u8 sz, .int .u64 v] 64)).drewN nq = w1 at *
  clear hw
  go_wp2_with fail
  refine (put_at HH.out _ _ _ _ es pp k v [] 4 (II.out.rows _ W1.out) II.out.byt PI.out KI.out (by have := II.out.mb; omega) HV.out r.out.1.1 r.out.1.2).mono ?_
  rintro e w2 ⟨px, cx, rfl, -, l⟩
  have W2 : Hid (Below w.heap.size w w2) := seqB W1.out l
  clear l
  go_wp2_with fail
  refine (at_at HH.out _ _ _ _ es pp k 0 false (II.out.rows _ W2.out) II.out.byt PI.out KI.out (by have := II.out.mb; omega) r.out.2.1 r.out.2.2).mono ?_
  rintro e w3 ⟨rfl, l⟩
  have W3 : Hid (Below w.heap.size w w3) := seqB W2.out l
  clear l
  go_wp2_with fail
  refine (awake3_any HH.out _).mono ?_
  rintro e w4 ⟨rfl, l⟩
  have FIN : Hid (Below w.heap.size w w4) := seqB W3.out l
  clear l
  go_wp2
  go_ret
  exact ⟨rfl, FIN.out⟩

end Go.Proofs.Ytpamnephndoefaa
