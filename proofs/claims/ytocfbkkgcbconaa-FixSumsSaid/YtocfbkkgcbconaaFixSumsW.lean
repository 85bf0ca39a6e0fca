/- The walk of FixSums: sums, differences, products are the document's. -/
import Derived.Test.YtocfbkkgcbconaaBigH
import Derived.Test.YtocfbkkgcbconaaFixS
namespace Go.Proofs.Ytocfbkkgcbconaa
open Go.ChangeShapes Go.WideShapes Go.ChangeAt Go.RowKit BigM

theorem prod_of (a b : Int) : sg ((!(decide (a < 0) == decide (b < 0))) && decide (a.natAbs * b.natAbs ≠ 0)) (a.natAbs * b.natAbs) = a * b := by
  have e := mul_signs a b _ _ _ rfl rfl rfl
  rw [e]
  generalize (!(decide (a < 0) == decide (b < 0))) = s
  generalize a.natAbs * b.natAbs = t
  by_cases h : t = 0
  · subst h; cases s <;> rfl
  · cases s <;> simp [sg, h]

theorem rmul_any (a b : Int) (ha : I64 a) (hb : I64 b) (w : World) :
    Calls Try.prog 15 #[.int .i64 a, .int .i64 b] w (TwoPost w (outN (a * b)) (outE (a * b))) := by
  rw [← prod_of a b]
  generalize hma : decide (a < 0) = ma
  generalize hmb : decide (b < 0) = mb
  have OA := Lib.hid (fun w => of_any w a ha)
  have OB := Lib.hid (fun w => of_any w b hb)
  rw [hma] at OA
  rw [hmb] at OB
  generalize a.natAbs = na at *
  generalize b.natAbs = nb at *
  obtain ⟨sm, hsm⟩ : ∃ s, s = ((!(ma == mb)) && decide (na * nb ≠ 0)) := ⟨_, rfl⟩
  obtain ⟨sn, hsn⟩ : ∃ s, s = na * nb := ⟨_, rfl⟩
  rw [← hsm, ← hsn]
  have HM := Lib.hid hsm
  have HN := Lib.hid hsn
  clear hma hmb hsm hsn
  go_enter Try.func15, Try.ntmps15
  go_wp2_with fail
  refine (OA.out _).mono ?_; rintro e w1 ⟨x, rfl, hx, b1⟩
  go_wp2_with fail
  refine (OB.out _).mono ?_; rintro e w2 ⟨y, rfl, hy, b2⟩
  go_wp2_with fail
  refine (Times_any w2 x y ma mb na nb 4 4 (hx.below b2) hy (by omega) (by omega)).mono ?_; rintro e w3 ⟨z, rfl, hz, b3⟩
  rw [← HM.out, ← HN.out] at hz
  go_wp2_with fail
  refine (told_any w3 z sm sn _ hz.raw (by omega)).mono ?_; rintro e w4 ⟨rfl, b4⟩
  have hb' : Below w.heap.size w w4 := ((b1.trans (b2.mono b1.size)).trans (b3.mono (Nat.le_trans b1.size b2.size))).trans (b4.mono (Nat.le_trans (Nat.le_trans b1.size b2.size) b3.size))
  have FIN : Hid (TwoPost w (outN (sg sm sn)) (outE (sg sm sn)) (.returned (.tuple #[.int .i64 (outN (sg sm sn)), .int .i64 (outE (sg sm sn))])) w4) := ⟨rfl, hb'⟩
  clear hb' b1 b2 b3 b4 hx hy hz
  go_wp2
  go_ret2
  exact FIN.out

theorem add_all (a b : Int) (ha : I64 a) (hb : I64 b) (w : World) :
    Calls Try.prog 10 #[.int .i64 a, .int .i64 b] w fun e w' => e = .returned (.tuple #[.int .i64 (outN (a + b)), .int .i64 (outE (a + b))]) ∧ w = w' := by
  by_cases h : I64 (a + b)
  · rw [outN_ok h, outE_ok h]; exact add_ok a b ha hb h w
  · rw [outN_no h, outE_no h]; exact add_no a b ha hb h w
theorem sub_all (a b : Int) (ha : I64 a) (hb : I64 b) (w : World) :
    Calls Try.prog 12 #[.int .i64 a, .int .i64 b] w fun e w' => e = .returned (.tuple #[.int .i64 (outN (a - b)), .int .i64 (outE (a - b))]) ∧ w = w' := by
  by_cases h : I64 (a - b)
  · rw [outN_ok h, outE_ok h]; exact sub_ok a b ha hb h w
  · rw [outN_no h, outE_no h]; exact sub_no a b ha hb h w
theorem addsat_all (a b : Int) (ha : I64 a) (hb : I64 b) (w : World) :
    Calls Try.prog 17 #[.int .i64 a, .int .i64 b] w fun e w' => e = .returned (.int .i64 (nearN (a + b))) ∧ w = w' := by
  unfold nearN
  split
  · exact addsat_lo a b ha hb ‹_› w
  · split
    · exact addsat_hi a b ha hb ‹_› w
    · exact addsat_ok a b ha hb ⟨by omega, by omega⟩ w
theorem subsat_all (a b : Int) (ha : I64 a) (hb : I64 b) (w : World) :
    Calls Try.prog 19 #[.int .i64 a, .int .i64 b] w fun e w' => e = .returned (.int .i64 (nearN (a - b))) ∧ w = w' := by
  unfold nearN
  split
  · exact subsat_lo a b ha hb ‹_› w
  · split
    · exact subsat_hi a b ha hb ‹_› w
    · exact subsat_ok a b ha hb ⟨by omega, by omega⟩ w

theorem outE_range (t : Int) : 0 ≤ outE t ∧ outE t ≤ 20 := by unfold outE; split <;> omega

set_option maxRecDepth 100000 in
set_option maxHeartbeats 2000000 in
theorem sums_walk (a b : Int) (ha : I64 a) (hb : I64 b) (w : World) :
    Calls Try.prog 3 #[.int .i64 a, .int .i64 b] w fun e w' => e = .returned (.bool true) ∧ Below w.heap.size w w' := by
  have A1 := Lib.hid (fun w => add_all a b ha hb w)
  have A2 := Lib.hid (fun w => radd_any a b ha hb w)
  have S1 := Lib.hid (fun w => sub_all a b ha hb w)
  have S2 := Lib.hid (fun w => rsub_any a b ha hb w)
  have M1 := Lib.hid (fun w => mul_any a b ha hb w)
  have M2 := Lib.hid (fun w => rmul_any a b ha hb w)
  have T1 := Lib.hid (fun w => addsat_all a b ha hb w)
  have T2 := Lib.hid (fun w => raddsat_any a b ha hb w)
  have U1 := Lib.hid (fun w => subsat_all a b ha hb w)
  have U2 := Lib.hid (fun w => rsubsat_any a b ha hb w)
  have V1 := Lib.hid (fun w => abs_any a ha w)
  have V2 := Lib.hid (fun w => rabs_any a ha w)
  generalize outN (a + b) = n1 at *
  generalize outE (a + b) = e1 at *
  generalize outN (a - b) = n2 at *
  generalize outE (a - b) = e2 at *
  generalize outN (a * b) = n3 at *
  generalize outE (a * b) = e3 at *
  generalize nearN (a + b) = n4 at *
  generalize nearN (a - b) = n5 at *
  generalize absN a = n6 at *
  go_enter Try.func3, Try.ntmps3
  go_wp2_with fail
  refine (A1.out _).mono ?_; rintro e w' ⟨rfl, rfl⟩
  go_wp2_with fail
  refine (A2.out _).mono ?_; rintro e w1 ⟨rfl, b1⟩
  go_wp2_with fail
  refine (S1.out _).mono ?_; rintro e w' ⟨rfl, rfl⟩
  go_wp2_with fail
  refine (S2.out _).mono ?_; rintro e w2 ⟨rfl, b2⟩
  go_wp2_with fail
  refine (M1.out _).mono ?_; rintro e w3 ⟨rfl, b3⟩
  go_wp2_with fail
  refine (M2.out _).mono ?_; rintro e w4 ⟨rfl, b4⟩
  go_wp2_with fail
  refine (awake_any _).mono ?_; rintro e w5 ⟨rfl, b5⟩
  go_wp2_with fail
  refine (T1.out _).mono ?_; rintro e w' ⟨rfl, rfl⟩
  go_wp2_with fail
  refine (T2.out _).mono ?_; rintro e w6 ⟨rfl, b6⟩
  go_wp2_with fail
  refine (U1.out _).mono ?_; rintro e w' ⟨rfl, rfl⟩
  go_wp2_with fail
  refine (U2.out _).mono ?_; rintro e w7 ⟨rfl, b7⟩
  go_wp2_with fail
  refine (V1.out _).mono ?_; rintro e w' ⟨rfl, rfl⟩
  go_wp2_with fail
  refine (V2.out _).mono ?_; rintro e w' ⟨rfl, rfl⟩
  go_wp2
  go_ret
  exact ⟨rfl, Chain.done (((((((Chain.nil w).step b1).step b2).step b3.b).step b4).step b5.b).step b6 |>.step b7)⟩
end Go.Proofs.Ytocfbkkgcbconaa
