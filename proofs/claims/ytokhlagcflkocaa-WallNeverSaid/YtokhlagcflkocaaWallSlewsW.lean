/- WallSlews: the walk. -/
import Derived.Test.YtokhlagcflkocaaWallG
import Derived.Test.YtokhlagcflkocaaWallS
set_option maxRecDepth 100000
namespace Go.Proofs.Ytokhlagcflkocaa
open Go.ChangeShapes Go.WideShapes Go.ChangeAt Go.RowKit WallM BigM

/-- What a mask of low bits leaves. -/
theorem mask_in (a : Int) (m : Nat) (hm : m < 9223372036854775808) : 0 ≤ bits .and .i64 a (m : Int) ∧ bits .and .i64 a (m : Int) ≤ (m : Int) := by
  have h2 : (BitVec.ofInt 64 (m : Int)).toNat = m := by
    rw [BitVec.ofInt_natCast, BitVec.toNat_ofNat]; exact Nat.mod_eq_of_lt (by omega)
  have e : bits .and .i64 a (m : Int) = IntKind.i64.wrap (((BitVec.ofInt 64 a).toNat &&& m : Nat) : Int) := by
    show IntKind.i64.wrap ((BitVec.ofInt 64 a &&& BitVec.ofInt 64 (m : Int)).toNat : Int) = _
    rw [BitVec.toNat_and, h2]
  have l : (BitVec.ofInt 64 a).toNat &&& m ≤ m := Nat.and_le_right
  rw [e, IntKind.wrap_i64]
  generalize (BitVec.ofInt 64 a).toNat &&& m = g at *
  omega

set_option maxHeartbeats 4000000 in
theorem slews12_walk (w : World) (a0 n0 m0 : Int) :
    Calls Try.prog 6 #[.int .i64 a0, .int .i64 n0, .int .i64 m0] w fun e w' => e = .returned (.bool true) ∧ Below w.heap.size w w' := by
  obtain ⟨a, ha⟩ : ∃ a, a0.tmod 1125899906842624 = a := ⟨_, rfl⟩
  obtain ⟨k, hk⟩ : ∃ k, bits .and .i64 n0 1125899906842623 = k := ⟨_, rfl⟩
  obtain ⟨m, hm⟩ : ∃ m, bits .and .i64 m0 1125899906842623 = m := ⟨_, rfl⟩
  have k0 : 0 ≤ k ∧ k ≤ 1125899906842623 := by rw [← hk]; exact mask_in n0 1125899906842623 (by decide)
  have m0' : 0 ≤ m ∧ m ≤ 1125899906842623 := by rw [← hm]; exact mask_in m0 1125899906842623 (by decide)
  have a1 : -1125899906842624 < a := by rw [← ha]; have := Int.lt_tmod_of_pos a0 (show (0 : Int) < 1125899906842624 by decide); omega
  have a2 : a < 1125899906842624 := by rw [← ha]; have := Int.tmod_lt_of_pos a0 (show (0 : Int) < 1125899906842624 by decide); omega
  obtain ⟨n, hn⟩ : ∃ n, 1 + k = n := ⟨_, rfl⟩
  obtain ⟨s, hs⟩ : ∃ s, n + m = s := ⟨_, rfl⟩
  have A := Lib.hid (fun w => prate12_any w a n)
  have A0 := Lib.hid (fun w => prate12_any w a 0)
  obtain ⟨r, hr⟩ : ∃ r, rateN a n = r := ⟨_, rfl⟩
  have rb := rateN_in a n
  rw [hr] at A rb
  have B := Lib.hid (fun w => pslewed12_any w r n)
  have C := Lib.hid (fun w => pslewed12_any w r s)
  have D := Lib.hid (fun w => pslewed12_any w r m)
  have E := Lib.hid (fun w => pslewed12_any w 0 n)
  have F := Lib.hid (fun w => pslewed12_any w r 0)
  rw [(slew_zero n).1] at E
  rw [(slew_zero r).2.1] at F
  rw [(slew_zero a).2.2] at A0
  have db := slew_in r n
  have bb := slew_in r s
  have pb := slew_in r m
  have two := slew_two r n m (by omega) (by omega) (by omega)
  rw [hs] at two
  obtain ⟨d, hd⟩ : ∃ d, slewN r n = d := ⟨_, rfl⟩
  obtain ⟨f0, hf0⟩ : ∃ f, n / 1000000000 = f := ⟨_, rfl⟩
  obtain ⟨f, hf⟩ : ∃ f, f0 + 1 = f := ⟨_, rfl⟩
  have alt := slew_alt a n r d f (by omega) (by omega) hr hd (by rw [hf0]; exact hf)
  rw [hd] at B db two
  generalize slewN r s = b at *
  generalize slewN r m = p at *
  obtain ⟨t, ht⟩ : ∃ t, d + p = t := ⟨_, rfl⟩
  obtain ⟨u, hu⟩ : ∃ u, t + 1 = u := ⟨_, rfl⟩
  obtain ⟨g, hg⟩ : ∃ g, d - a = g := ⟨_, rfl⟩
  obtain ⟨h, hh⟩ : ∃ h, a - d = h := ⟨_, rfl⟩
  rw [ht, hu] at two
  have w1 : IntKind.i64.wrap n = n := by rw [IntKind.wrap_i64]; omega
  have w2 : IntKind.i64.wrap s = s := by rw [IntKind.wrap_i64]; omega
  have w3 : IntKind.i64.wrap t = t := by rw [IntKind.wrap_i64]; omega
  have w4 : IntKind.i64.wrap u = u := by rw [IntKind.wrap_i64]; omega
  have w5 : IntKind.i64.wrap g = g := by rw [IntKind.wrap_i64]; omega
  have w6 : IntKind.i64.wrap h = h := by rw [IntKind.wrap_i64]; omega
  have w7 : IntKind.i64.wrap f = f := by rw [IntKind.wrap_i64]; omega
  have v1 : wrap64 n = n := by unfold wrap64; omega
  have v2 : wrap64 s = s := by unfold wrap64; omega
  have v3 : wrap64 t = t := by unfold wrap64; omega
  have v4 : wrap64 u = u := by unfold wrap64; omega
  have v5 : wrap64 g = g := by unfold wrap64; omega
  have v6 : wrap64 h = h := by unfold wrap64; omega
  have v7 : wrap64 f = f := by unfold wrap64; omega
  have w8 : IntKind.i64.wrap f0 = f0 := by rw [IntKind.wrap_i64]; omega
  have v8 : wrap64 f0 = f0 := by unfold wrap64; omega
  have w9 : IntKind.i64.wrap a = a := by rw [IntKind.wrap_i64]; omega
  have v9 : wrap64 a = a := by unfold wrap64; omega
  have kt : n.tdiv 1000000000 = f0 := by rw [Int.tdiv_eq_ediv_of_nonneg (by omega)]; exact hf0
  have AL := Lib.hid alive12_any
  have r1 := rb.1
  have r2 := rb.2
  have TW : Hid (((b == t) = true) ∨ ((b == t) = false ∧ (b == u) = true)) := by
    unfold Hid
    rcases two with z | z
    · exact .inl (by simpa using z)
    · exact .inr ⟨by rw [beq_eq_false_iff_ne]; omega, by simpa using z⟩
  have ALT : Hid ((0 < a ∧ 0 < r ∧ decide (r < 500000) = true ∧ decide (d < a) = false ∧ decide (f < g) = false ∧ a ≤ d ∧ g ≤ f) ∨ (0 < a ∧ 0 < r ∧ decide (r < 500000) = false) ∨ (a < 0 ∧ r < 0 ∧ decide (r < 500000) = true ∧ decide (-500000 < r) = true ∧ decide (a < d) = false ∧ decide (f < h) = false ∧ d ≤ a ∧ h ≤ f) ∨ (a < 0 ∧ r < 0 ∧ decide (r < 500000) = true ∧ decide (-500000 < r) = false) ∨ (a = 0 ∧ r = 0 ∧ d = 0)) := by
    unfold Hid
    rcases alt with ⟨z1, z2, z3, z4, z5⟩ | ⟨z1, z2⟩ | ⟨z1, z2, z3, z4, z5⟩ | ⟨z1, z2⟩ | z
    · exact .inl ⟨z1, z2, decide_eq_true z3, decide_eq_false (by omega), decide_eq_false (by omega), z4, by omega⟩
    · exact .inr (.inl ⟨z1, by omega, decide_eq_false (by omega)⟩)
    · exact .inr (.inr (.inl ⟨z1, z3, decide_eq_true (by omega), decide_eq_true z2, decide_eq_false (by omega), decide_eq_false (by omega), z4, by omega⟩))
    · exact .inr (.inr (.inr (.inl ⟨z1, by omega, decide_eq_true (by omega), decide_eq_false (by omega)⟩)))
    · exact .inr (.inr (.inr (.inr z)))
  have e1 : decide (500000 < r) = false := decide_eq_false (by omega)
  have e2 : decide (r < -500000) = false := decide_eq_false (by omega)
  clear k0 m0' a1 a2 db bb pb two alt hd hr hf0 rb
  go_enter Try.func6, Try.ntmps6
  go_wp2_with fail
  refine (A.out _).mono ?_; rintro e w1 ⟨rfl, l⟩
  have L1 := Lib.hid l
  clear l
  go_wp2_with fail
  refine (B.out _).mono ?_; rintro e w2 ⟨rfl, l⟩
  have L2 := Lib.hid (L1.out.trans (l.mono L1.out.size))
  clear l A B L1
  go_upto_region 5 with (fail)
  go_cut [54] (fun o wx => o = .bool false ∧ wx = w2)
  case first =>
    rcases ALT.out with ⟨z1, z2, -⟩ | ⟨z1, z2, -⟩ | ⟨z1, z2, -⟩ | ⟨z1, z2, -⟩ | ⟨z1, z2, z3⟩
    · have d1 : decide (a ≤ 0) = false := decide_eq_false (by omega)
      go_wp2_with fail
      go_meet
      exact ⟨rfl, rfl⟩
    · have d1 : decide (a ≤ 0) = false := decide_eq_false (by omega)
      go_wp2_with fail
      go_meet
      exact ⟨rfl, rfl⟩
    · have d1 : decide (0 ≤ a) = false := decide_eq_false (by omega)
      go_wp2_with fail
      go_meet
      exact ⟨rfl, rfl⟩
    · have d1 : decide (0 ≤ a) = false := decide_eq_false (by omega)
      go_wp2_with fail
      go_meet
      exact ⟨rfl, rfl⟩
    · subst z1 z2 z3
      go_wp2_with fail
      go_meet
      exact ⟨rfl, rfl⟩
  case rest =>
  obtain ⟨rfl, rfl⟩ := hcut
  go_upto_region 8 with (fail)
  go_cut [103] (fun o wx => o = .bool false ∧ wx = wc)
  case first =>
    rcases ALT.out with ⟨z1, z2, z3, z4, z5, z6, z7⟩ | ⟨z1, z2, z3⟩ | ⟨z1, z2, z3, z4, z5, z6, z7, z8⟩ | ⟨z1, z2, z3, z4⟩ | ⟨z1, z2, z3⟩
    · go_wp2_with fail
      go_meet
      exact ⟨rfl, rfl⟩
    · go_wp2_with fail
      go_meet
      exact ⟨rfl, rfl⟩
    · go_wp2_with fail
      go_meet
      exact ⟨rfl, rfl⟩
    · go_wp2_with fail
      go_meet
      exact ⟨rfl, rfl⟩
    · subst z1 z2 z3
      go_wp2_with fail
      go_meet
      exact ⟨rfl, rfl⟩
  case rest =>
  obtain ⟨rfl, rfl⟩ := hcut
  clear ALT e1 e2
  go_wp2_with fail
  refine (C.out _).mono ?_; rintro e w3 ⟨rfl, l⟩
  have L3 := Lib.hid (L2.out.trans (l.mono L2.out.size))
  clear l C L2
  go_wp2_with fail
  refine (D.out _).mono ?_; rintro e w4 ⟨rfl, l⟩
  have L4 := Lib.hid (L3.out.trans (l.mono L3.out.size))
  clear l D L3
  rcases TW.out with z | ⟨z, z'⟩
  all_goals
    clear TW
    go_wp2_with fail
    refine (E.out _).mono ?_; rintro e w5 ⟨rfl, l⟩
    have L5 := Lib.hid (L4.out.trans (l.mono L4.out.size))
    clear l E L4
    go_wp2_with fail
    refine (F.out _).mono ?_; rintro e w6 ⟨rfl, l⟩
    have L6 := Lib.hid (L5.out.trans (l.mono L5.out.size))
    clear l F L5
    go_wp2_with fail
    refine (A0.out _).mono ?_; rintro e w7 ⟨rfl, l⟩
    have L7 := Lib.hid (L6.out.trans (l.mono L6.out.size))
    clear l A0 L6
    go_wp2_with fail
    refine (AL.out _).mono ?_; rintro e w8 ⟨rfl, l⟩
    have L8 := Lib.hid (L7.out.trans (l.mono L7.out.size))
    clear l AL L7
    go_wp2
    go_ret
    exact ⟨rfl, L8.out⟩
end Go.Proofs.Ytokhlagcflkocaa
