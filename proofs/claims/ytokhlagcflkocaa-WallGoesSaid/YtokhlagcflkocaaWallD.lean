/- Layer 12 (wall): the program's rates: farthest, Rate, Slewed. -/
import Derived.Test.YtokhlagcflkocaaWallC
import Derived.Test.YtokhlagcflkocaaWallR
set_option maxRecDepth 100000
namespace Go.Proofs.Ytokhlagcflkocaa
open Go.ChangeShapes Go.WideShapes Go.ChangeAt Go.RowKit WallM

set_option maxHeartbeats 1000000 in
theorem pfar12_any (w : World) (N : Nat) (a b A B : Int) (c0 : w.cell? ⟨N, 0, none⟩ = some (.int .i64 a)) (c1 : w.cell? ⟨N, 1, none⟩ = some (.int .i64 b))
    (ia : I64 a) (ib : I64 b) (hA : absN a = A) (hB : absN b = B) (pa : 0 ≤ A) (za : A = 0 → a = 0) :
    Calls Try.prog 38 #[.slice (some ⟨N, 0, none⟩) 2 2] w fun e w' => e = .returned (.int .i64 (if A < B then b else a)) ∧ w = w' := by
  have AA := Lib.hid (fun w => abs_any a ia w)
  have AB := Lib.hid (fun w => abs_any b ib w)
  have A0 := Lib.hid (fun w => abs_any 0 ⟨by decide, by decide⟩ w)
  rw [hA] at AA
  rw [hB] at AB
  rw [show absN 0 = 0 by decide] at A0
  obtain ⟨f, hf⟩ : ∃ f, (if A < B then b else a) = f := ⟨_, rfl⟩
  rw [hf]
  have ALT : Hid ((A < B ∧ f = b) ∨ (¬ A < B ∧ f = a)) := by
    unfold Hid
    rw [← hf]
    split
    · exact .inl ⟨by omega, rfl⟩
    · exact .inr ⟨by omega, rfl⟩
  have ZA : Hid ((0 < A) ∨ (A = 0 ∧ a = 0)) := by
    unfold Hid
    by_cases h : A = 0
    · exact .inr ⟨h, za h⟩
    · exact .inl (by omega)
  clear ia ib hA hB pa za hf
  go_enter Try.func38, Try.ntmps38
  go_wp2_with fail
  go_loop [3, 8] (fun g i => (g = .int .i64 0 ∧ i = .int .i64 0) ∨ (g = .int .i64 a ∧ i = .int .i64 1) ∨ (g = .int .i64 f ∧ i = .int .i64 2)) (fun _ i => 10 - (intOf i).toNat)
  case atStart => exact .inl ⟨rfl, rfl⟩
  case round =>
    rcases hrel with ⟨rfl, rfl⟩ | ⟨rfl, rfl⟩ | ⟨rfl, rfl⟩
    · rcases ZA.out with z | ⟨z, y⟩
      · have d : decide (0 < A) = true := decide_eq_true z
        go_wp2_with fail
        refine (AA.out _).mono ?_; rintro e w1 ⟨rfl, rfl⟩
        go_wp2_with fail
        refine (A0.out _).mono ?_; rintro e w2 ⟨rfl, rfl⟩
        go_wp2
        go_round
        case rel => exact .inr (.inl ⟨rfl, rfl⟩)
        case measure => decide
      · subst z y
        go_wp2_with fail
        refine (A0.out _).mono ?_; rintro e w1 ⟨rfl, rfl⟩
        go_wp2_with fail
        refine (A0.out _).mono ?_; rintro e w2 ⟨rfl, rfl⟩
        go_wp2
        go_round
        case rel => exact .inr (.inl ⟨rfl, rfl⟩)
        case measure => decide
    · rcases ALT.out with ⟨z, rfl⟩ | ⟨z, rfl⟩
      · have d : decide (A < B) = true := decide_eq_true z
        go_wp2_with fail
        refine (AB.out _).mono ?_; rintro e w1 ⟨rfl, rfl⟩
        go_wp2_with fail
        refine (AA.out _).mono ?_; rintro e w2 ⟨rfl, rfl⟩
        go_wp2
        go_round
        case rel => exact .inr (.inr ⟨rfl, rfl⟩)
        case measure => decide
      · have d : decide (A < B) = false := decide_eq_false (by omega)
        have z' : B ≤ A := by omega
        clear z
        go_wp2_with fail
        refine (AB.out _).mono ?_; rintro e w1 ⟨rfl, rfl⟩
        go_wp2_with fail
        refine (AA.out _).mono ?_; rintro e w2 ⟨rfl, rfl⟩
        go_wp2
        go_round
        case rel => exact .inr (.inr ⟨rfl, rfl⟩)
        case measure => decide
    · go_wp2
      go_ret
      exact ⟨rfl, rfl⟩

/-- What a rate slews. -/
theorem pslewed12_any (w : World) (r n : Int) : Calls Try.prog 22 #[.int .i64 r, .int .i64 n] w (IntB w (slewN r n)) := by
  have i := inst_in n
  have j := bnd_in r
  have PI := Lib.hid (fun w => pinst12_any w n)
  have PB := Lib.hid (fun w => pbounded12_any w r)
  have si := slew_in r n
  unfold slewN at si ⊢
  have MD := fun w => muldiv_any (inst n) (bnd r) 1000000000 ⟨by omega, by omega⟩ ⟨by omega, by omega⟩ ⟨by decide, by decide⟩ (by decide) w
  have eq : quoI (inst n * bnd r) 1000000000 false = inst n * bnd r / 1000000000 := rfl
  have ii : I64 (inst n * bnd r / 1000000000) := ⟨by omega, by omega⟩
  simp only [eq, outN_ok ii, outE_ok ii] at MD
  replace MD := Lib.hid MD
  generalize inst n * bnd r / 1000000000 = q at *
  generalize inst n = x at *
  generalize bnd r = y at *
  clear i j si eq ii
  go_enter Try.func22, Try.ntmps22
  go_wp2_with fail
  refine (PI.out _).mono ?_; rintro e w1 ⟨rfl, l⟩
  have L1 := Lib.hid l
  clear l
  go_wp2_with fail
  refine (PB.out _).mono ?_; rintro e w2 ⟨rfl, l⟩
  have L2 := Lib.hid (L1.out.trans (l.mono L1.out.size))
  clear l
  go_wp2_with fail
  refine (MD.out _).mono ?_; rintro e w3 ⟨rfl, o⟩
  have F : Hid (IntB w q (.returned (.int .i64 q)) w3) := ⟨rfl, L2.out.trans (o.b.mono L2.out.size)⟩
  clear o
  go_wp2
  go_ret
  exact F.out

set_option maxHeartbeats 1000000 in
/-- The body of Rate, where both quotients are told. -/
theorem prate12_core (w : World) (a n k c d u dE uE t : Int) (hk : inst n = k) (hc : cl a (-k) k = c)
    (MD : ∀ w, Calls Try.prog 35 #[.int .i64 c, .int .i64 1000000000, .int .i64 k] w fun e w' => e = .returned (.tuple #[.int .i64 d, .int .i64 dE]) ∧ Out w w')
    (MU : ∀ w, Calls Try.prog 36 #[.int .i64 c, .int .i64 1000000000, .int .i64 k] w fun e w' => e = .returned (.tuple #[.int .i64 u, .int .i64 uE]) ∧ Out w w')
    (d0 : -1000000000 ≤ d) (d1 : d ≤ 1000000000) (u0 : -1000000000 ≤ u) (u1 : u ≤ 1000000000) (ht : bnd (farN d u) = t) :
    Calls Try.prog 20 #[.int .i64 a, .int .i64 n] w (IntB w t) := by
  have i := inst_in n
  have PI := Lib.hid (fun w => pinst12_any w n)
  rw [hk] at i PI
  have BE := Lib.hid (fun w => pbetween12_any w (-k) k)
  have PC := Lib.hid pcl12_any
  have HC := Lib.hid hc
  replace MD := Lib.hid MD
  replace MU := Lib.hid MU
  have w1 : wrap64 (-k) = -k := by unfold wrap64; omega
  have w2 : IntKind.i64.wrap (-k) = -k := by rw [IntKind.wrap_i64]; omega
  have ad : ∀ z : Int, -1000000000 ≤ z → z ≤ 1000000000 → absN z = (z.natAbs : Nat) := fun z h h' => by
    unfold absN
    rw [if_neg (by omega)]
    split <;> omega
  have ef : farN d u = if ((d.natAbs : Nat) : Int) < ((u.natAbs : Nat) : Int) then u else d := by
    unfold farN
    split
    · rw [if_pos (by omega)]
    · rw [if_neg (by omega)]
  have FA := Lib.hid (fun w N (c0 : w.cell? ⟨N, 0, none⟩ = some (.int .i64 d)) (c1 : w.cell? ⟨N, 1, none⟩ = some (.int .i64 u)) => pfar12_any w N d u (d.natAbs : Nat) (u.natAbs : Nat) c0 c1 ⟨by omega, by omega⟩ ⟨by omega, by omega⟩ (ad d d0 d1) (ad u u0 u1) (by omega) (by omega))
  rw [← ef] at FA
  generalize farN d u = f at *
  have PB := Lib.hid (fun w => pbounded12_any w f)
  rw [ht] at PB
  clear i ht ad ef d0 d1 u0 u1 hk hc
  go_enter Try.func20, Try.ntmps20
  go_wp2_with fail
  refine (PI.out _).mono ?_; rintro e w1 ⟨rfl, l⟩
  have L1 := Lib.hid l
  clear l
  go_wp2_with fail
  refine (BE.out _).mono ?_; rintro e w2 ⟨N1, M1, rfl, c1, c2, l⟩
  have C := Lib.hid (PC.out w2 N1 M1 a _ _ c1 c2)
  rw [HC.out] at C
  have L2 := Lib.hid (L1.out.trans (l.mono L1.out.size))
  clear c1 c2 l
  go_wp2_with fail
  refine C.out.mono ?_; rintro e w3 ⟨rfl, rfl⟩
  go_wp2_with fail
  refine (MD.out _).mono ?_; rintro e w4 ⟨rfl, o⟩
  have L4 := Lib.hid (L2.out.trans (o.b.mono L2.out.size))
  clear o C L1
  go_wp2_with fail
  refine (MU.out _).mono ?_; rintro e w5 ⟨rfl, o⟩
  have L5 := Lib.hid (L4.out.trans (o.b.mono L4.out.size))
  have A5 := Lib.hid (heap_alloc_new w5 (.cells #[.int .i64 d, .int .i64 u] 2))
  have L6 := Lib.hid (L5.out.alloc L5.out.size (.cells #[.int .i64 d, .int .i64 u] 2))
  clear o L2 L4
  go_wp2_with fail
  refine (FA.out _ _ (blk_cell (o := 0) A5.out) (blk_cell (o := 1) A5.out)).mono ?_; rintro e w6 ⟨rfl, rfl⟩
  go_wp2_with fail
  refine (PB.out _).mono ?_; rintro e w7 ⟨rfl, l⟩
  have F : Hid (IntB w t (.returned (.int .i64 t)) w7) := ⟨rfl, L6.out.trans (l.mono L6.out.size)⟩
  clear l
  go_wp2
  go_ret
  exact F.out

theorem prate12_any (w : World) (a n : Int) : Calls Try.prog 20 #[.int .i64 a, .int .i64 n] w (IntB w (rateN a n)) := by
  have i := inst_in n
  by_cases z : inst n = 0
  · have e : rateN a n = 0 := by unfold rateN; rw [if_pos z]
    rw [e]
    have hc : cl a (-0) 0 = 0 := by unfold cl; split <;> (try split) <;> omega
    exact prate12_core w a n 0 0 0 0 1 1 0 z hc (fun w => (muldiv_arg 0 1000000000 0 (by decide) w).mono fun e w' ⟨a, b⟩ => ⟨a, Out.of_eq b⟩) (fun w => (muldivup_arg 0 1000000000 0 (by decide) w).mono fun e w' ⟨a, b⟩ => ⟨a, Out.of_eq b⟩) (by decide) (by decide) (by decide) (by decide) (by decide)
  · have h0 : 0 < inst n := by omega
    unfold rateN
    rw [if_neg z]
    have rf := rate_far a (inst n) h0
    generalize hk : inst n = k at *
    have ci := cl_in a (show -k ≤ k by omega)
    generalize hc : cl a (-k) k = c at *
    have Q := quo_of h0 ci.1 ci.2
    have id : I64 (quoI (c * 1000000000) k false) := ⟨by have := Q.d0; show _ ≤ c * 1000000000 / k; omega, by have := Q.d1; show c * 1000000000 / k ≤ _; omega⟩
    have iu : I64 (quoI (c * 1000000000) k true) := ⟨by have := Q.u0; show _ ≤ -((-(c * 1000000000)) / k); omega, by have := Q.u1; show -((-(c * 1000000000)) / k) ≤ _; omega⟩
    have MD := fun w => muldiv_any c 1000000000 k ⟨by omega, by omega⟩ ⟨by decide, by decide⟩ ⟨by omega, by omega⟩ h0 w
    have MU := fun w => muldivup_any c 1000000000 k ⟨by omega, by omega⟩ ⟨by decide, by decide⟩ ⟨by omega, by omega⟩ h0 w
    simp only [outN_ok id, outE_ok id] at MD
    simp only [outN_ok iu, outE_ok iu] at MU
    exact prate12_core w a n k c _ _ 0 0 _ hk hc MD MU Q.d0 Q.d1 Q.u0 Q.u1 rf
end Go.Proofs.Ytokhlagcflkocaa
