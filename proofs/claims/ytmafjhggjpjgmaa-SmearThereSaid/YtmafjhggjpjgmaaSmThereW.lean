/- SmearThere, the walk: there and back. -/
import Derived.Test.YtmafjhggjpjgmaaSmJ
import Derived.Test.YtmafjhggjpjgmaaSmN
import Derived.Test.YtmafjhggjpjgmaaMask
set_option maxRecDepth 100000
namespace Go.Proofs.Ytmafjhggjpjgmaa
open Go.ChangeShapes Go.WideShapes Go.ChangeAt Go.RowKit SmM

theorem there15_walk (C : SCode) (w : World) (p : Option Addr) (n c : Nat) (gs : List Gp) (h : HoldsG w p n c gs) (hh : ∀ g ∈ gs, g.h < 65536) (t : Int) :
    Calls Try.prog 6 #[.slice p n c, .int .i64 t] w fun e w' => e = .returned (.bool true) ∧ Below w.heap.size w w' := by
  have MA := Lib.hid (made15 C w p n c gs h hh)
  have AW := Lib.hid (awake15 C)
  have l32 := List.length_take_le 32 gs
  have OK := Lib.hid (mk_ok l32)
  have LL : Hid ((mkL dayI (gs.take 32)).length ≤ 32) := by unfold Hid; rw [mk_len]; exact l32
  generalize mkL dayI (gs.take 32) = l at *
  obtain ⟨u, hu⟩ : ∃ u, bits .and .i64 t 2305843009213693951 = u := ⟨_, rfl⟩
  have ub := mask_low t 2305843009213693951 (by decide)
  rw [show ((2305843009213693951 : Nat) : Int) = 2305843009213693951 from rfl, hu] at ub
  obtain ⟨u0, u1⟩ := ub
  have UB := Lib.hid (And.intro u0 u1)
  obtain ⟨s, hs⟩ : ∃ s, toI l u = s := ⟨_, rfl⟩
  have HS := Lib.hid hs
  have sb := to_bound LL.out u0 (show u ≤ topI by unfold topI; omega)
  rw [hs] at sb
  obtain ⟨s1, hs1⟩ : ∃ s1, s + 1 = s1 := ⟨_, rfl⟩
  obtain ⟨s2, hs2⟩ : ∃ s2, s + 2 = s2 := ⟨_, rfl⟩
  have e1 : wrap64 s1 = s1 := by unfold wrap64; omega
  have e2 : IntKind.i64.wrap s1 = s1 := by rw [IntKind.wrap_i64]; omega
  have e3 : wrap64 s2 = s2 := by unfold wrap64; omega
  have e4 : IntKind.i64.wrap s2 = s2 := by rw [IntKind.wrap_i64]; omega
  have SI : Hid (I64 u ∧ I64 s ∧ I64 s1) := by unfold Hid I64; omega
  have S1 := Lib.hid (And.intro hs1 hs2)
  clear h hh l32 u0 u1 sb hs
  go_enter Try.func6, Try.ntmps6
  go_wp2_with fail
  refine MA.out.mono ?_; rintro e w1 ⟨N, F, p', m, c', rfl, t1, -, b1⟩
  have T1 := Lib.hid t1
  have L1 := Lib.hid b1
  clear t1 b1 MA
  go_wp2_with fail
  refine (AW.out w1).mono ?_; rintro e w2 ⟨rfl, k2⟩
  go_wp2_with fail
  have TO : Hid (∀ w' z v, Below w1.heap.size w1 w' → I64 z → toI l z = v → Calls Try.prog 17 #[.pointer (some ⟨N, 0, none⟩), .int .i64 z] w' fun e w'' => e = .returned (.int .i64 v) ∧ Below w1.heap.size w1 w'') := fun w' t v k i h =>
    (C.to_ t (C.below T1.out k) i).mono fun e w'' ⟨a, b⟩ => ⟨by rw [a, h], k.trans (b.mono k.size)⟩
  have BK : Hid (∀ w' z, Below w1.heap.size w1 w' → I64 z → Calls Try.prog 22 #[.pointer (some ⟨N, 0, none⟩), .int .i64 z] w' fun e w'' => (∃ t b, e = .returned (.tuple #[.int .i64 t, .bool b]) ∧ BackP l z t b) ∧ Below w1.heap.size w1 w'') := fun w' z k i =>
    (C.back z (C.below T1.out k) i).mono fun e w'' ⟨a, b⟩ => ⟨a, k.trans (b.mono k.size)⟩
  refine (TO.out _ u s k2 SI.out.1 HS.out).mono ?_; rintro e w3 ⟨rfl, k3⟩
  clear k2
  go_wp2_with fail
  refine (BK.out _ s k3 SI.out.2.1).mono ?_; rintro e w4 ⟨⟨b, i, rfl, hb⟩, k4⟩
  have HB := Lib.hid hb
  clear k3 hb
  go_wp2_with fail
  refine (BK.out _ s1 k4 SI.out.2.2).mono ?_; rintro e w5 ⟨⟨d, j, rfl, hd⟩, k5⟩
  have q := there_back OK.out LL.out UB.out.1 UB.out.2 HS.out HB.out (by rw [S1.out.1]; exact hd)
  clear k4 hd
  obtain ⟨rfl, rfl, q1, q2, q3, q4, q5, q6, q7, q8, q9⟩ := q
  rw [hs1] at q4
  rw [hs2] at q5
  have Q2 := Lib.hid q2
  obtain ⟨v, hv⟩ : ∃ v, toI l d = v := ⟨_, rfl⟩
  have HV := Lib.hid hv
  rw [hv] at q4 q5
  have d1 : decide (b ≤ u) = true := decide_eq_true q1
  have d2 : decide (b < d) = true := decide_eq_true q3
  have d3 : decide (s1 ≤ v) = true := decide_eq_true q4
  have d4 : decide (v ≤ s2) = true := decide_eq_true q5
  have BI : Hid (I64 b ∧ I64 d) := by unfold Hid I64; unfold topI at q7 q9; omega
  clear q6 q7 q8 q9 q2 hv
  go_wp2_with fail
  refine (TO.out _ b s k5 BI.out.1 Q2.out).mono ?_; rintro e w6 ⟨rfl, k6⟩
  clear k5
  go_wp2_with fail
  refine (TO.out _ d v k6 BI.out.2 HV.out).mono ?_; rintro e w7 ⟨rfl, k7⟩
  clear k6
  go_wp2_with fail
  refine (TO.out _ d v k7 BI.out.2 HV.out).mono ?_; rintro e w8 ⟨rfl, k8⟩
  have L8 := Lib.hid (L1.out.trans (k8.mono L1.out.size))
  clear k7 k8
  go_wp2
  go_ret
  exact ⟨rfl, L8.out⟩
end Go.Proofs.Ytmafjhggjpjgmaa
