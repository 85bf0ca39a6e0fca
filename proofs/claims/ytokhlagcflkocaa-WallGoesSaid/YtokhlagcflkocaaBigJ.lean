/- Contracts of the document's own answers for layer 1: MulDiv, down and up; Sqrt. -/
import Derived.Test.YtokhlagcflkocaaBigI
import Derived.Test.YtokhlagcflkocaaFixSumsW
import Derived.Deep.RegionHeld3
namespace Go.Proofs.Ytokhlagcflkocaa
open Go.ChangeShapes Go.WideShapes Go.ChangeAt Go.RowKit BigM

theorem quo_sg (m up : Bool) (P k q r : Nat) (hk : 0 < k) (hq : P / k = q) (hr : P % k = r) : quoI (sg m P) k up = sg m (if 0 < r ∧ (!(m == up)) = true then q + 1 else q) := by
  have d := neg_div P k q r hk hq hr
  have d' : (P : Int) / (k : Int) = (q : Int) := by rw [← hq]; simp
  rcases Nat.eq_zero_or_pos r with h | h
  · cases m <;> cases up <;> simp [quoI, sg, d, d', h]
  · have h' : ¬ r = 0 := by omega
    cases m <;> cases up <;> simp [quoI, sg, d, d', h, h']

structure OverKept (w : World) (m : Bool) (v : Value) (w' : World) : Prop where
  c0 : w'.cell? ⟨w.heap.size, 0, none⟩ = some (.bool m)
  c1 : w'.cell? ⟨w.heap.size, 1, none⟩ = some v
theorem over_kept (w : World) (m : Bool) (v : Value) (w' : World) (h : Below (w.alloc (.cells #[.bool m, v] 54)).heap.size (w.alloc (.cells #[.bool m, v] 54)) w') : OverKept w m v w' :=
  ⟨by rw [old_cell h (by simp)]; simp [go_sem], by rw [old_cell h (by simp)]; simp [go_sem]⟩

theorem told_slice (w : World) (m : Bool) (p : Option Addr) (k c : Nat) (ds : List Nat) (n : Nat) (o : Own w (.slice p k c) ds) (hd : Dig ds) (hv : val ds = n) (hl : ds.length ≤ 1000) :
    Calls Try.prog 44 #[.agg #[.bool m, .slice p k c]] w (TwoPost w (outN (sg m n)) (outE (sg m n))) :=
  told_any w _ m n ds.length ⟨_, ds, rfl, o, hd, hv, Nat.le_refl _⟩ hl

theorem rmuldiv_arg (a b c : Int) (up : Bool) (h0 : c ≤ 0) (w : World) :
    Calls Try.prog 39 #[.int .i64 a, .int .i64 b, .int .i64 c, .bool up] w fun e w' => e = .returned (.tuple #[.int .i64 0, .int .i64 1]) ∧ w = w' := by
  go_enter Try.func39, Try.ntmps39
  go_wp2
  go_ret2
  exact ⟨rfl, rfl⟩

set_option maxHeartbeats 4000000 in
theorem rmuldiv_any (a b c : Int) (up : Bool) (ha : I64 a) (hb : I64 b) (hc : I64 c) (h0 : 0 < c) (w : World) :
    Calls Try.prog 39 #[.int .i64 a, .int .i64 b, .int .i64 c, .bool up] w (TwoPost w (outN (quoI (a * b) c up)) (outE (quoI (a * b) c up))) := by
  have hfd := fun m p k c w => field_big m p k c w
  obtain ⟨k, hk⟩ : ∃ k : Nat, c.natAbs = k := ⟨_, rfl⟩
  have k0 : 0 < k := by omega
  have ck : c = (k : Int) := by omega
  rw [← prod_of a b]
  generalize hma : decide (a < 0) = ma
  generalize hmb : decide (b < 0) = mb
  have OA := Lib.hid (fun w => of_any w a ha)
  have OB := Lib.hid (fun w => of_any w b hb)
  have OC := Lib.hid (fun w => of_any w c hc)
  rw [hma] at OA
  rw [hmb] at OB
  rw [hk] at OC
  generalize a.natAbs = na at *
  generalize b.natAbs = nb at *
  obtain ⟨sm, hsm⟩ : ∃ s, s = ((!(ma == mb)) && decide (na * nb ≠ 0)) := ⟨_, rfl⟩
  obtain ⟨sn, hsn⟩ : ∃ s, s = na * nb := ⟨_, rfl⟩
  rw [← hsm, ← hsn]
  obtain ⟨q, hq⟩ : ∃ q, sn / k = q := ⟨_, rfl⟩
  obtain ⟨r, hr⟩ : ∃ r, sn % k = r := ⟨_, rfl⟩
  have qs := quo_sg sm up sn k q r k0 hq hr
  rw [← ck] at qs
  rw [qs]
  have t0 : ¬ c ≤ 0 := by omega
  have HM := Lib.hid hsm
  have HN := Lib.hid hsn
  have HQ := Lib.hid hq
  have HR := Lib.hid hr
  have K0 := Lib.hid k0
  obtain ⟨qq, hqq⟩ : ∃ t, t = (if 0 < r ∧ (!(sm == up)) = true then q + 1 else q) := ⟨_, rfl⟩
  rw [← hqq]
  have alt : (0 < r ∧ (!(sm == up)) = true ∧ qq = q + 1) ∨ (0 < r ∧ (!(sm == up)) = false ∧ qq = q) ∨ (r = 0 ∧ qq = q) := by
    rcases Nat.eq_zero_or_pos r with h | h
    · right; right; exact ⟨h, by rw [hqq, if_neg (by omega)]⟩
    · rcases Bool.eq_false_or_eq_true (!(sm == up)) with g | g
      · left; exact ⟨h, g, by rw [hqq, if_pos ⟨h, g⟩]⟩
      · right; left; exact ⟨h, g, by rw [hqq, if_neg (by rintro ⟨_, g'⟩; rw [g] at g'; cases g')]⟩
  clear hma hmb hsm hsn hq hr qs ck hk k0 hqq h0
  rcases alt with ⟨r0, hu, rfl⟩ | ⟨r0, hu, rfl⟩ | ⟨rfl, rfl⟩
  · have R0 := Lib.hid r0
    clear r0
    go_enter Try.func39, Try.ntmps39
    go_wp2_with fail
    refine (OA.out _).mono ?_; rintro e w1 ⟨x, rfl, hx, b1⟩
    go_wp2_with fail
    refine (OB.out _).mono ?_; rintro e w2 ⟨y, rfl, hy, b2⟩
    go_wp2_with fail
    refine (Times_any w2 x y ma mb na nb 4 4 (hx.below b2) hy (by omega) (by omega)).mono ?_; rintro e w3 ⟨z, rfl, ⟨vz, zs, rfl, z1, z2, z3, z4, z5⟩, b3⟩
    rw [← HM.out]
    rw [← HN.out] at z4
    obtain ⟨kz, hkz⟩ : ∃ t, t = zs.length := ⟨_, rfl⟩
    obtain ⟨pz, cz, rfl⟩ := own_len z1 hkz
    have C3 : Hid (Chain w w3) := (((Chain.nil w).step b1).step b2).step b3
    have Z1 := Lib.hid z1
    have Z2 := Lib.hid z2
    have Z4 := Lib.hid z4
    have Z5 := Lib.hid z5
    have KW := Lib.hid (over_kept w3 sm (.slice pz kz cz))
    clear hx hy b1 b2 b3 z1 z2 z3 z4 z5 hkz
    go_wp2
    obtain ⟨W0, hW0⟩ : ∃ W0, w3.alloc (.cells #[.bool sm, .slice pz kz cz] 54) = W0 := ⟨_, rfl⟩
    have B0 : Hid (Below w3.heap.size w3 W0) := by unfold Hid; rw [← hW0]; exact (Below.refl _ _).alloc (Nat.le_refl _) _
    rw [hW0] at KW ⊢
    clear hW0
    have HB0 : Below W0.heap.size W0 W0.drew := (Below.refl _ _).drew
    go_region_held3 (fun w' => w'.cell? ⟨w3.heap.size, 1, none⟩ = some (.slice pz kz cz))
      (first | exact (KW.out _ HB0).c1 | exact (KW.out _ HB2).c1 | exact (KW.out _ HB1).c1)
      (first
        | (go_at_call 33; refine (OC.out _).mono ?_; rintro e w4 ⟨y, rfl, ⟨vy, ys, rfl, y1, y2, y3, y4, y5⟩, b4⟩; obtain ⟨ky, hky⟩ : ∃ t, t = ys.length := ⟨_, rfl⟩; obtain ⟨py, cy, rfl⟩ := own_len y1 hky; have HB1 : Below W0.heap.size W0 w4 := HB0.trans (b4.mono (Nat.le_refl _)); have Y1 := Lib.hid y1; have Y2 := Lib.hid y2; have Y3 := Lib.hid y3; have Y4 := Lib.hid y4; have Y5 := Lib.hid y5; clear y1 y2 y3 y4 y5 b4 hky)
        | (go_at_call 54; refine (Over_any _ _ _ zs ys (own_below (own_below Z1.out B0.out) HB1) Y1.out Z2.out Y2.out Y3.out k Y4.out K0.out (by have := Z5.out; omega) (by have := Y5.out; omega)).mono ?_; rintro e w5 ⟨vq, vr, qs, rs, rfl, g1, g2, g3, g4, g5, g6, g7, g8, g9⟩; obtain ⟨kq, hkq⟩ : ∃ t, t = qs.length := ⟨_, rfl⟩; obtain ⟨pq, cq, rfl⟩ := own_len g1 hkq; obtain ⟨kr, hkr⟩ : ∃ t, t = rs.length := ⟨_, rfl⟩; obtain ⟨pr, cr, rfl⟩ := own_len g5 hkr; have HB2 : Below W0.heap.size W0 w5 := HB1.trans (g9.mono HB1.size); have G1 := Lib.hid g1; have G2 := Lib.hid g2; have G3 := Lib.hid g3; have G4 := Lib.hid g4; have G7 := Lib.hid g7; have G8 := Lib.hid g8; have KR := Lib.hid hkr; clear g1 g2 g3 g4 g5 g6 g7 g8 g9 hkq hkr))
    have kc0 : w5.cell? ⟨w3.heap.size, 0, none⟩ = some (.bool sm) := (KW.out _ HB2).c0
    have kc1 : w5.cell? ⟨w3.heap.size, 1, none⟩ = some (.slice pz kz cz) := (KW.out _ HB2).c1
    have G3' : Hid (val qs = q) := by unfold Hid; rw [G3.out, Z4.out]; exact HQ.out
    have G8' : Hid (val rs = r) := by unfold Hid; rw [G8.out, Z4.out]; exact HR.out
    have C5 : Hid (Chain w w5) := (C3.out.step B0.out).step HB2
    have LQ : Hid (qs.length ≤ 100) := by unfold Hid; have := G4.out; have := Z5.out; omega
    have kr0 : 0 < (kr : Int) := by
      have h1 := G8'.out
      have h2 := KR.out
      rcases Nat.eq_zero_or_pos kr with h | h
      · rw [h] at h2
        have : rs = [] := List.length_eq_zero_iff.1 h2.symm
        rw [this] at h1
        simp [val] at h1
        have := R0.out; omega
      · omega
    go_wp2_with fail
    refine (plus_any (w5.alloc (.cells #[.int .u32 1] 69)) (.slice pq kq cq) (.slice (some ⟨w5.heap.size, 0, none⟩) 1 1) qs [1] (own_below G1.out ((Below.refl _ _).alloc (Nat.le_refl _) _)) (own_one w5 1).weak G2.out dig_one (by have := LQ.out; omega) (by simp)).mono ?_
    rintro e w6 ⟨v6, n6, rfl, o6, d6, h6, l6, b6⟩
    obtain ⟨k6, hk6⟩ : ∃ t, t = n6.length := ⟨_, rfl⟩
    obtain ⟨p6, c6, rfl⟩ := own_len o6 hk6
    have b6' : Below w5.heap.size w5 w6 := ((Below.refl _ _).alloc (Nat.le_refl _) (.cells #[.int .u32 1] 69)).trans (b6.mono (by simp))
    have HB3 : Below W0.heap.size W0 w6 := HB2.trans (b6'.mono HB2.size)
    have kd0 : w6.cell? ⟨w3.heap.size, 0, none⟩ = some (.bool sm) := (KW.out _ HB3).c0
    have h6' : Hid (val n6 = q + 1) := by unfold Hid; rw [h6, G3'.out]; simp [val]
    have l6' : Hid (n6.length ≤ 1000) := by unfold Hid; have := LQ.out; simp at l6; omega
    have O6 := Lib.hid o6
    have D6 := Lib.hid d6
    have C6 : Hid (Chain w w6) := C5.out.step b6'
    clear o6 d6 h6 l6 b6 b6' hk6
    go_wp2_with fail
    refine (told_slice w6 sm p6 k6 c6 n6 (q + 1) O6.out D6.out h6'.out l6'.out).mono ?_
    rintro e w7 ⟨rfl, b7⟩
    have FIN : Hid (TwoPost w (outN (sg sm (q + 1))) (outE (sg sm (q + 1))) (.returned (.tuple #[.int .i64 (outN (sg sm (q + 1))), .int .i64 (outE (sg sm (q + 1)))])) w7) := ⟨rfl, C6.out.step b7⟩
    clear b7
    go_wp2
    go_ret2
    exact FIN.out
  · have R0 := Lib.hid r0
    clear r0
    go_enter Try.func39, Try.ntmps39
    go_wp2_with fail
    refine (OA.out _).mono ?_; rintro e w1 ⟨x, rfl, hx, b1⟩
    go_wp2_with fail
    refine (OB.out _).mono ?_; rintro e w2 ⟨y, rfl, hy, b2⟩
    go_wp2_with fail
    refine (Times_any w2 x y ma mb na nb 4 4 (hx.below b2) hy (by omega) (by omega)).mono ?_; rintro e w3 ⟨z, rfl, ⟨vz, zs, rfl, z1, z2, z3, z4, z5⟩, b3⟩
    rw [← HM.out]
    rw [← HN.out] at z4
    obtain ⟨kz, hkz⟩ : ∃ t, t = zs.length := ⟨_, rfl⟩
    obtain ⟨pz, cz, rfl⟩ := own_len z1 hkz
    have C3 : Hid (Chain w w3) := (((Chain.nil w).step b1).step b2).step b3
    have Z1 := Lib.hid z1
    have Z2 := Lib.hid z2
    have Z4 := Lib.hid z4
    have Z5 := Lib.hid z5
    have KW := Lib.hid (over_kept w3 sm (.slice pz kz cz))
    clear hx hy b1 b2 b3 z1 z2 z3 z4 z5 hkz
    go_wp2
    obtain ⟨W0, hW0⟩ : ∃ W0, w3.alloc (.cells #[.bool sm, .slice pz kz cz] 54) = W0 := ⟨_, rfl⟩
    have B0 : Hid (Below w3.heap.size w3 W0) := by unfold Hid; rw [← hW0]; exact (Below.refl _ _).alloc (Nat.le_refl _) _
    rw [hW0] at KW ⊢
    clear hW0
    have HB0 : Below W0.heap.size W0 W0.drew := (Below.refl _ _).drew
    go_region_held3 (fun w' => w'.cell? ⟨w3.heap.size, 1, none⟩ = some (.slice pz kz cz))
      (first | exact (KW.out _ HB0).c1 | exact (KW.out _ HB2).c1 | exact (KW.out _ HB1).c1)
      (first
        | (go_at_call 33; refine (OC.out _).mono ?_; rintro e w4 ⟨y, rfl, ⟨vy, ys, rfl, y1, y2, y3, y4, y5⟩, b4⟩; obtain ⟨ky, hky⟩ : ∃ t, t = ys.length := ⟨_, rfl⟩; obtain ⟨py, cy, rfl⟩ := own_len y1 hky; have HB1 : Below W0.heap.size W0 w4 := HB0.trans (b4.mono (Nat.le_refl _)); have Y1 := Lib.hid y1; have Y2 := Lib.hid y2; have Y3 := Lib.hid y3; have Y4 := Lib.hid y4; have Y5 := Lib.hid y5; clear y1 y2 y3 y4 y5 b4 hky)
        | (go_at_call 54; refine (Over_any _ _ _ zs ys (own_below (own_below Z1.out B0.out) HB1) Y1.out Z2.out Y2.out Y3.out k Y4.out K0.out (by have := Z5.out; omega) (by have := Y5.out; omega)).mono ?_; rintro e w5 ⟨vq, vr, qs, rs, rfl, g1, g2, g3, g4, g5, g6, g7, g8, g9⟩; obtain ⟨kq, hkq⟩ : ∃ t, t = qs.length := ⟨_, rfl⟩; obtain ⟨pq, cq, rfl⟩ := own_len g1 hkq; obtain ⟨kr, hkr⟩ : ∃ t, t = rs.length := ⟨_, rfl⟩; obtain ⟨pr, cr, rfl⟩ := own_len g5 hkr; have HB2 : Below W0.heap.size W0 w5 := HB1.trans (g9.mono HB1.size); have G1 := Lib.hid g1; have G2 := Lib.hid g2; have G3 := Lib.hid g3; have G4 := Lib.hid g4; have G7 := Lib.hid g7; have G8 := Lib.hid g8; have KR := Lib.hid hkr; clear g1 g2 g3 g4 g5 g6 g7 g8 g9 hkq hkr))
    have kc0 : w5.cell? ⟨w3.heap.size, 0, none⟩ = some (.bool sm) := (KW.out _ HB2).c0
    have kc1 : w5.cell? ⟨w3.heap.size, 1, none⟩ = some (.slice pz kz cz) := (KW.out _ HB2).c1
    have G3' : Hid (val qs = qq) := by unfold Hid; rw [G3.out, Z4.out]; exact HQ.out
    have G8' : Hid (val rs = r) := by unfold Hid; rw [G8.out, Z4.out]; exact HR.out
    have C5 : Hid (Chain w w5) := (C3.out.step B0.out).step HB2
    have LQ : Hid (qs.length ≤ 100) := by unfold Hid; have := G4.out; have := Z5.out; omega
    have kr0 : 0 < (kr : Int) := by
      have h1 := G8'.out
      have h2 := KR.out
      rcases Nat.eq_zero_or_pos kr with h | h
      · rw [h] at h2
        have : rs = [] := List.length_eq_zero_iff.1 h2.symm
        rw [this] at h1
        simp [val] at h1
        have := R0.out; omega
      · omega
    go_wp2_with fail
    refine (told_slice w5 sm pq kq cq qs qq G1.out G2.out G3'.out (by have := LQ.out; omega)).mono ?_
    rintro e w6 ⟨rfl, b6⟩
    have FIN : Hid (TwoPost w (outN (sg sm qq)) (outE (sg sm qq)) (.returned (.tuple #[.int .i64 (outN (sg sm qq)), .int .i64 (outE (sg sm qq))])) w6) := ⟨rfl, C5.out.step b6⟩
    clear b6
    go_wp2
    go_ret2
    exact FIN.out
  · go_enter Try.func39, Try.ntmps39
    go_wp2_with fail
    refine (OA.out _).mono ?_; rintro e w1 ⟨x, rfl, hx, b1⟩
    go_wp2_with fail
    refine (OB.out _).mono ?_; rintro e w2 ⟨y, rfl, hy, b2⟩
    go_wp2_with fail
    refine (Times_any w2 x y ma mb na nb 4 4 (hx.below b2) hy (by omega) (by omega)).mono ?_; rintro e w3 ⟨z, rfl, ⟨vz, zs, rfl, z1, z2, z3, z4, z5⟩, b3⟩
    rw [← HM.out]
    rw [← HN.out] at z4
    obtain ⟨kz, hkz⟩ : ∃ t, t = zs.length := ⟨_, rfl⟩
    obtain ⟨pz, cz, rfl⟩ := own_len z1 hkz
    have C3 : Hid (Chain w w3) := (((Chain.nil w).step b1).step b2).step b3
    have Z1 := Lib.hid z1
    have Z2 := Lib.hid z2
    have Z4 := Lib.hid z4
    have Z5 := Lib.hid z5
    have KW := Lib.hid (over_kept w3 sm (.slice pz kz cz))
    clear hx hy b1 b2 b3 z1 z2 z3 z4 z5 hkz
    go_wp2
    obtain ⟨W0, hW0⟩ : ∃ W0, w3.alloc (.cells #[.bool sm, .slice pz kz cz] 54) = W0 := ⟨_, rfl⟩
    have B0 : Hid (Below w3.heap.size w3 W0) := by unfold Hid; rw [← hW0]; exact (Below.refl _ _).alloc (Nat.le_refl _) _
    rw [hW0] at KW ⊢
    clear hW0
    have HB0 : Below W0.heap.size W0 W0.drew := (Below.refl _ _).drew
    go_region_held3 (fun w' => w'.cell? ⟨w3.heap.size, 1, none⟩ = some (.slice pz kz cz))
      (first | exact (KW.out _ HB0).c1 | exact (KW.out _ HB2).c1 | exact (KW.out _ HB1).c1)
      (first
        | (go_at_call 33; refine (OC.out _).mono ?_; rintro e w4 ⟨y, rfl, ⟨vy, ys, rfl, y1, y2, y3, y4, y5⟩, b4⟩; obtain ⟨ky, hky⟩ : ∃ t, t = ys.length := ⟨_, rfl⟩; obtain ⟨py, cy, rfl⟩ := own_len y1 hky; have HB1 : Below W0.heap.size W0 w4 := HB0.trans (b4.mono (Nat.le_refl _)); have Y1 := Lib.hid y1; have Y2 := Lib.hid y2; have Y3 := Lib.hid y3; have Y4 := Lib.hid y4; have Y5 := Lib.hid y5; clear y1 y2 y3 y4 y5 b4 hky)
        | (go_at_call 54; refine (Over_any _ _ _ zs ys (own_below (own_below Z1.out B0.out) HB1) Y1.out Z2.out Y2.out Y3.out k Y4.out K0.out (by have := Z5.out; omega) (by have := Y5.out; omega)).mono ?_; rintro e w5 ⟨vq, vr, qs, rs, rfl, g1, g2, g3, g4, g5, g6, g7, g8, g9⟩; obtain ⟨kq, hkq⟩ : ∃ t, t = qs.length := ⟨_, rfl⟩; obtain ⟨pq, cq, rfl⟩ := own_len g1 hkq; obtain ⟨kr, hkr⟩ : ∃ t, t = rs.length := ⟨_, rfl⟩; obtain ⟨pr, cr, rfl⟩ := own_len g5 hkr; have HB2 : Below W0.heap.size W0 w5 := HB1.trans (g9.mono HB1.size); have G1 := Lib.hid g1; have G2 := Lib.hid g2; have G3 := Lib.hid g3; have G4 := Lib.hid g4; have G7 := Lib.hid g7; have G8 := Lib.hid g8; have KR := Lib.hid hkr; clear g1 g2 g3 g4 g5 g6 g7 g8 g9 hkq hkr))
    have kc0 : w5.cell? ⟨w3.heap.size, 0, none⟩ = some (.bool sm) := (KW.out _ HB2).c0
    have kc1 : w5.cell? ⟨w3.heap.size, 1, none⟩ = some (.slice pz kz cz) := (KW.out _ HB2).c1
    have G3' : Hid (val qs = qq) := by unfold Hid; rw [G3.out, Z4.out]; exact HQ.out
    have G8' : Hid (val rs = 0) := by unfold Hid; rw [G8.out, Z4.out]; exact HR.out
    have C5 : Hid (Chain w w5) := (C3.out.step B0.out).step HB2
    have LQ : Hid (qs.length ≤ 100) := by unfold Hid; have := G4.out; have := Z5.out; omega
    have kr0 : kr = 0 := by
      have := (canon_zero G7.out).1 (by rw [G8'.out])
      rw [KR.out, this]; rfl
    have kr1 : ¬ (0 < (kr : Int)) := by omega
    clear kr0
    go_wp2_with fail
    refine (told_slice w5 sm pq kq cq qs qq G1.out G2.out G3'.out (by have := LQ.out; omega)).mono ?_
    rintro e w6 ⟨rfl, b6⟩
    have FIN : Hid (TwoPost w (outN (sg sm qq)) (outE (sg sm qq)) (.returned (.tuple #[.int .i64 (outN (sg sm qq)), .int .i64 (outE (sg sm qq))])) w6) := ⟨rfl, C5.out.step b6⟩
    clear b6
    go_wp2
    go_ret2
    exact FIN.out
end Go.Proofs.Ytokhlagcflkocaa

