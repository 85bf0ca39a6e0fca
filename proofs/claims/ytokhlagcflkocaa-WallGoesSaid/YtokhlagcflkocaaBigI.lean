/- Contracts of the document's own answers for layer 1: quotients, bit by bit. -/
import Derived.Test.YtokhlagcflkocaaBigH
import Derived.Laws.AppendOwnNone
namespace Go.Proofs.Ytokhlagcflkocaa
open Go.ChangeShapes Go.WideShapes Go.ChangeAt Go.RowKit BigM

theorem over_bit {A p xs Q D v R : Nat} (bit : Nat) (h : A * p + xs = (Q * p + D) * v + R) : A * (2 * p) + (2 * xs + bit) = (Q * (2 * p) + 2 * D) * v + (2 * R + bit) := by
  have e1 : A * (2 * p) = 2 * (A * p) := Nat.mul_left_comm _ _ _
  have e2 : (Q * (2 * p) + 2 * D) * v = 2 * ((Q * p + D) * v) := by
    rw [Nat.mul_left_comm Q 2 p, ← Nat.mul_add, Nat.mul_assoc]
  omega

theorem over_sub {Q D v R : Nat} (h : v ≤ R) : (Q + (D + 1)) * v + (R - v) = (Q + D) * v + R := by
  rw [← Nat.add_assoc, Nat.add_mul (Q + D) 1 v]
  omega

/-- The state of the bits of one digit: j of them are still to come. -/
structure BitRel (wo wr : World) (A x Q v j : Nat) (vr : Value) (rs : List Nat) (D : Nat) : Prop where
  own : Own wr vr rs
  low : Below wo.heap.size wo wr
  dig : Dig rs
  can : Canon rs
  lt : val rs < v
  inv : A * 2 ^ (16 - j) + x / 2 ^ j = (Q * 2 ^ (16 - j) + D) * v + val rs
  dl : D < 2 ^ (16 - j)
  top : j ≤ 16

theorem bit_split (x j : Nat) : x / 2 ^ j = 2 * (x / 2 ^ (j + 1)) + x / 2 ^ j % 2 := by
  rw [Nat.pow_succ, ← Nat.div_div_eq_div_mul]
  omega

theorem bit_no {wo wr w' : World} {A x Q v j D bit : Nat} {vr vn : Value} {rs ns : List Nat} (h : BitRel wo wr A x Q v (j + 1) vr rs D) (hbit : x / 2 ^ j % 2 = bit) (o : Own w' vn ns) (b : Below wr.heap.size wr w') (d : Dig ns) (c : Canon ns)
    (hv : val ns = 2 * val rs + bit) (hl : val ns < v) : BitRel wo w' A x Q v j vn ns (2 * D) := by
  have t := h.top
  have e : (2 : Nat) ^ (16 - j) = 2 * 2 ^ (16 - (j + 1)) := by rw [← Nat.pow_succ', show (16 - (j + 1)).succ = 16 - j by omega]
  refine ⟨o, h.low.trans (b.mono h.low.size), d, c, hl, ?_, by have := h.dl; omega, by omega⟩
  rw [e, bit_split x j, hbit, hv]
  exact over_bit bit h.inv

theorem bit_yes {wo wr w' : World} {A x Q v j D bit R : Nat} {vr vn : Value} {rs ns : List Nat} (h : BitRel wo wr A x Q v (j + 1) vr rs D) (hbit : x / 2 ^ j % 2 = bit) (o : Own w' vn ns) (b : Below wr.heap.size wr w') (d : Dig ns) (c : Canon ns)
    (hR : R = 2 * val rs + bit) (hv : val ns = R - v) (hl : v ≤ R) : BitRel wo w' A x Q v j vn ns (2 * D + 1) := by
  have t := h.top
  have l := h.lt
  have b1 : bit ≤ 1 := by omega
  have e : (2 : Nat) ^ (16 - j) = 2 * 2 ^ (16 - (j + 1)) := by rw [← Nat.pow_succ', show (16 - (j + 1)).succ = 16 - j by omega]
  refine ⟨o, h.low.trans (b.mono h.low.size), d, c, by omega, ?_, by have := h.dl; omega, by omega⟩
  rw [e, bit_split x j, hbit, hv, over_sub hl, hR]
  exact over_bit bit h.inv

theorem own_one (w : World) (d : Nat) : OwnAt w.heap.size (w.alloc (.cells #[.int .u32 (d : Int)] 69)) (.slice (some ⟨w.heap.size, 0, none⟩) 1 1) [d] :=
  ⟨by simp, .inr ⟨w.heap.size, 1, _, rfl, Nat.le_refl _, heap_alloc_new w _, Nat.le_refl _, by unfold maxLen; omega, by simp, by simp⟩⟩

theorem dig_one : Dig [1] := by intro d hd; simp at hd; omega

theorem field_big (m : Bool) (p : Option Addr) (k c : Nat) (w : World) : (Instr.field 54 (.agg #[.bool m, .slice p k c]) 1).run Try.prog w = .ok (.slice p k c) w := by
  rfl

structure OverRel (w wr : World) (a : List Nat) (v : Nat) (vq vr : Value) (qs rs : List Nat) (j : Nat) : Prop where
  oq : Own wr vq qs
  dq : Dig qs
  or : Own wr vr rs
  dr : Dig rs
  cr : Canon rs
  lt : val rs < v
  sum : val (a.drop j) = val qs * v + val rs
  low : Below w.heap.size w wr
  lq : qs.length + j = a.length

theorem over_next {w wo wr w' : World} {a : List Nat} {v j x D : Nat} {vq vr0 vr v' : Value} {qs rs0 rs : List Nat} (ho : OverRel w wo a v vq vr0 qs rs0 (j + 1)) (hr : BitRel wo wr (val (a.drop (j + 1))) x (val qs) v 0 vr rs D) (hx : a.getD j 0 = x) (hj : j < a.length)
    (o : Own w' v' (D :: qs)) (b : Below wr.heap.size wr w') : OverRel w w' a v v' vr (D :: qs) rs j := by
  have i := hr.inv
  have dl := hr.dl
  refine ⟨o, ?_, own_below hr.own b, hr.dig, hr.can, hr.lt, ?_, ((ho.low.trans (hr.low.mono ho.low.size)).trans (b.mono (Nat.le_trans ho.low.size hr.low.size))), ?_⟩
  · intro d hd
    rcases List.mem_cons.1 hd with rfl | h
    · omega
    · exact ho.dq d h
  · rw [val_drop_succ a j hj, hx, val]
    simp only [Nat.sub_zero, Nat.pow_zero, Nat.div_one] at i
    rw [show (2 : Nat) ^ 16 = 65536 from rfl] at i
    rw [Nat.mul_comm 65536, Nat.mul_comm 65536, Nat.add_comm x, Nat.add_comm D]
    exact i
  · have := ho.lq
    simp
    omega

structure OverPost (w : World) (q r L : Nat) (e : Ending) (w' : World) : Prop where
  out : ∃ vq vr qs rs, e = .returned (.tuple #[vq, vr]) ∧ Own w' vq qs ∧ Dig qs ∧ val qs = q ∧ qs.length ≤ L ∧ Own w' vr rs ∧ Dig rs ∧ Canon rs ∧ val rs = r ∧ Below w.heap.size w w'

set_option maxHeartbeats 4000000 in
set_option maxRecDepth 100000 in
theorem Over_any (w : World) (va vb : Value) (a b : List Nat) (oa : Own w va a) (ob : Own w vb b) (ha : Dig a) (hb : Dig b) (cb : Canon b) (v : Nat) (hv : val b = v) (v0 : 0 < v) (la : a.length ≤ 100) (lb : b.length ≤ 100) :
    Calls Try.prog 54 #[va, vb] w (OverPost w (val a / v) (val a % v) a.length) := by
  obtain ⟨i0, hi, hz0, hz1, hz2⟩ := info_parts info32
  obtain ⟨na, hna⟩ : ∃ n, n = a.length := ⟨_, rfl⟩
  obtain ⟨pa, ca, rfl⟩ := own_len oa hna
  have OA := Lib.hid oa
  have OB := Lib.hid ob
  have HA := Lib.hid ha
  have HB := Lib.hid hb
  have CB := Lib.hid cb
  have NA := Lib.hid hna
  have LB := Lib.hid lb
  have VB := Lib.hid hv
  have V0 := Lib.hid v0
  have la' : na ≤ 100 := by omega
  clear oa ob ha hb hna hv v0 la lb cb
  have hfd := fun m p k c w => field_big m p k c w
  go_enter Try.func54, Try.ntmps54
  go_wp2
  go_loopw [6, 7, 8] (fun q r i wr => ∃ (z : Int) (j : Nat) (qs rs : List Nat), i = .int .i64 z ∧ Hid (z = (j : Int) - 1) ∧ OverRel w wr a v q r qs rs j) (fun _ _ i _ => (intOf i + 1).toNat)
  case atStart => exact ⟨_, na, [], [], rfl, rfl, ⟨own_nil _ _, by intro d hd; simp at hd, own_nil _ _, by intro d hd; simp at hd, canon_nil, V0.out, by rw [List.drop_eq_nil_of_le (by have := NA.out; omega)]; simp [val], Below.refl _ _, by have := NA.out; simp; omega⟩⟩
  case round =>
    obtain ⟨z, j, qs, rs, rfl, hz, h⟩ := hrel
    have HO := Lib.hid h
    clear h
    rcases j with _ | j
    · obtain rfl : z = -1 := by have := hz.out; omega
      obtain ⟨kq, hkq⟩ : ∃ t, t = qs.length := ⟨_, rfl⟩
      obtain ⟨pq, cq, rfl⟩ := own_len HO.out.oq hkq
      have TR := Lib.hid (trim_any wr false (.slice pq kq cq) qs HO.out.oq HO.out.dq (by have := HO.out.lq; have := NA.out; omega))
      clear hkq
      go_wp2_with fail
      refine TR.out.mono ?_
      rintro e w5 ⟨y5, rfl, ⟨v5, n5, rfl, o5, d5, c5, h5, l5⟩, b5⟩
      obtain ⟨k5, hk5⟩ : ∃ t, t = n5.length := ⟨_, rfl⟩
      obtain ⟨pp5, cc5, rfl⟩ := own_len o5 hk5
      have sm := HO.out.sum
      rw [List.drop_zero] at sm
      have lt := HO.out.lt
      have eq1 : val qs = val a / v := by
        rw [sm, Nat.mul_comm, Nat.mul_add_div V0.out, Nat.div_eq_of_lt lt]; omega
      have eq2 : val rs = val a % v := by
        rw [sm, Nat.mul_comm, Nat.mul_add_mod, Nat.mod_eq_of_lt lt]
      have fin : OverPost w (val a / v) (val a % v) a.length (.returned (.tuple #[.slice pp5 k5 cc5, u7])) w5 :=
        ⟨_, _, n5, rs, rfl, o5, d5, h5.trans eq1, by have := HO.out.lq; omega, own_below HO.out.or b5, HO.out.dr, HO.out.cr, eq2, HO.out.low.trans (b5.mono HO.out.low.size)⟩
      have FIN := Lib.hid fin
      clear fin o5 d5 c5 h5 l5 b5 sm lt eq1 eq2 hk5
      go_wp2
      go_ret2
      exact FIN.out
    · obtain rfl : z = (j : Int) := by have := hz.out; omega
      have jn : j < a.length := by have := HO.out.lq; omega
      have jn' : (j : Int) < (na : Int) := by have := NA.out; omega
      have j1 : (j : Int) ≤ 100 := by omega
      obtain ⟨x, hx⟩ : ∃ x, a.getD j 0 = x := ⟨_, rfl⟩
      have x1 : x < 65536 := by rw [← hx]; exact dig_getD HA.out j
      obtain ⟨g, rfl, -⟩ := own_cell OA.out jn hx
      have HX := Lib.hid hx
      have JN := Lib.hid jn
      have X1 := Lib.hid x1
      clear hx jn x1
      obtain ⟨wo, rfl⟩ : ∃ wo : World, wo = wr := ⟨_, rfl⟩
      go_wp2
      go_loopw [7, 9, 10] (fun r d k wr => ∃ (z : Int) (jj D : Nat) (rs' : List Nat), d = .int .u32 D ∧ k = .int .i64 z ∧ Hid (z = (jj : Int) - 1) ∧ BitRel wo wr (val (a.drop (j + 1))) x (val qs) v jj r rs' D) (fun _ _ k _ => (intOf k + 1).toNat)
      case atStart => exact ⟨15, 16, 0, rs, rfl, rfl, by unfold Hid; omega, ⟨HO.out.or, Below.refl _ _, HO.out.dr, HO.out.cr, HO.out.lt, by have := HO.out.sum; have := X1.out; rw [Nat.div_eq_of_lt (by omega)]; simpa using HO.out.sum, by simp, by omega⟩⟩
      case round =>
        obtain ⟨z, jj, D, rs', rfl, rfl, hz', h⟩ := hrel
        have HR := Lib.hid h
        clear h
        rcases jj with _ | jj
        · obtain rfl : z = -1 := by have := hz'.out; omega
          have oq := own_below HO.out.oq HR.out.low
          have D1 : D < 65536 := HR.out.dl
          rcases own_shape oq with ⟨rfl, hq0⟩ | ⟨gq, cq, rfl, h1, h2, hg, _⟩
          · have HN1 : Hid (OverRel w (wr.alloc (.cells #[.int .u32 (D : Int)] 69)) a v (.slice (some ⟨wr.heap.size, 0, none⟩) 1 1) u7 (D :: qs) rs' j) :=
              over_next HO.out HR.out HX.out JN.out (by rw [hq0]; exact (own_one wr D).weak) ((Below.refl _ _).alloc (Nat.le_refl _) _)
            have OW := Lib.hid (own_one wr D)
            clear oq hq0
            go_wp2_with (at_builtin; refine wpList_append_own_none rfl _ _ 52 rfl wr.heap.size 69 i0 1 Try.underlying52 hi _ _ _ rfl OW.out rfl ?_)
            go_wp2
            go_roundw
            case rel => exact ⟨_, j, D :: qs, rs', rfl, rfl, HN1.out⟩
            case measure => simp [intOf]
          · have OW := Lib.hid (own_one wr D)
            have OC : Hid (∀ (k : Nat) (u : Value), (qs.map fun d : Nat => Value.int .u32 (d : Int))[k]? = some u → (wr.alloc (.cells #[.int .u32 (D : Int)] 69)).cell? ((⟨gq, 0, none⟩ : Addr).add k) = some u) :=
              fun k u hu => World.ownsRow.cells (own_below oq ((Below.refl _ _).alloc (Nat.le_refl _) (.cells #[.int .u32 (D : Int)] 69))) rfl k u hu
            have O1 : Hid (∀ u ∈ (qs.map fun d : Nat => Value.int .u32 (d : Int)), u.oneCell' = true) := by
              intro u hu
              rw [List.mem_map] at hu
              obtain ⟨d, _, rfl⟩ := hu
              rfl
            have ql : qs.length ≤ 100 := by have := HO.out.lq; have := NA.out; omega
            have M1 : Hid (1 + qs.length ≤ maxLen) := by unfold Hid maxLen; omega
            have M2 : Hid ((1 + qs.length) * 4 ≤ 140737488355328) := by unfold Hid; omega
            have M3 : Hid (wr.heap.size ≤ (wr.alloc (.cells #[.int .u32 (D : Int)] 69)).heap.size) := by unfold Hid; simp
            have M4 : Hid ((qs.map fun d : Nat => Value.int .u32 (d : Int)).length = qs.length * 1) := by unfold Hid; simp
            clear oq h1 h2 hg ql
            go_wp2_with (at_builtin; refine wpList_append_own _ rfl _ _ 52 rfl wr.heap.size 69 i0 (.int .u32 0) 1 4 Try.underlying52 hi hz0 hz1 hz2 rfl (by decide) _ _ _ rfl OW.out ⟨gq, 0, none⟩ qs.length cq (qs.map fun d : Nat => Value.int .u32 (d : Int)) rfl M4.out OC.out O1.out M1.out M2.out M3.out ?_)
            intro v' w1 hown1 hgrow1 _
            have HN1 : Hid (OverRel w w1 a v v' u7 (D :: qs) rs' j) := by
              refine over_next HO.out HR.out HX.out JN.out ?_ ?_
              · refine OwnAt.weak (B := wr.heap.size) ?_
                unfold OwnAt
                rw [List.length_cons, List.map_cons, Nat.add_comm]
                exact hown1
              · exact ((Below.refl _ _).alloc (Nat.le_refl _) _).grown hgrow1 (by simp) (fun k hk => (World.ownsRow.lt OW.out k hk).1)
            clear hown1 hgrow1
            go_wp2
            go_roundw
            case rel => exact ⟨_, j, D :: qs, rs', rfl, rfl, HN1.out⟩
            case measure => simp [intOf]
        · obtain rfl : z = (jj : Int) := by have := hz'.out; omega
          have jt : jj ≤ 15 := by have := HR.out.top; omega
          have rl : rs'.length ≤ 100 := by
            have h1 := HR.out.lt
            have h2 := val_lt HB.out
            rw [VB.out] at h2
            have := canon_short HR.out.can b.length (by omega)
            have := LB.out
            omega
          have RL := Lib.hid rl
          have P1 := Lib.hid (plus_any wr u7 u7 rs' rs' HR.out.own HR.out.own HR.out.dig HR.out.dig (by omega) (by omega))
          have dl := HR.out.dl
          have pw := Nat.pow_le_pow_right (n := 2) (by omega) (show 16 - (jj + 1) ≤ 15 by omega)
          obtain ⟨D2x, hD2⟩ : ∃ t, t = 2 * D := ⟨_, rfl⟩
          obtain ⟨D3x, hD3⟩ : ∃ t, t = 2 * D + 1 := ⟨_, rfl⟩
          have q1 : IntKind.u32.wrap ((D : Int) * 2) = (D2x : Int) := by rw [IntKind.wrap_u32]; omega
          have q2 : IntKind.u32.wrap ((D2x : Int) + 1) = (D3x : Int) := by rw [IntKind.wrap_u32]; omega
          obtain ⟨sx, hsx⟩ : ∃ t, t = x / 2 ^ jj := ⟨_, rfl⟩
          have q3 : (x : Int) / 2 ^ jj = (sx : Int) := by rw [hsx]; simp
          have DD := Lib.hid hD2
          have DD3 := Lib.hid hD3
          have j2 : (jj : Int) ≤ 15 := by omega
          by_cases hbit : x / 2 ^ jj % 2 = 1
          · have BIT := Lib.hid hbit
            have q4 : (sx : Int) % 2 = 1 := by rw [← hsx] at hbit; omega
            clear hbit dl pw hD2 hD3 hsx rl
            by_cases cmp : 2 * val rs' + 1 < v
            · have CMP := Lib.hid cmp
              clear cmp
              go_wp2_with fail
              refine (P1.out).mono ?_
              rintro e w1 ⟨v1, n1, rfl, o1, d1, h1, l1, b1⟩
              obtain ⟨k1, hk1⟩ : ∃ t, t = n1.length := ⟨_, rfl⟩
              obtain ⟨pp1, cc1, rfl⟩ := own_len o1 hk1
              clear hk1
              have C1 := (Chain.nil wr).step b1
              obtain ⟨g', hg', hc⟩ := own_cell (own_below (own_below (own_below OA.out HO.out.low) HR.out.low) C1) JN.out HX.out
              have eg : g' = g := by injection hg' with e; injection e with e _ _; exact e.symm
              rw [eg] at hc
              have O1 := Lib.hid o1
              have D1 := Lib.hid d1
              have H1 := Lib.hid h1
              have L1 := Lib.hid l1
              have CC1 := Lib.hid C1
              clear o1 d1 h1 l1 C1 b1 hg' eg
              go_wp2_with fail
              refine (plus_any (w1.alloc (.cells #[.int .u32 1] 69)) (.slice pp1 k1 cc1) (.slice (some ⟨w1.heap.size, 0, none⟩) 1 1) n1 [1] (own_below O1.out ((Below.refl _ _).alloc (Nat.le_refl _) _)) (own_one w1 1).weak D1.out dig_one (by have := L1.out; have := RL.out; omega) (by simp)).mono ?_
              rintro e w2 ⟨v2, n2, rfl, o2, d2, h2, l2, b2⟩
              obtain ⟨k2, hk2⟩ : ∃ t, t = n2.length := ⟨_, rfl⟩
              obtain ⟨pp2, cc2, rfl⟩ := own_len o2 hk2
              clear hk2
              have C2 : Chain wr w2 := ((CC1.out.step ((Below.refl _ _).alloc (Nat.le_refl _) (.cells #[.int .u32 1] 69))).step b2)
              have h2' : val n2 = 2 * val rs' + 1 := by rw [h2, H1.out]; simp [val]; omega
              have l2' : n2.length ≤ 103 := by have := L1.out; have := RL.out; simp at l2; omega
              have O2 := Lib.hid o2
              have D2 := Lib.hid d2
              have H2 := Lib.hid h2'
              have L2 := Lib.hid l2'
              have CC2 := Lib.hid C2
              clear o2 d2 h2 l2 b2 C2 h2' l2'
              go_wp2_with fail
              refine (trim_any w2 false (.slice pp2 k2 cc2) n2 O2.out D2.out (by have := L2.out; omega)).mono ?_
              rintro e w3 ⟨y3, rfl, ⟨v3, n3, rfl, o3, d3, c3, h3, l3⟩, b3⟩
              obtain ⟨k3, hk3⟩ : ∃ t, t = n3.length := ⟨_, rfl⟩
              obtain ⟨pp3, cc3, rfl⟩ := own_len o3 hk3
              clear hk3
              have C3 := CC2.out.step b3
              have O3 := Lib.hid o3
              have D3 := Lib.hid d3
              have CN3 := Lib.hid c3
              have H3 : Hid (val n3 = 2 * val rs' + 1) := h3.trans H2.out
              have L3 : Hid (n3.length ≤ 103) := by unfold Hid; have := L2.out; omega
              have CC3 := Lib.hid C3
              clear o3 d3 c3 h3 l3 b3 C3
              go_wp2_with fail
              refine (Less_any w3 (.slice pp3 k3 cc3) vb n3 b O3.out (own_below (own_below (own_below OB.out HO.out.low) HR.out.low) CC3.out) D3.out HB.out CN3.out CB.out (by have := L3.out; omega) (by have := LB.out; omega)).mono ?_
              rintro e w' ⟨ans, rfl, hans, nd, rfl⟩
              obtain rfl : ans = true := hans.2 (by rw [H3.out, VB.out]; exact CMP.out)
              have HN1 : Hid (BitRel wo (w3.drewN nd) (val (a.drop (j + 1))) x (val qs) v jj (.slice pp3 k3 cc3) n3 D2x) := by
                unfold Hid
                rw [DD.out]
                exact bit_no HR.out BIT.out (own_drewN O3.out nd) (below_drewN CC3.out nd) D3.out CN3.out H3.out (by rw [H3.out]; exact CMP.out)
              clear hans
              go_wp2
              go_roundw
              case rel => exact ⟨_, jj, D2x, n3, rfl, rfl, rfl, HN1.out⟩
              case measure => simp [intOf]
            · have CMP := Lib.hid cmp
              clear cmp
              go_wp2_with fail
              refine (P1.out).mono ?_
              rintro e w1 ⟨v1, n1, rfl, o1, d1, h1, l1, b1⟩
              obtain ⟨k1, hk1⟩ : ∃ t, t = n1.length := ⟨_, rfl⟩
              obtain ⟨pp1, cc1, rfl⟩ := own_len o1 hk1
              clear hk1
              have C1 := (Chain.nil wr).step b1
              obtain ⟨g', hg', hc⟩ := own_cell (own_below (own_below (own_below OA.out HO.out.low) HR.out.low) C1) JN.out HX.out
              have eg : g' = g := by injection hg' with e; injection e with e _ _; exact e.symm
              rw [eg] at hc
              have O1 := Lib.hid o1
              have D1 := Lib.hid d1
              have H1 := Lib.hid h1
              have L1 := Lib.hid l1
              have CC1 := Lib.hid C1
              clear o1 d1 h1 l1 C1 b1 hg' eg
              go_wp2_with fail
              refine (plus_any (w1.alloc (.cells #[.int .u32 1] 69)) (.slice pp1 k1 cc1) (.slice (some ⟨w1.heap.size, 0, none⟩) 1 1) n1 [1] (own_below O1.out ((Below.refl _ _).alloc (Nat.le_refl _) _)) (own_one w1 1).weak D1.out dig_one (by have := L1.out; have := RL.out; omega) (by simp)).mono ?_
              rintro e w2 ⟨v2, n2, rfl, o2, d2, h2, l2, b2⟩
              obtain ⟨k2, hk2⟩ : ∃ t, t = n2.length := ⟨_, rfl⟩
              obtain ⟨pp2, cc2, rfl⟩ := own_len o2 hk2
              clear hk2
              have C2 : Chain wr w2 := ((CC1.out.step ((Below.refl _ _).alloc (Nat.le_refl _) (.cells #[.int .u32 1] 69))).step b2)
              have h2' : val n2 = 2 * val rs' + 1 := by rw [h2, H1.out]; simp [val]; omega
              have l2' : n2.length ≤ 103 := by have := L1.out; have := RL.out; simp at l2; omega
              have O2 := Lib.hid o2
              have D2 := Lib.hid d2
              have H2 := Lib.hid h2'
              have L2 := Lib.hid l2'
              have CC2 := Lib.hid C2
              clear o2 d2 h2 l2 b2 C2 h2' l2'
              go_wp2_with fail
              refine (trim_any w2 false (.slice pp2 k2 cc2) n2 O2.out D2.out (by have := L2.out; omega)).mono ?_
              rintro e w3 ⟨y3, rfl, ⟨v3, n3, rfl, o3, d3, c3, h3, l3⟩, b3⟩
              obtain ⟨k3, hk3⟩ : ∃ t, t = n3.length := ⟨_, rfl⟩
              obtain ⟨pp3, cc3, rfl⟩ := own_len o3 hk3
              clear hk3
              have C3 := CC2.out.step b3
              have O3 := Lib.hid o3
              have D3 := Lib.hid d3
              have CN3 := Lib.hid c3
              have H3 : Hid (val n3 = 2 * val rs' + 1) := h3.trans H2.out
              have L3 : Hid (n3.length ≤ 103) := by unfold Hid; have := L2.out; omega
              have CC3 := Lib.hid C3
              clear o3 d3 c3 h3 l3 b3 C3
              go_wp2_with fail
              refine (Less_any w3 (.slice pp3 k3 cc3) vb n3 b O3.out (own_below (own_below (own_below OB.out HO.out.low) HR.out.low) CC3.out) D3.out HB.out CN3.out CB.out (by have := L3.out; omega) (by have := LB.out; omega)).mono ?_
              rintro e w' ⟨ans, rfl, hans, nd, rfl⟩
              obtain rfl : ans = false := by cases ans; rfl; exact absurd (hans.1 rfl) (by rw [H3.out, VB.out]; exact CMP.out)
              clear hans
              go_wp2_with fail
              refine (less_any (w3.drewN nd) (.slice pp3 k3 cc3) vb n3 b (own_drewN O3.out nd) (own_drewN (own_below (own_below (own_below OB.out HO.out.low) HR.out.low) CC3.out) nd) D3.out HB.out CB.out (by rw [H3.out, VB.out]; have := CMP.out; omega) (by have := L3.out; omega)).mono ?_
              rintro e w4 ⟨v4, n4, rfl, o4, d4, h4, l4, b4⟩
              obtain ⟨k4, hk4⟩ : ∃ t, t = n4.length := ⟨_, rfl⟩
              obtain ⟨pp4, cc4, rfl⟩ := own_len o4 hk4
              clear hk4
              have C4 : Chain wr w4 := Chain.step (show Chain wr (w3.drewN nd) from below_drewN CC3.out nd) b4
              have O4 := Lib.hid o4
              have D4 := Lib.hid d4
              have H4 : Hid (val n4 = (2 * val rs' + 1) - v) := by unfold Hid; rw [h4, H3.out, VB.out]
              have L4 : Hid (n4.length ≤ 103) := by unfold Hid; have := L3.out; omega
              have CC4 := Lib.hid C4
              clear o4 d4 h4 l4 b4 C4
              go_wp2_with fail
              refine (trim_any w4 false (.slice pp4 k4 cc4) n4 O4.out D4.out (by have := L4.out; omega)).mono ?_
              rintro e w5 ⟨y5, rfl, ⟨v5, n5, rfl, o5, d5, c5, h5, l5⟩, b5⟩
              obtain ⟨k5, hk5⟩ : ∃ t, t = n5.length := ⟨_, rfl⟩
              obtain ⟨pp5, cc5, rfl⟩ := own_len o5 hk5
              clear hk5
              have HN1 : Hid (BitRel wo w5 (val (a.drop (j + 1))) x (val qs) v jj (.slice pp5 k5 cc5) n5 D3x) := by
                unfold Hid
                rw [DD3.out]
                exact bit_yes HR.out BIT.out o5 (CC4.out.step b5) d5 c5 rfl (h5.trans H4.out) (by have := CMP.out; omega)
              clear o5 d5 c5 h5 l5 b5
              go_wp2
              go_roundw
              case rel => exact ⟨_, jj, D3x, n5, rfl, rfl, rfl, HN1.out⟩
              case measure => simp [intOf]
          · have hb0 : x / 2 ^ jj % 2 = 0 := by omega
            have BIT := Lib.hid hb0
            have q4 : (sx : Int) % 2 = 0 := by rw [← hsx] at hb0; omega
            clear hbit hb0 dl pw hD2 hD3 hsx rl
            by_cases cmp : 2 * val rs' + 0 < v
            · have CMP := Lib.hid cmp
              clear cmp
              go_wp2_with fail
              refine (P1.out).mono ?_
              rintro e w1 ⟨v1, n1, rfl, o1, d1, h1, l1, b1⟩
              obtain ⟨k1, hk1⟩ : ∃ t, t = n1.length := ⟨_, rfl⟩
              obtain ⟨pp1, cc1, rfl⟩ := own_len o1 hk1
              clear hk1
              have C1 := (Chain.nil wr).step b1
              obtain ⟨g', hg', hc⟩ := own_cell (own_below (own_below (own_below OA.out HO.out.low) HR.out.low) C1) JN.out HX.out
              have eg : g' = g := by injection hg' with e; injection e with e _ _; exact e.symm
              rw [eg] at hc
              have O1 := Lib.hid o1
              have D1 := Lib.hid d1
              have H1 := Lib.hid h1
              have L1 := Lib.hid l1
              have CC1 := Lib.hid C1
              clear o1 d1 h1 l1 C1 b1 hg' eg
              go_wp2_with fail
              have O2 := O1
              have D2 := D1
              have H2 : Hid (val n1 = 2 * val rs' + 0) := by unfold Hid; rw [H1.out]; omega
              have L2 : Hid (n1.length ≤ 103) := by unfold Hid; have := L1.out; have := RL.out; omega
              have CC2 := CC1
              refine (trim_any w1 false (.slice pp1 k1 cc1) n1 O2.out D2.out (by have := L2.out; omega)).mono ?_
              rintro e w3 ⟨y3, rfl, ⟨v3, n3, rfl, o3, d3, c3, h3, l3⟩, b3⟩
              obtain ⟨k3, hk3⟩ : ∃ t, t = n3.length := ⟨_, rfl⟩
              obtain ⟨pp3, cc3, rfl⟩ := own_len o3 hk3
              clear hk3
              have C3 := CC2.out.step b3
              have O3 := Lib.hid o3
              have D3 := Lib.hid d3
              have CN3 := Lib.hid c3
              have H3 : Hid (val n3 = 2 * val rs' + 0) := h3.trans H2.out
              have L3 : Hid (n3.length ≤ 103) := by unfold Hid; have := L2.out; omega
              have CC3 := Lib.hid C3
              clear o3 d3 c3 h3 l3 b3 C3
              go_wp2_with fail
              refine (Less_any w3 (.slice pp3 k3 cc3) vb n3 b O3.out (own_below (own_below (own_below OB.out HO.out.low) HR.out.low) CC3.out) D3.out HB.out CN3.out CB.out (by have := L3.out; omega) (by have := LB.out; omega)).mono ?_
              rintro e w' ⟨ans, rfl, hans, nd, rfl⟩
              obtain rfl : ans = true := hans.2 (by rw [H3.out, VB.out]; exact CMP.out)
              have HN1 : Hid (BitRel wo (w3.drewN nd) (val (a.drop (j + 1))) x (val qs) v jj (.slice pp3 k3 cc3) n3 D2x) := by
                unfold Hid
                rw [DD.out]
                exact bit_no HR.out BIT.out (own_drewN O3.out nd) (below_drewN CC3.out nd) D3.out CN3.out H3.out (by rw [H3.out]; exact CMP.out)
              clear hans
              go_wp2
              go_roundw
              case rel => exact ⟨_, jj, D2x, n3, rfl, rfl, rfl, HN1.out⟩
              case measure => simp [intOf]
            · have CMP := Lib.hid cmp
              clear cmp
              go_wp2_with fail
              refine (P1.out).mono ?_
              rintro e w1 ⟨v1, n1, rfl, o1, d1, h1, l1, b1⟩
              obtain ⟨k1, hk1⟩ : ∃ t, t = n1.length := ⟨_, rfl⟩
              obtain ⟨pp1, cc1, rfl⟩ := own_len o1 hk1
              clear hk1
              have C1 := (Chain.nil wr).step b1
              obtain ⟨g', hg', hc⟩ := own_cell (own_below (own_below (own_below OA.out HO.out.low) HR.out.low) C1) JN.out HX.out
              have eg : g' = g := by injection hg' with e; injection e with e _ _; exact e.symm
              rw [eg] at hc
              have O1 := Lib.hid o1
              have D1 := Lib.hid d1
              have H1 := Lib.hid h1
              have L1 := Lib.hid l1
              have CC1 := Lib.hid C1
              clear o1 d1 h1 l1 C1 b1 hg' eg
              go_wp2_with fail
              have O2 := O1
              have D2 := D1
              have H2 : Hid (val n1 = 2 * val rs' + 0) := by unfold Hid; rw [H1.out]; omega
              have L2 : Hid (n1.length ≤ 103) := by unfold Hid; have := L1.out; have := RL.out; omega
              have CC2 := CC1
              refine (trim_any w1 false (.slice pp1 k1 cc1) n1 O2.out D2.out (by have := L2.out; omega)).mono ?_
              rintro e w3 ⟨y3, rfl, ⟨v3, n3, rfl, o3, d3, c3, h3, l3⟩, b3⟩
              obtain ⟨k3, hk3⟩ : ∃ t, t = n3.length := ⟨_, rfl⟩
              obtain ⟨pp3, cc3, rfl⟩ := own_len o3 hk3
              clear hk3
              have C3 := CC2.out.step b3
              have O3 := Lib.hid o3
              have D3 := Lib.hid d3
              have CN3 := Lib.hid c3
              have H3 : Hid (val n3 = 2 * val rs' + 0) := h3.trans H2.out
              have L3 : Hid (n3.length ≤ 103) := by unfold Hid; have := L2.out; omega
              have CC3 := Lib.hid C3
              clear o3 d3 c3 h3 l3 b3 C3
              go_wp2_with fail
              refine (Less_any w3 (.slice pp3 k3 cc3) vb n3 b O3.out (own_below (own_below (own_below OB.out HO.out.low) HR.out.low) CC3.out) D3.out HB.out CN3.out CB.out (by have := L3.out; omega) (by have := LB.out; omega)).mono ?_
              rintro e w' ⟨ans, rfl, hans, nd, rfl⟩
              obtain rfl : ans = false := by cases ans; rfl; exact absurd (hans.1 rfl) (by rw [H3.out, VB.out]; exact CMP.out)
              clear hans
              go_wp2_with fail
              refine (less_any (w3.drewN nd) (.slice pp3 k3 cc3) vb n3 b (own_drewN O3.out nd) (own_drewN (own_below (own_below (own_below OB.out HO.out.low) HR.out.low) CC3.out) nd) D3.out HB.out CB.out (by rw [H3.out, VB.out]; have := CMP.out; omega) (by have := L3.out; omega)).mono ?_
              rintro e w4 ⟨v4, n4, rfl, o4, d4, h4, l4, b4⟩
              obtain ⟨k4, hk4⟩ : ∃ t, t = n4.length := ⟨_, rfl⟩
              obtain ⟨pp4, cc4, rfl⟩ := own_len o4 hk4
              clear hk4
              have C4 : Chain wr w4 := Chain.step (show Chain wr (w3.drewN nd) from below_drewN CC3.out nd) b4
              have O4 := Lib.hid o4
              have D4 := Lib.hid d4
              have H4 : Hid (val n4 = (2 * val rs' + 0) - v) := by unfold Hid; rw [h4, H3.out, VB.out]
              have L4 : Hid (n4.length ≤ 103) := by unfold Hid; have := L3.out; omega
              have CC4 := Lib.hid C4
              clear o4 d4 h4 l4 b4 C4
              go_wp2_with fail
              refine (trim_any w4 false (.slice pp4 k4 cc4) n4 O4.out D4.out (by have := L4.out; omega)).mono ?_
              rintro e w5 ⟨y5, rfl, ⟨v5, n5, rfl, o5, d5, c5, h5, l5⟩, b5⟩
              obtain ⟨k5, hk5⟩ : ∃ t, t = n5.length := ⟨_, rfl⟩
              obtain ⟨pp5, cc5, rfl⟩ := own_len o5 hk5
              clear hk5
              have HN1 : Hid (BitRel wo w5 (val (a.drop (j + 1))) x (val qs) v jj (.slice pp5 k5 cc5) n5 D3x) := by
                unfold Hid
                rw [DD3.out]
                exact bit_yes HR.out BIT.out o5 (CC4.out.step b5) d5 c5 rfl (h5.trans H4.out) (by have := CMP.out; omega)
              clear o5 d5 c5 h5 l5 b5
              go_wp2
              go_roundw
              case rel => exact ⟨_, jj, D3x, n5, rfl, rfl, rfl, HN1.out⟩
              case measure => simp [intOf]
end Go.Proofs.Ytokhlagcflkocaa

