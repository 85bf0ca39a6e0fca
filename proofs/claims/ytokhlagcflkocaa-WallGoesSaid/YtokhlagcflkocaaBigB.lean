/- Contracts of the document's own answers for layer 1: taking away, comparing. -/
import Derived.Test.YtokhlagcflkocaaBigA
import Derived.Deep.QuietTactic
import Derived.BigQuiet
namespace Go.Proofs.Ytokhlagcflkocaa
open Go.ChangeShapes Go.WideShapes Go.ChangeAt Go.RowKit BigM

theorem at_q (w : World) (v : Value) (ds : List Nat) (i x : Nat) (h : Own w v ds) (hx : ds.getD i 0 = x) :
    Calls Try.prog 55 #[v, .int .i64 i] w fun e w' => e = .returned (.int .u32 x) ∧ w' = w :=
  (at_of w v ds i x h hx).mono fun _ _ ⟨h1, h2⟩ => ⟨h1, h2.symm⟩

theorem own_drewN {B : Nat} {w : World} {v : Value} {ds : List Nat} (h : OwnAt B w v ds) (n : Nat) : OwnAt B (w.drewN n) v ds := h

/-- A slice's length is that of its digits. -/
theorem own_len {w : World} {v : Value} {ds : List Nat} {n : Nat} (h : Own w v ds) (hn : n = ds.length) : ∃ p c, v = .slice p n c := by
  rcases own_shape h with ⟨h1, h2⟩ | ⟨g, cap, h1, _⟩
  · exact ⟨none, 0, by rw [h1, hn, h2]; rfl⟩
  · exact ⟨_, cap, by rw [h1, hn]⟩

/-- A digit's cell, where there is one. -/
theorem own_cell {w : World} {p : Option Addr} {n c : Nat} {ds : List Nat} {k x : Nat} (h : Own w (.slice p n c) ds) (hk : k < ds.length) (hx : ds.getD k 0 = x) :
    ∃ g, p = some ⟨g, 0, none⟩ ∧ w.cell? ⟨g, k, none⟩ = some (.int .u32 x) := by
  rcases own_shape h with ⟨h1, h2⟩ | ⟨g, cap, h1, _, _, _, hc⟩
  · subst h2; simp at hk
  · refine ⟨g, ?_, by rw [← hx]; exact hc k hk⟩
    injection h1

structure LessRel (B : Nat) (w : World) (a b : List Nat) (wr : World) (v : Value) (out : List Nat) (k o : Nat) : Prop where
  own : OwnAt B wr v out
  low : Below B w wr
  dig : Dig out
  len : out.length = k
  car : o ≤ 1
  sum : val out + val (b.take k) = val (a.take k) + 65536 ^ k * o
  top : k ≤ a.length

theorem less_next {B : Nat} {w wr w1 : World} {a b out : List Nat} {v v' : Value} {k c : Nat} {o : Obj} (ha : Dig a) (hb : Dig b) (hB : B ≤ w.heap.size) (h : LessRel B w a b wr v out k c) (hk : k < a.length)
    (hown' : w1.ownsRow B 69 1 v' (out.length + 1) (out.map (fun d : Nat => Value.int .u32 (d : Int)) ++ [.int .u32 (((65536 + a.getD k 0 - b.getD k 0 - c) % 65536 : Nat) : Int)]))
    (hgrow : (wr.alloc o).grownBy w1 v.ownBlock) :
    LessRel B w a b w1 v' (out ++ [(65536 + a.getD k 0 - b.getD k 0 - c) % 65536]) (k + 1) (1 - (65536 + a.getD k 0 - b.getD k 0 - c) / 65536) := by
  obtain ⟨s1, s2⟩ := less_step ha hb h.len h.car h.sum
  have hB' := Nat.le_trans hB h.low.size
  refine ⟨?_, ?_, dig_snoc h.dig (Nat.mod_lt _ (by omega)), by simp [h.len], s2, s1, by omega⟩
  · unfold OwnAt
    rw [List.length_append, List.map_append]
    exact hown'
  · exact (h.low.alloc (by omega) o).grown hgrow (by simp; omega) (fun j hj => (World.ownsRow.lt h.own j hj).1)

theorem LessRel.drewN {B : Nat} {w wr : World} {a b out : List Nat} {v : Value} {k o : Nat} (h : LessRel B w a b wr v out k o) (n : Nat) : LessRel B w a b (wr.drewN n) v out k o :=
  ⟨h.own, below_drewN h.low n, h.dig, h.len, h.car, h.sum, h.top⟩

set_option maxHeartbeats 2000000 in
theorem less_any (w : World) (va vb : Value) (a b : List Nat) (oa : Own w va a) (ob : Own w vb b) (ha : Dig a) (hb : Dig b) (cb : Canon b) (hle : val b ≤ val a) (la : a.length ≤ 1000) :
    Calls Try.prog 50 #[va, vb] w (PlusPost w (val a - val b) a.length) := by
  obtain ⟨i0, hi, hz0, hz1, hz2⟩ := info_parts info32
  obtain ⟨na, hna⟩ : ∃ n, n = a.length := ⟨_, rfl⟩
  obtain ⟨nb, hnb⟩ : ∃ n, n = b.length := ⟨_, rfl⟩
  obtain ⟨pa, ca, rfl⟩ := own_len oa hna
  obtain ⟨pb, cb', rfl⟩ := own_len ob hnb
  have hlen : b.length ≤ a.length := canon_len ha cb hle
  have OA := Lib.hid oa
  have OB := Lib.hid ob
  have HA := Lib.hid ha
  have HB := Lib.hid hb
  have NA := Lib.hid hna
  have HLE := Lib.hid hle
  have HLEN := Lib.hid hlen
  have la' : na ≤ 1000 := by omega
  clear oa ob ha hb hna hnb la hle hlen cb
  go_enter Try.func50, Try.ntmps50
  go_wp2
  go_loopw [5, 6, 7] (fun v c i wr => ∃ (out : List Nat) (k cc : Nat), c = .int .u32 cc ∧ i = .int .i64 k ∧ LessRel w.heap.size w a b wr v out k cc) (fun _ _ i _ => 2000 - (intOf i).toNat)
  case atStart => exact ⟨[], 0, 0, rfl, rfl, ⟨own_nil _ _, Below.refl _ _, by intro d hd; simp at hd, rfl, by omega, by simp [val], by omega⟩⟩
  case round =>
    obtain ⟨out, k, cc, rfl, rfl, h⟩ := hrel
    have HR := Lib.hid h
    clear h
    have k1 : k ≤ 1000 := by have := HR.out.top; have := NA.out; omega
    by_cases ca1 : (k : Int) < (na : Int)
    · have kk : k < a.length := by have := NA.out; omega
      obtain ⟨x, hx⟩ : ∃ x, a.getD k 0 = x := ⟨_, rfl⟩
      obtain ⟨y, hy⟩ : ∃ y, b.getD k 0 = y := ⟨_, rfl⟩
      have x1 : x < 65536 := by rw [← hx]; exact dig_getD HA.out k
      have y1 : y < 65536 := by rw [← hy]; exact dig_getD HB.out k
      have c1 := HR.out.car
      have ol := HR.out.len
      have bl := HR.out.low.size
      obtain ⟨g, rfl, hc⟩ := own_cell (own_below OA.out HR.out.low) kk hx
      obtain ⟨p, hp⟩ : ∃ p, p = 65536 + x := ⟨_, rfl⟩
      obtain ⟨s, hs⟩ : ∃ s, s = p - y := ⟨_, rfl⟩
      obtain ⟨t, ht⟩ : ∃ t, t = s - cc := ⟨_, rfl⟩
      obtain ⟨d, hd⟩ : ∃ d, d = t % 65536 := ⟨_, rfl⟩
      obtain ⟨u, hu⟩ : ∃ u, u = t / 65536 := ⟨_, rfl⟩
      obtain ⟨q, hq⟩ : ∃ q, q = 1 - u := ⟨_, rfl⟩
      have e0 : IntKind.u32.wrap (65536 + (x : Int)) = (p : Int) := by rw [IntKind.wrap_u32]; omega
      have e1 : IntKind.u32.wrap ((p : Int) - (y : Int)) = (s : Int) := by rw [IntKind.wrap_u32]; omega
      have e2 : IntKind.u32.wrap ((s : Int) - (cc : Int)) = (t : Int) := by rw [IntKind.wrap_u32]; omega
      have e3 : (t : Int) % 65536 = (d : Int) := by omega
      have e4 : (t : Int) / 65536 = (u : Int) := by omega
      have e5 : (u : Int) % 4294967296 = (u : Int) := by omega
      have e6 : IntKind.u32.wrap (1 - (u : Int)) = (q : Int) := by rw [IntKind.wrap_u32]; omega
      have X := Lib.hid hx
      have Y := Lib.hid hy
      have DD : Hid (d = (65536 + a.getD k 0 - b.getD k 0 - cc) % 65536) := by unfold Hid; rw [hd, ht, hs, hp, hx, hy]
      have QQ : Hid (q = 1 - (65536 + a.getD k 0 - b.getD k 0 - cc) / 65536) := by unfold Hid; rw [hq, hu, ht, hs, hp, hx, hy]
      have OL := Lib.hid ol
      have BL := Lib.hid bl
      have KK := Lib.hid kk
      clear hx hy hp hs ht hd hq hu ol bl x1 y1 kk
      have BM : Hid (out.length + 1 ≤ maxLen) := by unfold Hid maxLen; rw [OL.out]; omega
      have BY : Hid ((out.length + 1) * 4 ≤ 140737488355328) := by unfold Hid; rw [OL.out]; omega
      have BS : Hid (w.heap.size ≤ (wr.alloc (.cells #[.int .u32 (d : Int)] 69)).heap.size) := by unfold Hid; simp; have := BL.out; omega
      go_wp2
      go_quiet ((go_at_call 55; exact Calls.quiet_of_same (at_q _ _ b k y (own_drewN (own_below OB.out HR.out.low) _) Y.out)))
      go_wp2_with (at_builtin; refine wpList_append_own _ rfl _ _ 52 rfl w.heap.size 69 i0 (.int .u32 0) 1 4 Try.underlying52 hi hz0 hz1 hz2 rfl (by decide) _ _ _ rfl (World.ownsRow.alloc (own_drewN HR.out.own _) _) ⟨wr.heap.size, 0, none⟩ 1 1 [.int .u32 (d : Int)] rfl rfl (one_new (wr.drewN _) _ _) (one_cell d) BM.out BY.out BS.out ?_)
      intro v' w1 hown1 hgrow1 _
      have HN : Hid (LessRel w.heap.size w a b w1 v' (out ++ [d]) (k + 1) q) := by
        unfold Hid
        rw [DD.out, QQ.out]
        rw [DD.out] at hown1
        exact less_next HA.out HB.out (Nat.le_refl _) (HR.out.drewN _) KK.out hown1 hgrow1
      clear hown1 hgrow1
      go_wp2
      go_roundw
      case rel => exact ⟨out ++ [d], k + 1, q, rfl, by go_num, HN.out⟩
      case measure => simp [intOf]; omega
    · have fin : PlusPost w (val a - val b) a.length (.returned u5) wr := by
        have ek : k = a.length := by have := HR.out.top; have := NA.out; omega
        refine ⟨u5, out, rfl, HR.out.own.weak, HR.out.dig, ?_, by rw [HR.out.len]; exact HR.out.top, HR.out.low⟩
        have h := HR.out.sum
        rw [ek] at h
        exact less_done HR.out.car HR.out.dig (by rw [HR.out.len, ek]) HLE.out HLEN.out h
      have FIN := Lib.hid fin
      clear fin
      go_wp2
      go_ret
      exact FIN.out

structure LessAns (p : Prop) (w : World) (e : Ending) (w' : World) : Prop where
  out : ∃ b : Bool, e = .returned (.bool b) ∧ (b = true ↔ p) ∧ ∃ n, w' = w.drewN n

theorem eq_drop {a b : List Nat} {i : Nat} (hl : a.length = b.length) (hi : i < a.length) (hd : a.drop (i + 1) = b.drop (i + 1)) (h : a.getD i 0 = b.getD i 0) : a.drop i = b.drop i := by
  have hi' : i < b.length := by omega
  rw [List.drop_eq_getElem_cons hi, List.drop_eq_getElem_cons hi', hd]
  rw [List.getD_eq_getElem?_getD, List.getD_eq_getElem?_getD, List.getElem?_eq_getElem hi, List.getElem?_eq_getElem hi'] at h
  simp at h
  rw [h]

set_option maxHeartbeats 2000000 in
theorem Less_any (w : World) (va vb : Value) (a b : List Nat) (oa : Own w va a) (ob : Own w vb b) (ha : Dig a) (hb : Dig b) (ca : Canon a) (cb : Canon b) (la : a.length ≤ 1000) (lb : b.length ≤ 1000) :
    Calls Try.prog 49 #[va, vb] w (LessAns (val a < val b) w) := by
  obtain ⟨na, hna⟩ : ∃ n, n = a.length := ⟨_, rfl⟩
  obtain ⟨nb, hnb⟩ : ∃ n, n = b.length := ⟨_, rfl⟩
  obtain ⟨pa, cpa, rfl⟩ := own_len oa hna
  obtain ⟨pb, cpb, rfl⟩ := own_len ob hnb
  have OA := Lib.hid oa
  have OB := Lib.hid ob
  have HA := Lib.hid ha
  have HB := Lib.hid hb
  have CA := Lib.hid ca
  have CB := Lib.hid cb
  have NA := Lib.hid hna
  have NB := Lib.hid hnb
  have la' : na ≤ 1000 := by omega
  have lb' : nb ≤ 1000 := by omega
  clear oa ob ha hb hna hnb la lb ca cb
  by_cases hne : na = nb
  · have NN : Hid (nb = na) := hne.symm
    obtain rfl : na = nb := hne
    go_enter Try.func49, Try.ntmps49
    go_wp2
    go_loopw [5] (fun i wr => ∃ (z : Int) (j n : Nat), i = .int .i64 z ∧ Hid (z = (j : Int) - 1) ∧ Hid (j ≤ na) ∧ Hid (a.drop j = b.drop j) ∧ wr = w.drewN n) (fun i _ => (intOf i + 1).toNat)
    case atStart => exact ⟨_, na, 0, rfl, rfl, Nat.le_refl _, by unfold Hid; rw [List.drop_eq_nil_of_le (by have := NA.out; omega), List.drop_eq_nil_of_le (by have := NB.out; omega)], rfl⟩
    case round =>
      obtain ⟨z, j, n, rfl, hz, hj, hd, rfl⟩ := hrel
      rcases j with _ | m
      · obtain rfl : z = -1 := by have := hz.out; omega
        have fin : LessAns (val a < val b) w (.returned (.bool false)) (w.drewN n) := ⟨false, rfl, ⟨fun h => by simp at h, fun h => by have e := hd.out; simp at e; rw [e] at h; omega⟩, n, rfl⟩
        have FIN := Lib.hid fin
        clear fin
        go_wp2
        go_ret
        exact FIN.out
      · obtain rfl : z = (m : Int) := by have := hz.out; omega
        have mm : m < na := by have := hj.out; omega
        have ma : m < a.length := by have := NA.out; omega
        have mb : m < b.length := by have := NB.out; omega
        obtain ⟨x, hx⟩ : ∃ x, a.getD m 0 = x := ⟨_, rfl⟩
        obtain ⟨y, hy⟩ : ∃ y, b.getD m 0 = y := ⟨_, rfl⟩
        obtain ⟨g, rfl, hc⟩ := own_cell OA.out ma hx
        obtain ⟨g', rfl, hc'⟩ := own_cell OB.out mb hy
        have m1 : (m : Int) < (na : Int) := by omega
        have m2 : (m : Int) ≤ 1000 := by omega
        rcases Nat.lt_trichotomy x y with l | l | l
        · have fin : ∀ n, LessAns (val a < val b) w (.returned (.bool true)) (w.drewN n) := fun n => ⟨true, rfl, ⟨fun _ => less_at HA.out (by have := NA.out; have := NB.out; omega) ma hd.out (by rw [hx, hy]; exact l), fun _ => rfl⟩, n, rfl⟩
          have FIN := Lib.hid fin
          have t1 : ((x : Int) != (y : Int)) = true := by rw [bne_iff_ne]; omega
          have t2 : (x : Int) < (y : Int) := by omega
          clear fin hx hy l ma mb
          go_wp2
          go_quiet (fail)
          go_wp2
          go_quiet (fail)
          go_wp2
          go_ret
          rw [World.drewN_drewN, World.drewN_drewN]
          exact FIN.out _
        · subst l
          have HN : Hid (a.drop m = b.drop m) := eq_drop (by have := NA.out; have := NB.out; omega) ma hd.out (by rw [hx, hy])
          have HJ : Hid (m ≤ na) := by unfold Hid; omega
          have t1 : ((x : Int) != (x : Int)) = false := by simp
          clear hx hy ma mb
          go_wp2
          go_quiet (fail)
          go_wp2
          go_roundw
          case rel => exact ⟨_, m, _, rfl, rfl, HJ, HN, rfl⟩
          case measure => simp [intOf]
        · have fin : ∀ n, LessAns (val a < val b) w (.returned (.bool false)) (w.drewN n) := fun n => ⟨false, rfl, ⟨fun h => by simp at h, fun h => by have := less_at HB.out (by have := NA.out; have := NB.out; omega) mb hd.out.symm (by rw [hx, hy]; exact l); omega⟩, n, rfl⟩
          have FIN := Lib.hid fin
          have t1 : ((x : Int) != (y : Int)) = true := by rw [bne_iff_ne]; omega
          have t2 : ¬ ((x : Int) < (y : Int)) := by omega
          have t3 : decide (x < y) = false := by simp; omega
          clear fin hx hy l ma mb
          go_wp2
          go_quiet (fail)
          go_wp2
          go_quiet (fail)
          go_wp2
          go_ret
          rw [World.drewN_drewN, World.drewN_drewN]
          exact FIN.out _
  · have t1 : ((na : Int) != (nb : Int)) = true := by rw [bne_iff_ne]; omega
    by_cases hlt : na < nb
    · have fin : LessAns (val a < val b) w (.returned (.bool true)) w := ⟨true, rfl, ⟨fun _ => less_len HA.out CB.out (by have := NA.out; have := NB.out; omega), fun _ => rfl⟩, 0, rfl⟩
      have FIN := Lib.hid fin
      have t2 : (na : Int) < (nb : Int) := by omega
      clear fin hne hlt
      go_enter Try.func49, Try.ntmps49
      go_wp2
      go_ret
      exact FIN.out
    · have fin : LessAns (val a < val b) w (.returned (.bool false)) w := ⟨false, rfl, ⟨fun h => by simp at h, fun h => by have := less_len HB.out CA.out (by have := NA.out; have := NB.out; omega); omega⟩, 0, rfl⟩
      have FIN := Lib.hid fin
      have t2 : ¬ ((na : Int) < (nb : Int)) := by omega
      clear fin hne hlt
      go_enter Try.func49, Try.ntmps49
      go_wp2
      go_ret
      exact FIN.out
end Go.Proofs.Ytokhlagcflkocaa

