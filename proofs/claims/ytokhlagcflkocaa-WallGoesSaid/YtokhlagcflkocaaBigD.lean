/- Contracts of the document's own answers for layer 1: numbers with a sign, told as int64s. -/
import Derived.Test.YtokhlagcflkocaaBigC
import Derived.Test.YtokhlagcflkocaaFixR
namespace Go.Proofs.Ytokhlagcflkocaa
open Go.ChangeShapes Go.WideShapes Go.ChangeAt Go.RowKit BigM

/-- A number with a sign, as it stands; zeros at the high end are no matter. -/
structure BigRaw (w : World) (x : Value) (m : Bool) (n L : Nat) : Prop where
  out : ∃ v ds, x = .agg #[.bool m, v] ∧ Own w v ds ∧ Dig ds ∧ val ds = n ∧ ds.length ≤ L

theorem BigIs.raw {w : World} {x : Value} {m : Bool} {n L : Nat} (h : BigIs w x m n L) : BigRaw w x m n L := by
  obtain ⟨v, ds, h1, h2, h3, _, h5, h6⟩ := h.out
  exact ⟨v, ds, h1, h2, h3, h5, h6⟩
theorem BigIs.below {w w' : World} {x : Value} {m : Bool} {n L : Nat} (h : BigIs w x m n L) (hb : Below w.heap.size w w') : BigIs w' x m n L := by
  obtain ⟨v, ds, h1, h2, h3, h4, h5, h6⟩ := h.out
  exact ⟨v, ds, h1, own_below h2 hb, h3, h4, h5, h6⟩

theorem trim_raw (w : World) (x : Value) (m : Bool) (n L : Nat) (h : BigRaw w x m n L) (hL : L ≤ 1000) :
    Calls Try.prog 47 #[x] w (BigPost w (m && decide (n ≠ 0)) n L) := by
  obtain ⟨v, ds, rfl, h2, h3, rfl, h6⟩ := h.out
  refine (trim_any w m v ds h2 h3 (by omega)).mono ?_
  rintro e w' ⟨y, he, ⟨v', ds', g1, g2, g3, g4, g5, g6⟩, hb⟩
  exact ⟨y, he, ⟨v', ds', g1, g2, g3, g4, g5, by omega⟩, hb⟩

/-- The number, with its sign. -/
def sg (m : Bool) (n : Nat) : Int := if m then -(n : Int) else n

structure IntPost (w : World) (t : Int) (e : Ending) (w' : World) : Prop where
  out : ∃ (q : Int) (ok : Bool), e = .returned (.tuple #[.int .i64 q, .bool ok]) ∧ (ok = true → I64 t ∧ q = t) ∧ (ok = false → ¬ I64 t) ∧ Below w.heap.size w w'

/-- What lay there already is still there, behind a call that lays new blocks alone. -/
theorem old_cell {a b : World} {N o : Nat} (h : Below a.heap.size a b) (hN : N < a.heap.size) : b.cell? ⟨N, o, none⟩ = a.cell? ⟨N, o, none⟩ := World.cell?_of_block (h.block N hN)
theorem old_mark {a b : World} {N o : Nat} (h : Below a.heap.size a b) (hN : N < a.heap.size) : b.frozen? ⟨N, o, none⟩ = a.frozen? ⟨N, o, none⟩ := World.frozen?_of_block (h.block N hN)

theorem sg_in {m : Bool} {n : Nat} : I64 (sg m n) ↔ if m then n ≤ 9223372036854775808 else n ≤ 9223372036854775807 := by
  cases m <;> simp [sg, I64] <;> omega

theorem val_drop_le (a : List Nat) (i : Nat) : val (a.drop i) ≤ val a := by
  by_cases h : i ≤ a.length
  · have e : a = a.take i ++ a.drop i := (List.take_append_drop _ _).symm
    have v : val a = val (a.take i) + 65536 ^ (a.take i).length * val (a.drop i) := by conv => lhs; rw [e]; rw [val_append]
    have p := Nat.pow_pos (n := (a.take i).length) (show 0 < 65536 by omega)
    have := Nat.le_mul_of_pos_left (val (a.drop i)) p
    omega
  · rw [List.drop_eq_nil_of_le (by omega)]
    exact Nat.zero_le _

/-- A row of digits is no block of another make. -/
theorem own_ne {w : World} {g n c N : Nat} {ds : List Nat} {cs : Array Value} {T : TypeId} {fr : Nat × Nat} (h : Own w (.slice (some ⟨g, 0, none⟩) n c) ds) (hN : w.heap[N]? = some (.cells cs T fr)) (hT : T ≠ 69) : g ≠ N := by
  rintro rfl
  rcases h.2 with ⟨e, _⟩ | ⟨g', cap, cur, e, hb, hg, _⟩
  · injection e with e1 _ _; cases e1
  · injection e with e1 _ _
    injection e1 with e1
    injection e1 with e1 _ _
    subst e1
    rw [hN] at hg
    injection hg with hg
    injection hg with _ h2 _
    exact hT h2

set_option maxHeartbeats 2000000 in
theorem Int_any (w : World) (x : Value) (m : Bool) (n L : Nat) (h : BigRaw w x m n L) (hL : L ≤ 1000) :
    Calls Try.prog 46 #[x] w (IntPost w (sg m n)) := by
  obtain ⟨v, ds, rfl, h2, h3, h5, h6⟩ := h.out
  have hb0 : Below w.heap.size w (w.alloc (.cells #[.bool m, v] 54)) := (Below.refl _ _).alloc (Nat.le_refl _) _
  have HT := Lib.hid (trim_raw (w.alloc (.cells #[.bool m, v] 54)) (.agg #[.bool m, v]) m n L ⟨v, ds, rfl, own_below h2 hb0, h3, h5, h6⟩ hL)
  clear h2 h3 h5 h6 h
  go_enter Try.func46, Try.ntmps46
  go_wp2_with fail
  refine HT.out.mono ?_
  rintro e w1 ⟨y, rfl, ⟨v', ds', rfl, g2, g3, g4, g5, g6⟩, hb⟩
  have c0 : w1.cell? ⟨w.heap.size, 0, none⟩ = some (.bool m) := by rw [old_cell hb (by simp)]; simp [go_sem]
  have c1 : w1.cell? ⟨w.heap.size, 1, none⟩ = some v := by rw [old_cell hb (by simp)]; simp [go_sem]
  have f0 : w1.frozen? ⟨w.heap.size, 0, none⟩ = false := by rw [old_mark hb (by simp)]; simp [go_sem]
  have f1 : w1.frozen? ⟨w.heap.size, 1, none⟩ = false := by rw [old_mark hb (by simp)]; simp [go_sem]
  obtain ⟨nn, hnn⟩ : ∃ k, k = ds'.length := ⟨_, rfl⟩
  obtain ⟨p, c, rfl⟩ := own_len g2 hnn
  obtain ⟨m', hm'⟩ : ∃ b, b = (m && decide (n ≠ 0)) := ⟨_, rfl⟩
  rw [← hm']
  have G2 := Lib.hid g2
  have G3 := Lib.hid g3
  have G4 := Lib.hid g4
  have G5 := Lib.hid g5
  have NN := Lib.hid hnn
  have HM := Lib.hid hm'
  have HB := Lib.hid hb
  have SG : sg m' n = sg m n := by
    rw [hm']
    by_cases h0 : n = 0
    · subst h0; cases m <;> rfl
    · simp [h0]
  have hB : Below w.heap.size w ((w1.setCell ⟨w.heap.size, 0, none⟩ (.bool m')).setCell ⟨w.heap.size, 1, none⟩ (.slice p nn c)) :=
    ((hb0.trans (hb.mono (by simp))).setCell (Nat.le_refl _) _).setCell (Nat.le_refl _) _
  have HBB := Lib.hid hB
  have HSG := Lib.hid SG
  have hNB : w1.heap[w.heap.size]? = some (.cells #[.bool m, v] 54 (0, 0)) := by rw [hb.block _ (by simp)]; exact heap_alloc_new w _
  have GNE : Hid (∀ g, p = some ⟨g, 0, none⟩ → g ≠ w.heap.size) := by
    intro g hg
    subst hg
    exact own_ne g2 hNB (by decide)
  clear g2 g3 g4 g5 g6 hnn hm' hb hb0 HT SG hB hNB
  by_cases h4 : 4 < nn
  · have fin : IntPost w (sg m n) (.returned (.tuple #[.int .i64 0, .bool false])) ((w1.setCell ⟨w.heap.size, 0, none⟩ (.bool m')).setCell ⟨w.heap.size, 1, none⟩ (.slice p nn c)) := by
      refine ⟨0, false, rfl, (fun h => by cases h), fun _ => ?_, HBB.out⟩
      have l := canon_low G4.out (by intro h; have := NN.out; rw [h] at this; simp at this; omega)
      have := Nat.pow_le_pow_right (n := 65536) (by omega) (show 4 ≤ ds'.length - 1 by have := NN.out; omega)
      rw [G5.out] at l
      rw [sg_in]
      split <;> omega
    have FIN := Lib.hid fin
    have t1 : (4 : Int) < (nn : Int) := by omega
    clear fin h4
    go_wp2
    go_ret2
    exact FIN.out
  · have t1 : ¬ ((4 : Int) < (nn : Int)) := by omega
    have V64 : val ds' < 18446744073709551616 := by
      have := val_lt G3.out
      have := Nat.pow_le_pow_right (n := 65536) (by omega) (show ds'.length ≤ 4 by have := NN.out; omega)
      omega
    have HV := Lib.hid V64
    have n4 : nn ≤ 4 := by omega
    clear h4 V64
    go_wp2
    go_loop [4, 5] (fun a i => ∃ (z : Int) (acc j : Nat), a = .int .u64 acc ∧ i = .int .i64 z ∧ Hid (z = (j : Int) - 1) ∧ Hid (j ≤ nn) ∧ Hid (acc = val (ds'.drop j))) (fun _ i => (intOf i + 1).toNat)
    case atStart => exact ⟨_, 0, nn, rfl, rfl, rfl, Nat.le_refl _, by unfold Hid; rw [List.drop_eq_nil_of_le (by have := NN.out; omega)]; rfl⟩
    case round =>
      obtain ⟨z, acc, j, rfl, rfl, hz, hj, ha⟩ := hrel
      rcases j with _ | j
      · obtain rfl : z = -1 := by have := hz.out; omega
        have an : acc = n := by have := ha.out; rw [List.drop_zero, G5.out] at this; exact this
        have al : acc < 18446744073709551616 := by rw [an, ← G5.out]; exact HV.out
        cases m'
        · have fin : IntPost w (sg m n) (.returned (.tuple #[.int .i64 (wrap64 acc), .bool (decide ((acc : Int) ≤ 9223372036854775807))])) ((w1.setCell ⟨w.heap.size, 0, none⟩ (.bool false)).setCell ⟨w.heap.size, 1, none⟩ (.slice p nn c)) := by
            rw [← HSG.out]
            refine ⟨_, _, rfl, fun h => ?_, fun h => ?_, HBB.out⟩
            · have h' : (acc : Int) ≤ 9223372036854775807 := by simpa using h
              refine ⟨sg_in.2 (by simp; omega), ?_⟩
              unfold wrap64 sg
              simp
              omega
            · have h' : ¬ (acc : Int) ≤ 9223372036854775807 := by simpa using h
              intro g
              have := sg_in.1 g
              simp at this
              omega
          have FIN := Lib.hid fin
          clear fin an al
          go_wp2
          go_ret2
          exact FIN.out
        · have fin : IntPost w (sg m n) (.returned (.tuple #[.int .i64 (wrap64 (IntKind.u64.wrap (-(acc : Int)))), .bool (decide ((acc : Int) ≤ 9223372036854775808))])) ((w1.setCell ⟨w.heap.size, 0, none⟩ (.bool true)).setCell ⟨w.heap.size, 1, none⟩ (.slice p nn c)) := by
            rw [← HSG.out]
            refine ⟨_, _, rfl, fun h => ?_, fun h => ?_, HBB.out⟩
            · have h' : (acc : Int) ≤ 9223372036854775808 := by simpa using h
              refine ⟨sg_in.2 (by simp; omega), ?_⟩
              rw [IntKind.wrap_u64]
              unfold wrap64 sg
              simp
              omega
            · have h' : ¬ (acc : Int) ≤ 9223372036854775808 := by simpa using h
              intro g
              have := sg_in.1 g
              simp at this
              omega
          have FIN := Lib.hid fin
          clear fin an al
          go_wp2
          go_ret2
          exact FIN.out
      · obtain rfl : z = (j : Int) := by have := hz.out; omega
        have jn : j < ds'.length := by have := hj.out; have := NN.out; omega
        obtain ⟨d, hd⟩ : ∃ d, ds'.getD j 0 = d := ⟨_, rfl⟩
        have d1 : d < 65536 := by rw [← hd]; exact dig_getD G3.out j
        obtain ⟨g, rfl, hc⟩ := own_cell G2.out jn hd
        have gne := GNE.out g rfl
        have hcw : ((w1.setCell ⟨w.heap.size, 0, none⟩ (.bool m')).setCell ⟨w.heap.size, 1, none⟩ (.slice (some ⟨g, 0, none⟩) nn c)).cell? ⟨g, j, none⟩ = some (.int .u32 (d : Int)) := by
          rw [World.cell?_setCell_other _ _ _ _ (by simp), World.cell?_setCell_other _ _ _ _ (by simp)]
          exact hc
        have vd := val_drop_succ ds' j jn
        have vl := val_drop_le ds' j
        have v64 := HV.out
        rw [hd, ← ha.out] at vd
        obtain ⟨t, ht⟩ : ∃ t, t = acc * 65536 := ⟨_, rfl⟩
        obtain ⟨u, hu⟩ : ∃ u, u = t + d := ⟨_, rfl⟩
        have HU : Hid (u = val (ds'.drop j)) := by unfold Hid; rw [vd, hu, ht]; omega
        have e1 : IntKind.u64.wrap ((acc : Int) * 65536) = (t : Int) := by rw [IntKind.wrap_u64]; omega
        have e2 : IntKind.u64.wrap ((t : Int) + (d : Int)) = (u : Int) := by rw [IntKind.wrap_u64]; omega
        have e3 : IntKind.u64.wrap (d : Int) = (d : Int) := by rw [IntKind.wrap_u64]; omega
        have j1 : (j : Int) < (nn : Int) := by have := hj.out; omega
        have j2 : (j : Int) ≤ 4 := by omega
        have HJ : Hid (j ≤ nn) := by unfold Hid; omega
        clear hd d1 jn vd vl v64 ht hu gne hc
        go_wp2
        go_round
        case rel => exact ⟨_, u, j, rfl, rfl, rfl, HJ, HU⟩
        case measure => simp [intOf]
end Go.Proofs.Ytokhlagcflkocaa

