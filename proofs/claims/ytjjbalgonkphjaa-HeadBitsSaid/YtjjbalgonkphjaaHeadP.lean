/- Layer 4 (head): what each of its laws asks besides: the chapter's rows. -/
import Derived.Test.YtjjbalgonkphjaaHeadB
import Derived.Test.YtjjbalgonkphjaaHeadJ
import Derived.Test.YtjjbalgonkphjaaStr
namespace Go.Proofs.Ytjjbalgonkphjaa
open Go.ChangeShapes Go.WideShapes Go.ChangeAt Go.RowKit OctM

theorem pput_yes (w : World) (h : Hd) (x : Xt) (hw : h.wf) (hm : mayH h) :
    Calls Try.prog 8 #[pkV h x] w fun e w' => ∃ p c, e = .returned (.tuple #[.slice p 48 c, .int .i64 0]) ∧ New w.heap.size w' p 48 c (valsN .u8 (bytesH h)) ∧ Below w.heap.size w w' :=
  (pput_ok w h x hw hm).mono fun e w' ⟨v, he, o, l⟩ => by
    obtain ⟨p, c, rfl, hh⟩ := own_new o
    exact ⟨p, c, he, hh, l⟩

def row1 : Hd := ⟨0, 4, 3, 0, 0, 0, 0, 0, 0, 0, 0, 0, 0⟩
def row2 : Hd := ⟨3, 4, 4, 0, -6, 0, 0, 0, 1196446464, 0, 0, 0, 0⟩
theorem row1_bytes : bytesH row1 = [35, 0, 0, 0, 0, 0, 0, 0, 0, 0, 0, 0, 0, 0, 0, 0, 0, 0, 0, 0, 0, 0, 0, 0, 0, 0, 0, 0, 0, 0, 0, 0, 0, 0, 0, 0, 0, 0, 0, 0, 0, 0, 0, 0, 0, 0, 0, 0] := by decide +kernel
theorem row2_bytes : bytesH row2 = [228, 0, 250, 0, 0, 0, 0, 0, 0, 0, 0, 0, 71, 80, 83, 0, 0, 0, 0, 0, 0, 0, 0, 0, 0, 0, 0, 0, 0, 0, 0, 0, 0, 0, 0, 0, 0, 0, 0, 0, 0, 0, 0, 0, 0, 0, 0, 0] := by decide +kernel
theorem row1_wf : row1.wf := ⟨by decide, by decide, by decide, by decide, by decide, by decide, by decide, by decide, by decide, by decide, by decide, by decide, by decide⟩
theorem row2_wf : row2.wf := ⟨by decide, by decide, by decide, by decide, by decide, by decide, by decide, by decide, by decide, by decide, by decide, by decide, by decide⟩

theorem gps_str : strN [71, 80, 83, 0] = ⟨#[71, 80, 83, 0]⟩ := by decide +kernel

attribute [local go_sem ↓] strB_eq eqlS_eq
set_option maxHeartbeats 4000000 in
theorem alive4_any (w : World) : Calls Try.prog 14 #[] w fun e w' => e = .returned (.bool true) ∧ Below w.heap.size w w' := by
  have P1 := Lib.hid (fun w => pput_yes w row1 Xt.zero row1_wf (by decide))
  have P2 := Lib.hid (fun w => pput_yes w row2 Xt.zero row2_wf (by decide))
  rw [row1_bytes] at P1
  rw [row2_bytes] at P2
  go_enter Try.func14, Try.ntmps14
  go_wp2_with fail
  refine (P1.out _).mono ?_; rintro e w1 ⟨pa, ca, rfl, na, l1⟩
  have NA := Lib.hid na.holds
  have L1 := Lib.hid l1
  clear na l1
  go_wp2_with fail
  refine (P2.out _).mono ?_; rintro e w2 ⟨pb, cb, rfl, nb, l2⟩
  have HA := NA.out.below l2
  have HB := nb.holds
  obtain ⟨aa, rfl, ca0⟩ := HA.atN (i := 0) (by omega)
  obtain ⟨bb, rfl, cb0⟩ := HB.atN (i := 0) (by omega)
  obtain ⟨b', e', cb2⟩ := HB.atN (i := 2) (by omega)
  cases e'
  rw [show aa.add 0 = aa from rfl] at ca0
  rw [show bb.add 0 = bb from rfl] at cb0
  rw [show bb.add 2 = ⟨bb.block, bb.off + 2, none⟩ from rfl] at cb2
  simp only [List.getD_cons_zero, List.getD_cons_succ] at ca0 cb0 cb2
  have cl : 48 ≤ cb := HB.cap
  have PC := HB.piece 12 16 (by omega) (by omega)
  rw [if_neg (by omega)] at PC
  have PD : Holds w2 (some ⟨bb.block, bb.off + 12, none⟩) 4 (cb - 12) (valsN .u8 [71, 80, 83, 0]) := PC
  have SB := str_held PD
  have EQ := eql_str w2 (a := [71, 80, 83, 0]) (b := [71, 80, 83, 0]) (by decide) (by decide)
  rw [show decide (([71, 80, 83, 0] : List Nat) = [71, 80, 83, 0]) = true from rfl] at EQ
  rw [gps_str] at SB EQ
  have c1 : (16 : Int) ≤ (cb : Int) := by omega
  have c2 : ¬ cb = 12 := by omega
  have c3 : ¬ 12 = cb := by omega
  have FIN : Hid (Below w.heap.size w w2) := L1.out.trans (l2.mono L1.out.size)
  clear l2 nb HA HB PC PD cl
  go_wp2
  go_ret
  exact ⟨rfl, FIN.out⟩
end Go.Proofs.Ytjjbalgonkphjaa
