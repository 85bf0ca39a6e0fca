/- Layer 12 (wall): Step; of none, and of one that New did not make; rates. -/
import Derived.Test.YtokhlagcflkocaaWallB
set_option maxRecDepth 100000
namespace Go.Proofs.Ytokhlagcflkocaa
open Go.ChangeShapes Go.WideShapes Go.ChangeAt Go.RowKit WallM

/-- What Step tells, and what it makes. -/
def inW (b : Int) : Prop := -4611686018427387904 ≤ b ∧ b ≤ 4611686018427387904
instance (b : Int) : Decidable (inW b) := inferInstanceAs (Decidable (_ ∧ _))
def stepE (x : Wl) (d : Int) : Int := if inW (x.base + d) then 0 else 20
def stepX (x : Wl) (d : Int) : Wl := if inW (x.base + d) then ⟨x.base + d, x.steps + 1⟩ else x
theorem step_yes {x : Wl} {d : Int} (h : inW (x.base + d)) : stepE x d = 0 ∧ stepX x d = ⟨x.base + d, x.steps + 1⟩ := by unfold stepE stepX; rw [if_pos h, if_pos h]; exact ⟨rfl, rfl⟩
theorem step_no {x : Wl} {d : Int} (h : ¬ inW (x.base + d)) : stepE x d = 20 ∧ stepX x d = x := by unfold stepE stepX; rw [if_neg h, if_neg h]; exact ⟨rfl, rfl⟩
theorem step_ok {x : Wl} (ok : x.Ok) (d : Int) : (stepX x d).Ok := by
  by_cases h : inW (x.base + d)
  · rw [(step_yes h).2]; exact ⟨h.1, h.2⟩
  · rw [(step_no h).2]; exact ok

theorem paddsat12_any (a b : Int) (ha : I64 a) (hb : I64 b) (w : World) :
    Calls Try.prog 26 #[.int .i64 a, .int .i64 b] w fun e w' => e = .returned (.int .i64 (cl (a + b) (-9223372036854775808) 9223372036854775807)) ∧ w = w' := by
  by_cases l : a + b < -9223372036854775808
  · rw [cl_lo l]; exact addsat_lo a b ha hb l w
  · by_cases h : 9223372036854775807 < a + b
    · rw [cl_hi (by omega) h]; exact addsat_hi a b ha hb h w
    · rw [cl_mid (by omega) (by omega)]; exact addsat_ok a b ha hb ⟨by omega, by omega⟩ w

def StepP12 (w : World) (N : Nat) (x : Wl) (e : Int) (r : Ending) (w' : World) : Prop := r = .returned (.int .i64 e) ∧ Wal w' N x ∧ Turn N w w'

set_option maxHeartbeats 1000000 in
theorem pstep12_any (w : World) (N : Nat) (x : Wl) (d : Int) (c : Wal w N x) (ok : x.Ok) (hd : I64 d) (s0 : 0 ≤ x.steps) (s1 : x.steps ≤ 1000000) :
    Calls Try.prog 12 #[.pointer (some ⟨N, 0, none⟩), .int .i64 d] w (StepP12 w N (stepX x d) (stepE x d)) := by
  have HE := Lib.hid (pheld12_any w N x c)
  have b0 := ok.b0
  have b1 := ok.b1
  have AD := Lib.hid (fun w => paddsat12_any x.base d ⟨by omega, by omega⟩ hd w)
  have CC := Lib.hid c
  have BE := Lib.hid (fun w => pbetween12_any w (-4611686018427387904) 4611686018427387904)
  have PC := Lib.hid pcl12_any
  by_cases h : inW (x.base + d)
  · have F : Hid (∀ w', w'.heap[N]? = some (.cells #[.bool true, .int .i64 (x.base + d), .int .i64 (x.steps + 1)] 46 (0, 0)) → Turn N w w' → StepP12 w N (stepX x d) (stepE x d) (.returned (.int .i64 0)) w') := fun w' a b => by
      rw [(step_yes h).1, (step_yes h).2]
      exact ⟨rfl, a, b⟩
    have e1 : cl (x.base + d) (-9223372036854775808) 9223372036854775807 = x.base + d := cl_mid (by have := h.1; omega) (by have := h.2; omega)
    have e2 : cl (x.base + d) (-4611686018427387904) 4611686018427387904 = x.base + d := cl_mid h.1 h.2
    rw [e1] at AD
    obtain ⟨b, s⟩ := x
    dsimp only at *
    obtain ⟨t, ht⟩ : ∃ t, b + d = t := ⟨_, rfl⟩
    obtain ⟨u, hu⟩ : ∃ u, s + 1 = u := ⟨_, rfl⟩
    rw [ht] at AD F e2
    rw [hu] at F
    have n1 : (t == t) = true := by simp
    have n2 : (t != t) = false := by simp
    have E2 := Lib.hid e2
    have w1 : wrap64 u = u := by unfold wrap64; omega
    have w2 : IntKind.i64.wrap u = u := by rw [IntKind.wrap_i64]; omega
    clear c ok h hd s0 s1 b0 b1 e1 e2 ht
    go_enter Try.func12, Try.ntmps12
    go_wp2_with fail
    refine HE.out.mono ?_; rintro e w1 ⟨rfl, l⟩
    have L := Lib.hid (l.alloc l.size (.cells #[.bool true, .int .i64 b, .int .i64 s] 46))
    clear l
    go_wp2_with fail
    refine (AD.out _).mono ?_; rintro e w2 ⟨rfl, rfl⟩
    go_wp2_with fail
    refine (BE.out _).mono ?_; rintro e w3 ⟨N1, M1, rfl, c1, c2, l⟩
    have C := Lib.hid (PC.out w3 N1 M1 t _ _ c1 c2)
    rw [E2.out] at C
    have L2 := Lib.hid (L.out.trans (l.mono L.out.size))
    clear c1 c2 l L
    go_wp2_with fail
    refine C.out.mono ?_; rintro e w4 ⟨rfl, rfl⟩
    have K := (CC.out.below L2.out)
    unfold Wal at K
    dsimp only at K
    have F1 := blk_free (o := 1) K
    have K2 : (w3.setCell ⟨N, 1, none⟩ (.int .i64 t)).heap[N]? = some (.cells #[.bool true, .int .i64 t, .int .i64 s] 46 (0, 0)) := blk_set K
    have F2 := blk_free (o := 2) K2
    have C2 := blk_cell (o := 2) K2
    have C1 := blk_cell (o := 1) K
    simp only [List.getElem?_toArray, List.getElem?_cons_zero, List.getElem?_cons_succ] at C1 C2
    have FF := Lib.hid (F.out _ (blk_set (o := 2) (u := .int .i64 u) K2) (((Turn.of_below L2.out).set (o := 1) (.int .i64 t)).set (o := 2) (.int .i64 u)))
    clear F K K2 C L2 CC
    go_wp2
    go_ret
    exact FF.out
  · have F : Hid (∀ w', Below w.heap.size w w' → StepP12 w N (stepX x d) (stepE x d) (.returned (.int .i64 20)) w') := fun w' b => by
      rw [(step_no h).1, (step_no h).2]
      exact ⟨rfl, CC.out.below b, Turn.of_below b⟩
    obtain ⟨t, ht⟩ : ∃ t, cl (x.base + d) (-9223372036854775808) 9223372036854775807 = t := ⟨_, rfl⟩
    obtain ⟨u, hu⟩ : ∃ u, cl t (-4611686018427387904) 4611686018427387904 = u := ⟨_, rfl⟩
    have NE : t ≠ u := fun g => by
      rw [← g] at hu
      have g1 := (cl_eq t _ _).1 hu
      apply h
      unfold inW
      rw [← ht] at g1
      unfold cl at g1
      split at g1
      · omega
      · split at g1 <;> omega
    have n1 : (t == u) = false := by simpa using NE
    have n2 : (t != u) = true := by simpa using NE
    rw [ht] at AD
    have HU := Lib.hid hu
    obtain ⟨b, s⟩ := x
    dsimp only at *
    clear c ok h hd s0 s1 b0 b1 ht hu NE CC
    go_enter Try.func12, Try.ntmps12
    go_wp2_with fail
    refine HE.out.mono ?_; rintro e w1 ⟨rfl, l⟩
    have L := Lib.hid (l.alloc l.size (.cells #[.bool true, .int .i64 b, .int .i64 s] 46))
    clear l
    go_wp2_with fail
    refine (AD.out _).mono ?_; rintro e w2 ⟨rfl, rfl⟩
    go_wp2_with fail
    refine (BE.out _).mono ?_; rintro e w3 ⟨N1, M1, rfl, c1, c2, l⟩
    have C := Lib.hid (PC.out w3 N1 M1 t _ _ c1 c2)
    rw [HU.out] at C
    have L2 := Lib.hid (L.out.trans (l.mono L.out.size))
    clear c1 c2 l L
    go_wp2_with fail
    refine C.out.mono ?_; rintro e w4 ⟨rfl, rfl⟩
    have FF := Lib.hid (F.out _ L2.out)
    clear F C L2
    go_wp2
    go_ret
    exact FF.out

/-- Of a wall that is none: a pointer of which held tells nothing. -/
def NoneAt (w : World) (v : Value) : Prop := ∀ w', Below w.heap.size w w' → Calls Try.prog 25 #[v] w' fun e w'' => e = .returned (.agg #[.bool false, .int .i64 0, .int .i64 0]) ∧ Below w'.heap.size w' w''
theorem none_nil (w : World) : NoneAt w (.pointer none) := fun w' _ => pheld12_none w'
theorem none_zero (w : World) (N : Nat) (c : w.heap[N]? = some (.cells #[.bool false, .int .i64 0, .int .i64 0] 46 (0, 0))) : NoneAt w (.pointer (some ⟨N, 0, none⟩)) := fun w' l =>
  pheld12_cells w' N false 0 0 ((l.block _ (Array.getElem?_eq_some_iff.1 c).1).trans c)
theorem NoneAt.below {w w' : World} {v : Value} (h : NoneAt w v) (l : Below w.heap.size w w') : NoneAt w' v := fun w'' k => h w'' (l.trans (k.mono l.size))

theorem pAt12_none (w : World) (p : Option Addr) (m : Int) (h : NoneAt w (.pointer p)) : Calls Try.prog 18 #[.pointer p, .int .i64 m] w (IntB w 0) := by
  have HE := Lib.hid (h w (Below.refl _ _))
  clear h
  go_enter Try.func18, Try.ntmps18
  go_wp2_with fail
  refine HE.out.mono ?_; rintro e w1 ⟨rfl, l⟩
  have F : Hid (IntB w 0 (.returned (.int .i64 0)) (w1.alloc (.cells #[.bool false, .int .i64 0, .int .i64 0] 46))) := ⟨rfl, l.alloc l.size _⟩
  clear l
  go_wp2
  go_ret
  exact F.out
theorem pWhen12_none (w : World) (p : Option Addr) (t : Int) (h : NoneAt w (.pointer p)) : Calls Try.prog 16 #[.pointer p, .int .i64 t] w (WhenP12 w 0 false) := by
  have HE := Lib.hid (h w (Below.refl _ _))
  clear h
  go_enter Try.func16, Try.ntmps16
  go_wp2_with fail
  refine HE.out.mono ?_; rintro e w1 ⟨rfl, l⟩
  have F : Hid (WhenP12 w 0 false (.returned (.tuple #[.int .i64 0, .bool false])) (w1.alloc (.cells #[.bool false, .int .i64 0, .int .i64 0] 46))) := ⟨rfl, l.alloc l.size _⟩
  clear l
  go_wp2
  go_ret2
  exact F.out
theorem pBase12_none (w : World) (p : Option Addr) (h : NoneAt w (.pointer p)) : Calls Try.prog 14 #[.pointer p] w (IntB w 0) := by
  have HE := Lib.hid (h w (Below.refl _ _))
  have FB := fun a b c w => field12_1 a b c w
  clear h
  go_enter Try.func14, Try.ntmps14
  go_wp2_with fail
  refine HE.out.mono ?_; rintro e w1 ⟨rfl, l⟩
  have F : Hid (IntB w 0 (.returned (.int .i64 0)) w1) := ⟨rfl, l⟩
  clear l
  go_wp2
  go_ret
  exact F.out
theorem pSteps12_none (w : World) (p : Option Addr) (h : NoneAt w (.pointer p)) : Calls Try.prog 15 #[.pointer p] w (IntB w 0) := by
  have HE := Lib.hid (h w (Below.refl _ _))
  have FB := fun a b c w => field12_2 a b c w
  clear h
  go_enter Try.func15, Try.ntmps15
  go_wp2_with fail
  refine HE.out.mono ?_; rintro e w1 ⟨rfl, l⟩
  have F : Hid (IntB w 0 (.returned (.int .i64 0)) w1) := ⟨rfl, l⟩
  clear l
  go_wp2
  go_ret
  exact F.out
theorem pStep12_none (w : World) (p : Option Addr) (d : Int) (h : NoneAt w (.pointer p)) : Calls Try.prog 12 #[.pointer p, .int .i64 d] w (IntB w 2) := by
  have HE := Lib.hid (h w (Below.refl _ _))
  clear h
  go_enter Try.func12, Try.ntmps12
  go_wp2_with fail
  refine HE.out.mono ?_; rintro e w1 ⟨rfl, l⟩
  have F : Hid (IntB w 2 (.returned (.int .i64 2)) (w1.alloc (.cells #[.bool false, .int .i64 0, .int .i64 0] 46))) := ⟨rfl, l.alloc l.size _⟩
  clear l
  go_wp2
  go_ret
  exact F.out
theorem pCopy12_none (w : World) (p : Option Addr) (h : NoneAt w (.pointer p)) : Calls Try.prog 11 #[.pointer p] w fun e w' => e = .returned (.pointer none) ∧ Below w.heap.size w w' := by
  have HE := Lib.hid (h w (Below.refl _ _))
  clear h
  go_enter Try.func11, Try.ntmps11
  go_wp2_with fail
  refine HE.out.mono ?_; rintro e w1 ⟨rfl, l⟩
  have L := Lib.hid (l.alloc l.size (.cells #[.bool false, .int .i64 0, .int .i64 0] 46))
  clear l
  go_wp2
  go_ret
  exact ⟨rfl, L.out⟩
end Go.Proofs.Ytokhlagcflkocaa
