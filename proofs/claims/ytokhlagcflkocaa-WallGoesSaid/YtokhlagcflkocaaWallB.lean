/- Layer 12 (wall): New, At, When, Step, Base, Steps, Copy. -/
import Derived.Test.YtokhlagcflkocaaWallA
set_option maxRecDepth 100000
namespace Go.Proofs.Ytokhlagcflkocaa
open Go.ChangeShapes Go.WideShapes Go.ChangeAt Go.RowKit WallM

/-- A new wall. -/
def NewP12 (w : World) (x : Wl) (r : Ending) (w' : World) : Prop := ∃ N, r = .returned (.pointer (some ⟨N, 0, none⟩)) ∧ Wal w' N x ∧ w.heap.size ≤ N ∧ Below w.heap.size w w'
def NewE12 (w : World) (x : Wl) (r : Ending) (w' : World) : Prop := ∃ N, r = .returned (.tuple #[.pointer (some ⟨N, 0, none⟩), .int .i64 0]) ∧ Wal w' N x ∧ w.heap.size ≤ N ∧ Below w.heap.size w w'

theorem pnew12_ok (w : World) (s : Int) (h : 0 ≤ s) (h' : s ≤ 4611686018427387904) : Calls Try.prog 8 #[.int .i64 s] w (NewE12 w ⟨s, 0⟩) := by
  have PI := Lib.hid (pinst12_any w s)
  rw [inst_of h h'] at PI
  have F : Hid (∀ v, Below w.heap.size w v → NewE12 w ⟨s, 0⟩ (.returned (.tuple #[.pointer (some ⟨v.heap.size, 0, none⟩), .int .i64 0])) (v.alloc (.cells #[.bool true, .int .i64 s, .int .i64 0] 46))) :=
    fun v l => ⟨_, rfl, heap_alloc_new _ _, l.size, l.alloc l.size _⟩
  clear h h'
  go_enter Try.func8, Try.ntmps8
  go_wp2_with fail
  refine PI.out.mono ?_; rintro e w1 ⟨rfl, l⟩
  have FF := Lib.hid (F.out _ l)
  clear l F
  go_wp2
  go_ret2
  exact FF.out
theorem pnew12_no (w : World) (s : Int) (h : ¬ (0 ≤ s ∧ s ≤ 4611686018427387904)) : Calls Try.prog 8 #[.int .i64 s] w fun e w' => e = .returned (.tuple #[.pointer none, .int .i64 1]) ∧ Below w.heap.size w w' := by
  have PI := Lib.hid (pinst12_any w s)
  obtain ⟨k, hk⟩ : ∃ k, inst s = k := ⟨_, rfl⟩
  have NE : s ≠ k := fun g => h ((cl_eq s 0 4611686018427387904).1 (by rw [g] at hk ⊢; exact hk))
  have n1 : (s == k) = false := by simpa using NE
  have n2 : (s != k) = true := by simpa using NE
  rw [hk] at PI
  clear h hk
  go_enter Try.func8, Try.ntmps8
  go_wp2_with fail
  refine PI.out.mono ?_; rintro e w1 ⟨rfl, l⟩
  have L := Lib.hid l
  clear l
  go_wp2
  go_ret2
  exact ⟨rfl, L.out⟩

theorem pbase12_any (w : World) (N : Nat) (x : Wl) (c : Wal w N x) : Calls Try.prog 14 #[.pointer (some ⟨N, 0, none⟩)] w (IntB w x.base) := by
  have HE := Lib.hid (pheld12_any w N x c)
  obtain ⟨b, s⟩ := x
  dsimp only at *
  clear c
  have FB := fun a b c w => field12_1 a b c w
  go_enter Try.func14, Try.ntmps14
  go_wp2_with fail
  refine HE.out.mono ?_; rintro e w1 ⟨rfl, l⟩
  have L := Lib.hid l
  clear l
  go_wp2
  go_ret
  exact ⟨rfl, L.out⟩
theorem psteps12_any (w : World) (N : Nat) (x : Wl) (c : Wal w N x) : Calls Try.prog 15 #[.pointer (some ⟨N, 0, none⟩)] w (IntB w x.steps) := by
  have HE := Lib.hid (pheld12_any w N x c)
  obtain ⟨b, s⟩ := x
  dsimp only at *
  clear c
  have FB := fun a b c w => field12_2 a b c w
  go_enter Try.func15, Try.ntmps15
  go_wp2_with fail
  refine HE.out.mono ?_; rintro e w1 ⟨rfl, l⟩
  have L := Lib.hid l
  clear l
  go_wp2
  go_ret
  exact ⟨rfl, L.out⟩
theorem pcopy12_any (w : World) (N : Nat) (x : Wl) (c : Wal w N x) : Calls Try.prog 11 #[.pointer (some ⟨N, 0, none⟩)] w (NewP12 w x) := by
  have HE := Lib.hid (pheld12_any w N x c)
  obtain ⟨b, s⟩ := x
  dsimp only at *
  clear c
  go_enter Try.func11, Try.ntmps11
  go_wp2_with fail
  refine HE.out.mono ?_; rintro e w1 ⟨rfl, l⟩
  have F : Hid (NewP12 w ⟨b, s⟩ (.returned (.pointer (some ⟨w1.heap.size, 0, none⟩))) (w1.alloc (.cells #[.bool true, .int .i64 b, .int .i64 s] 46))) :=
    ⟨_, rfl, heap_alloc_new _ _, l.size, l.alloc l.size _⟩
  clear l
  go_wp2
  go_ret
  exact F.out

set_option maxHeartbeats 1000000 in
theorem pAt12_any (w : World) (N : Nat) (x : Wl) (m : Int) (c : Wal w N x) (ok : x.Ok) : Calls Try.prog 18 #[.pointer (some ⟨N, 0, none⟩), .int .i64 m] w (IntB w (atW x.base m)) := by
  have HE := Lib.hid (pheld12_any w N x c)
  have AT := Lib.hid (fun w => pat12_any w x.base x.steps m ok.b0 ok.b1)
  obtain ⟨b, s⟩ := x
  dsimp only at *
  clear c ok
  go_enter Try.func18, Try.ntmps18
  go_wp2_with fail
  refine HE.out.mono ?_; rintro e w1 ⟨rfl, l⟩
  have L := Lib.hid (l.alloc l.size (.cells #[.bool true, .int .i64 b, .int .i64 s] 46))
  clear l
  go_wp2_with fail
  refine (AT.out _).mono ?_; rintro e w2 ⟨rfl, l⟩
  have F : Hid (IntB w (atW b m) (.returned (.int .i64 (atW b m))) w2) := ⟨rfl, L.out.trans (l.mono L.out.size)⟩
  clear l
  go_wp2
  go_ret
  exact F.out

/-- What When tells. -/
def WhenP12 (w : World) (n : Int) (b : Bool) (r : Ending) (w' : World) : Prop := r = .returned (.tuple #[.int .i64 n, .bool b]) ∧ Below w.heap.size w w'
theorem psubcap12 (a b : Int) (ha : I64 a) (hb : I64 b) (h : -9223372036854775808 ≤ a - b) (w : World) :
    Calls Try.prog 30 #[.int .i64 a, .int .i64 b] w fun e w' => e = .returned (.int .i64 (min (a - b) 9223372036854775807)) ∧ w = w' := by
  by_cases g : a - b ≤ 9223372036854775807
  · rw [show min (a - b) 9223372036854775807 = a - b by omega]
    exact subsat_ok a b ha hb ⟨h, g⟩ w
  · rw [show min (a - b) 9223372036854775807 = 9223372036854775807 by omega]
    exact subsat_hi a b ha hb (by omega) w

set_option maxHeartbeats 1000000 in
theorem pWhen12_any (w : World) (N : Nat) (x : Wl) (t : Int) (c : Wal w N x) (ok : x.Ok) (ht : I64 t) :
    Calls Try.prog 16 #[.pointer (some ⟨N, 0, none⟩), .int .i64 t] w (WhenP12 w (whenN x.base t) (whenB x.base t)) := by
  have HE := Lib.hid (pheld12_any w N x c)
  have AT := Lib.hid (fun w => pat12_any w x.base x.steps 0 ok.b0 ok.b1)
  have OK := Lib.hid ok
  have ai := atW_in x.base 0
  obtain ⟨b, s⟩ := x
  dsimp only at *
  clear c ok
  by_cases big : t ≤ 4611686018427387904
  · obtain ⟨a, ha⟩ : ∃ a, atW b 0 = a := ⟨_, rfl⟩
    rw [ha] at AT ai
    by_cases h : t ≤ a
    · have F : Hid (∀ w', Below w.heap.size w w' → WhenP12 w (whenN b t) (whenB b t) (.returned (.tuple #[.int .i64 0, .bool true])) w') := fun w' l => by
        rw [(when_now (by rw [ha]; exact h)).1, (when_now (by rw [ha]; exact h)).2]
        exact ⟨rfl, l⟩
      have d2 : decide (t ≤ a) = true := decide_eq_true h
      clear ha ai ht
      go_enter Try.func16, Try.ntmps16
      go_wp2_with fail
      refine HE.out.mono ?_; rintro e w1 ⟨rfl, l⟩
      have L := Lib.hid (l.alloc l.size (.cells #[.bool true, .int .i64 b, .int .i64 s] 46))
      clear l
      go_wp2_with fail
      refine (AT.out _).mono ?_; rintro e w2 ⟨rfl, l⟩
      have FF := Lib.hid (F.out _ (L.out.trans (l.mono L.out.size)))
      clear l F
      go_wp2
      go_ret2
      exact FF.out
    · have h' : a < t := by omega
      have d2 : decide (t ≤ a) = false := decide_eq_false h
      have e0 : -4611686018427387904 ≤ b := OK.out.b0
      have e1 : b ≤ 4611686018427387904 := OK.out.b1
      have SU := Lib.hid (fun w => psubcap12 t b ht ⟨by omega, by omega⟩ (by omega) w)
      have nw : ¬ t ≤ atW b 0 := by rw [ha]; exact h
      obtain ⟨m, hm⟩ : ∃ m, min (t - b) 9223372036854775807 = m := ⟨_, rfl⟩
      rw [hm] at SU
      by_cases g : t - b ≤ 4611686018427387904
      · have em : m = t - b := by omega
        have F : Hid (∀ w', Below w.heap.size w w' → WhenP12 w (whenN b t) (whenB b t) (.returned (.tuple #[.int .i64 m, .bool true])) w') := fun w' l => by
          rw [(when_yes nw big g).1, (when_yes nw big g).2, em]
          exact ⟨rfl, l⟩
        have g' : m ≤ 4611686018427387904 := by omega
        have d3 : decide (4611686018427387904 < m) = false := decide_eq_false (by omega)
        clear ha ai ht hm em e0 e1 nw h g
        go_enter Try.func16, Try.ntmps16
        go_wp2_with fail
        refine HE.out.mono ?_; rintro e w1 ⟨rfl, l⟩
        have L := Lib.hid (l.alloc l.size (.cells #[.bool true, .int .i64 b, .int .i64 s] 46))
        have CK : Hid ((w1.alloc (.cells #[.bool true, .int .i64 b, .int .i64 s] 46)).heap[w1.heap.size]? = some (.cells #[.bool true, .int .i64 b, .int .i64 s] 46 (0, 0))) := heap_alloc_new _ _
        clear l
        go_wp2_with fail
        refine (AT.out _).mono ?_; rintro e w2 ⟨rfl, l⟩
        have C1 : w2.cell? ⟨w1.heap.size, 1, none⟩ = some (.int .i64 b) := blk_cell (o := 1) ((l.block _ (Array.getElem?_eq_some_iff.1 CK.out).1).trans CK.out)
        have FF := Lib.hid (F.out _ (L.out.trans (l.mono L.out.size)))
        clear l F CK
        go_wp2_with fail
        refine (SU.out _).mono ?_; rintro e w3 ⟨rfl, rfl⟩
        go_wp2
        go_ret2
        exact FF.out
      · have F : Hid (∀ w', Below w.heap.size w w' → WhenP12 w (whenN b t) (whenB b t) (.returned (.tuple #[.int .i64 0, .bool false])) w') := fun w' l => by
          rw [(when_no nw (fun k => g k.2)).1, (when_no nw (fun k => g k.2)).2]
          exact ⟨rfl, l⟩
        have g' : 4611686018427387904 < m := by omega
        have d3 : decide (4611686018427387904 < m) = true := decide_eq_true (by omega)
        clear ha ai ht hm e0 e1 nw h g
        go_enter Try.func16, Try.ntmps16
        go_wp2_with fail
        refine HE.out.mono ?_; rintro e w1 ⟨rfl, l⟩
        have L := Lib.hid (l.alloc l.size (.cells #[.bool true, .int .i64 b, .int .i64 s] 46))
        have CK : Hid ((w1.alloc (.cells #[.bool true, .int .i64 b, .int .i64 s] 46)).heap[w1.heap.size]? = some (.cells #[.bool true, .int .i64 b, .int .i64 s] 46 (0, 0))) := heap_alloc_new _ _
        clear l
        go_wp2_with fail
        refine (AT.out _).mono ?_; rintro e w2 ⟨rfl, l⟩
        have C1 : w2.cell? ⟨w1.heap.size, 1, none⟩ = some (.int .i64 b) := blk_cell (o := 1) ((l.block _ (Array.getElem?_eq_some_iff.1 CK.out).1).trans CK.out)
        have FF := Lib.hid (F.out _ (L.out.trans (l.mono L.out.size)))
        clear l F CK
        go_wp2_with fail
        refine (SU.out _).mono ?_; rintro e w3 ⟨rfl, rfl⟩
        go_wp2
        go_ret2
        exact FF.out
  · have big' : 4611686018427387904 < t := by omega
    have d1 : decide (4611686018427387904 < t) = true := decide_eq_true big'
    have F : Hid (∀ w', Below w.heap.size w w' → WhenP12 w (whenN b t) (whenB b t) (.returned (.tuple #[.int .i64 0, .bool false])) w') := fun w' l => by
      have nw : ¬ t ≤ atW b 0 := by omega
      rw [(when_no nw (fun k => big k.1)).1, (when_no nw (fun k => big k.1)).2]
      exact ⟨rfl, l⟩
    clear ai ht big
    go_enter Try.func16, Try.ntmps16
    go_wp2_with fail
    refine HE.out.mono ?_; rintro e w1 ⟨rfl, l⟩
    have FF := Lib.hid (F.out _ (l.alloc l.size (.cells #[.bool true, .int .i64 b, .int .i64 s] 46)))
    clear l F
    go_wp2
    go_ret2
    exact FF.out
end Go.Proofs.Ytokhlagcflkocaa
