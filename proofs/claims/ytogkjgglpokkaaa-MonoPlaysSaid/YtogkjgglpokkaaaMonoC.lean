/- Layer 11 (mono): SetRate, Go. -/
import Derived.Test.YtogkjgglpokkaaaMonoB
set_option maxRecDepth 100000
namespace Go.Proofs.Ytogkjgglpokkaaa
open Go.ChangeShapes Go.WideShapes Go.ChangeAt Go.RowKit MonoM

/-- What SetRate tells, and what it makes. -/
def rateE (s : Int) : Int := if s < -500000 ∨ 500000 < s then 1 else 0
def rateX (x : Mo) (s : Int) : Mo := if s < -500000 ∨ 500000 < s then x else ⟨x.raw, x.mono, s, x.rest, x.full⟩
theorem rate_no (x : Mo) {s : Int} (h : s < -500000 ∨ 500000 < s) : rateE s = 1 ∧ rateX x s = x := by unfold rateE rateX; rw [if_pos h, if_pos h]; exact ⟨rfl, rfl⟩
theorem rate_yes (x : Mo) {s : Int} (h0 : -500000 ≤ s) (h1 : s ≤ 500000) : rateE s = 0 ∧ rateX x s = ⟨x.raw, x.mono, s, x.rest, x.full⟩ := by
  unfold rateE rateX
  rw [if_neg (by omega), if_neg (by omega)]
  exact ⟨rfl, rfl⟩
theorem rate_ok {x : Mo} (ok : x.Ok) (s : Int) : (rateX x s).Ok := by
  by_cases h : s < -500000 ∨ 500000 < s
  · rw [(rate_no x h).2]; exact ok
  · rw [(rate_yes x (by omega) (by omega)).2]
    exact ⟨ok.r0, ok.r1, ok.m0, ok.m1, by show -500000 ≤ s; omega, by show s ≤ 500000; omega, ok.e0, ok.e1⟩

def SetP11 (w : World) (N : Nat) (x : Mo) (e : Int) (r : Ending) (w' : World) : Prop := r = .returned (.int .i64 e) ∧ Clk w' N x ∧ Turn N w w'

theorem psetrate11_any (w : World) (N : Nat) (x : Mo) (s : Int) (c : Clk w N x) :
    Calls Try.prog 13 #[.pointer (some ⟨N, 0, none⟩), .int .i64 s] w (SetP11 w N (rateX x s) (rateE s)) := by
  have HE := Lib.hid (pheld11_any w N x c)
  have CC := Lib.hid c
  have FB := fun a b c d e f w => field11_0 a b c d e f w
  by_cases h : s < -500000 ∨ 500000 < s
  · have F : Hid (∀ w', Below w.heap.size w w' → SetP11 w N (rateX x s) (rateE s) (.returned (.int .i64 1)) w') := fun w' b => by
      rw [(rate_no x h).1, (rate_no x h).2]
      exact ⟨rfl, CC.out.below b, Turn.of_below b⟩
    obtain ⟨raw, mono, rate, rest, full⟩ := x
    rw [moV_of] at HE
    clear c
    rcases h with h | h
    · go_enter Try.func13, Try.ntmps13
      go_wp2_with fail
      refine HE.out.mono ?_; rintro e w1 ⟨rfl, l⟩
      have L := Lib.hid l
      clear l
      go_wp2
      go_ret
      exact F.out _ L.out
    · have h2 : -500000 ≤ s := by omega
      go_enter Try.func13, Try.ntmps13
      go_wp2_with fail
      refine HE.out.mono ?_; rintro e w1 ⟨rfl, l⟩
      have L := Lib.hid l
      clear l
      go_wp2
      go_ret
      exact F.out _ L.out
  · have h0 : -500000 ≤ s := by omega
    have h1 : s ≤ 500000 := by omega
    have F : Hid (∀ w', w'.heap[N]? = some (.cells #[.bool true, .int .i64 x.raw, .int .i64 x.mono, .int .i64 s, .int .i64 x.rest, .bool x.full] 49 (0, 0)) → Turn N w w' → SetP11 w N (rateX x s) (rateE s) (.returned (.int .i64 0)) w') := fun w' a b => by
      rw [(rate_yes x h0 h1).1, (rate_yes x h0 h1).2]
      exact ⟨rfl, a, b⟩
    obtain ⟨raw, mono, rate, rest, full⟩ := x
    rw [moV_of] at HE
    dsimp only at F
    clear c h
    go_enter Try.func13, Try.ntmps13
    go_wp2_with fail
    refine HE.out.mono ?_; rintro e w1 ⟨rfl, l⟩
    have K1 := Lib.hid (CC.out.below l).cells
    have FF := Lib.hid (F.out _ (blk_set (o := 3) (u := .int .i64 s) K1.out) ((Turn.of_below l).set (o := 3) (.int .i64 s)))
    have F3 := blk_free (o := 3) K1.out
    have C3 := blk_cell (o := 3) K1.out
    simp only [List.getElem?_toArray, List.getElem?_cons_zero, List.getElem?_cons_succ] at C3
    clear l F CC
    go_wp2
    go_ret
    exact FF.out
theorem psetrate11_none (w : World) (s : Int) :
    Calls Try.prog 13 #[.pointer none, .int .i64 s] w fun r w' => r = .returned (.int .i64 2) ∧ Below w.heap.size w w' := by
  have HE := Lib.hid (pheld11_none w)
  have FB := fun a b c d e f w => field11_0 a b c d e f w
  unfold noneV at HE
  go_enter Try.func13, Try.ntmps13
  go_wp2_with fail
  refine HE.out.mono ?_; rintro e w1 ⟨rfl, l⟩
  have L := Lib.hid l
  clear l
  go_wp2
  go_ret
  exact ⟨rfl, L.out⟩

/-- What Go tells, and what it makes. -/
def badD (d : Int) : Prop := d < 0 ∨ 1125899906842624 < d
instance (d : Int) : Decidable (badD d) := inferInstanceAs (Decidable (_ ∨ _))
def goX (x : Mo) (d : Int) : Mo := if badD d then x else x.after d
def goE (x : Mo) (d : Int) : Int := if badD d then 1 else if (x.after d).full then 7 else 0
def goN (x : Mo) (d : Int) : Int := if badD d then 0 else if (x.after d).full then 0 else (x.after d).mono - x.mono
theorem go_no (x : Mo) {d : Int} (h : badD d) : goX x d = x ∧ goE x d = 1 ∧ goN x d = 0 := by unfold goX goE goN; rw [if_pos h, if_pos h, if_pos h]; exact ⟨rfl, rfl, rfl⟩
theorem go_full (x : Mo) {d : Int} (h : ¬ badD d) (f : (x.after d).full = true) : goX x d = x.after d ∧ goE x d = 7 ∧ goN x d = 0 := by unfold goX goE goN; rw [if_neg h, if_neg h, if_neg h, if_pos f, if_pos f]; exact ⟨rfl, rfl, rfl⟩
theorem go_yes (x : Mo) {d : Int} (h : ¬ badD d) (f : (x.after d).full = false) : goX x d = x.after d ∧ goE x d = 0 ∧ goN x d = (x.after d).mono - x.mono := by unfold goX goE goN; rw [if_neg h, if_neg h, if_neg h, f]; exact ⟨rfl, rfl, rfl⟩
theorem go_ok {x : Mo} (ok : x.Ok) (d : Int) : (goX x d).Ok := by
  by_cases h : badD d
  · rw [(go_no x h).1]; exact ok
  · unfold goX
    rw [if_neg h]
    exact Mo.after_ok ok (by unfold badD at h; omega)

def GoP11 (w : World) (N : Nat) (x : Mo) (n e : Int) (r : Ending) (w' : World) : Prop := r = .returned (.tuple #[.int .i64 n, .int .i64 e]) ∧ Clk w' N x ∧ Turn N w w'

set_option maxHeartbeats 1000000 in
theorem pgo11_any (w : World) (N : Nat) (x : Mo) (d : Int) (c : Clk w N x) (ok : x.Ok) :
    Calls Try.prog 11 #[.pointer (some ⟨N, 0, none⟩), .int .i64 d] w (GoP11 w N (goX x d) (goN x d) (goE x d)) := by
  have HE := Lib.hid (pheld11_any w N x c)
  have CC := Lib.hid c
  by_cases h : badD d
  · have F : Hid (∀ w', Below w.heap.size w w' → GoP11 w N (goX x d) (goN x d) (goE x d) (.returned (.tuple #[.int .i64 0, .int .i64 1])) w') := fun w' b => by
      rw [(go_no x h).1, (go_no x h).2.1, (go_no x h).2.2]
      exact ⟨rfl, CC.out.below b, Turn.of_below b⟩
    obtain ⟨raw, mono, rate, rest, full⟩ := x
    rw [moV_of] at HE
    clear c ok
    unfold badD at h
    rcases h with h | h
    · go_enter Try.func11, Try.ntmps11
      go_wp2_with fail
      refine HE.out.mono ?_; rintro e w1 ⟨rfl, l⟩
      have L := Lib.hid (l.alloc l.size (.cells #[.bool true, .int .i64 raw, .int .i64 mono, .int .i64 rate, .int .i64 rest, .bool full] 49))
      clear l
      go_wp2
      go_ret2
      exact F.out _ L.out
    · have h2 : 0 ≤ d := by omega
      go_enter Try.func11, Try.ntmps11
      go_wp2_with fail
      refine HE.out.mono ?_; rintro e w1 ⟨rfl, l⟩
      have L := Lib.hid (l.alloc l.size (.cells #[.bool true, .int .i64 raw, .int .i64 mono, .int .i64 rate, .int .i64 rest, .bool full] 49))
      clear l
      go_wp2
      go_ret2
      exact F.out _ L.out
  · have h0 : 0 ≤ d := by unfold badD at h; omega
    have h1 : d ≤ 1125899906842624 := by unfold badD at h; omega
    have AF := Lib.hid (fun w' => pafter11_any w' x d ok h0 h1)
    have gf := fun f => go_full x h f
    have gy := fun f => go_yes x h f
    have a0 := (Mo.after_ok ok h0).m0
    have a1 := (Mo.after_ok ok h0).m1
    have b0 := ok.m0
    have b1 := ok.m1
    obtain ⟨y, hy⟩ : ∃ y, x.after d = y := ⟨_, rfl⟩
    rw [hy] at gf gy a0 a1
    simp only [hy] at AF
    have F : Hid (∀ w', Clk w' N y → Turn N w w' → (y.full = true → GoP11 w N (goX x d) (goN x d) (goE x d) (.returned (.tuple #[.int .i64 0, .int .i64 7])) w') ∧ (y.full = false → GoP11 w N (goX x d) (goN x d) (goE x d) (.returned (.tuple #[.int .i64 (y.mono - x.mono), .int .i64 0])) w')) := fun w' a b => by
      constructor
      · intro f
        rw [(gf f).1, (gf f).2.1, (gf f).2.2]
        exact ⟨rfl, a, b⟩
      · intro f
        rw [(gy f).1, (gy f).2.1, (gy f).2.2]
        exact ⟨rfl, a, b⟩
    obtain ⟨raw, mono, rate, rest, full⟩ := x
    obtain ⟨raw', mono', rate', rest', full'⟩ := y
    simp only [moV_of] at AF
    rw [moV_of] at HE
    dsimp only at F a0 a1 b0 b1
    obtain ⟨n, hn⟩ : ∃ n, mono' - mono = n := ⟨_, rfl⟩
    rw [hn] at F
    have w1 : wrap64 n = n := by unfold wrap64; omega
    have w2 : IntKind.i64.wrap n = n := by rw [IntKind.wrap_i64]; omega
    clear c ok h gf gy hy a0 a1 b0 b1
    go_enter Try.func11, Try.ntmps11
    go_wp2_with fail
    refine HE.out.mono ?_; rintro e w1 ⟨rfl, l⟩
    have R1 : Hid ((w1.alloc (.cells #[.bool true, .int .i64 raw, .int .i64 mono, .int .i64 rate, .int .i64 rest, .bool full] 49)).heap[w1.heap.size]? = some (.cells #[.bool true, .int .i64 raw, .int .i64 mono, .int .i64 rate, .int .i64 rest, .bool full] 49 (0, 0))) := heap_alloc_new _ _
    have L := Lib.hid (l.alloc l.size (.cells #[.bool true, .int .i64 raw, .int .i64 mono, .int .i64 rate, .int .i64 rest, .bool full] 49))
    have NE : N ≠ w1.heap.size := by have := CC.out.lt; have := l.size; omega
    clear l
    go_wp2_with fail
    generalize w1.alloc (.cells #[.bool true, .int .i64 raw, .int .i64 mono, .int .i64 rate, .int .i64 rest, .bool full] 49) = v at *
    refine (AF.out v).mono ?_; rintro e v2 ⟨rfl, l⟩
    have R2 : Hid (v2.heap[w1.heap.size]? = some (.cells #[.bool true, .int .i64 raw, .int .i64 mono, .int .i64 rate, .int .i64 rest, .bool full] 49 (0, 0))) := (l.block _ (Array.getElem?_eq_some_iff.1 R1.out).1).trans R1.out
    have L2 := Lib.hid (L.out.trans (l.mono L.out.size))
    have K1 := Lib.hid (CC.out.below L2.out).cells
    have T3 := Lib.hid (((((((Turn.of_below (N := N) L2.out).set (o := 0) (.bool true)).set (o := 1) (.int .i64 raw')).set (o := 2) (.int .i64 mono')).set (o := 3) (.int .i64 rate')).set (o := 4) (.int .i64 rest')).set (o := 5) (.bool full'))
    have R3 : Hid (((((((v2.setCell ⟨N, 0, none⟩ (.bool true)).setCell ⟨N, 1, none⟩ (.int .i64 raw')).setCell ⟨N, 2, none⟩ (.int .i64 mono')).setCell ⟨N, 3, none⟩ (.int .i64 rate')).setCell ⟨N, 4, none⟩ (.int .i64 rest')).setCell ⟨N, 5, none⟩ (.bool full')).heap[w1.heap.size]? = some (.cells #[.bool true, .int .i64 raw, .int .i64 mono, .int .i64 rate, .int .i64 rest, .bool full] 49 (0, 0))) := (three_other _ (Ne.symm NE) _ _ _ _ _ _).trans ((three_other _ (Ne.symm NE) _ _ _ _ _ _).trans R2.out)
    have KN := Lib.hid (six_set K1.out (.bool true) (.int .i64 raw') (.int .i64 mono') (.int .i64 rate') (.int .i64 rest') (.bool full'))
    have E0 := blk_free (o := 0) K1.out
    have E1 := blk_free (o := 1) K1.out
    have E2 := blk_free (o := 2) K1.out
    have E3 := blk_free (o := 3) K1.out
    have E4 := blk_free (o := 4) K1.out
    have E5 := blk_free (o := 5) K1.out
    have D0 := blk_cell (o := 0) K1.out
    have D1 := blk_cell (o := 1) K1.out
    have D2 := blk_cell (o := 2) K1.out
    have D3 := blk_cell (o := 3) K1.out
    have D4 := blk_cell (o := 4) K1.out
    have D5 := blk_cell (o := 5) K1.out
    simp only [List.getElem?_toArray, List.getElem?_cons_zero, List.getElem?_cons_succ] at D0 D1 D2 D3 D4 D5
    clear l AF R1 L CC HE
    go_upto_region 7 with (fail)
    generalize (((((v2.setCell ⟨N, 0, none⟩ (.bool true)).setCell ⟨N, 1, none⟩ (.int .i64 raw')).setCell ⟨N, 2, none⟩ (.int .i64 mono')).setCell ⟨N, 3, none⟩ (.int .i64 rate')).setCell ⟨N, 4, none⟩ (.int .i64 rest')).setCell ⟨N, 5, none⟩ (.bool full') = v3 at *
    clear D0 D1 D2 D3 D4 D5 E0 E1 E2 E3 E4 E5 K1 R2 L2
    have D2 := blk_cell (o := 2) KN.out
    have D5 := blk_cell (o := 5) KN.out
    have G2 := blk_cell (o := 2) R3.out
    simp only [List.getElem?_toArray, List.getElem?_cons_zero, List.getElem?_cons_succ] at D2 D5 G2
    cases full'
    · go_wp2_with fail
      go_quiet (fail)
      go_wp2
      go_ret2
      exact (F.out (v3.drewN _) KN.out (T3.out.drewN _)).2 (by trivial)
    · go_wp2
      go_ret2
      exact (F.out _ KN.out T3.out).1 (by trivial)
theorem pgo11_none (w : World) (d : Int) :
    Calls Try.prog 11 #[.pointer none, .int .i64 d] w fun r w' => r = .returned (.tuple #[.int .i64 0, .int .i64 2]) ∧ Below w.heap.size w w' := by
  have HE := Lib.hid (pheld11_none w)
  unfold noneV at HE
  go_enter Try.func11, Try.ntmps11
  go_wp2_with fail
  refine HE.out.mono ?_; rintro e w1 ⟨rfl, l⟩
  have L := Lib.hid (l.alloc l.size (.cells #[.bool false, .int .i64 0, .int .i64 0, .int .i64 0, .int .i64 0, .bool false] 49))
  clear l
  go_wp2
  go_ret2
  exact ⟨rfl, L.out⟩
end Go.Proofs.Ytogkjgglpokkaaa
