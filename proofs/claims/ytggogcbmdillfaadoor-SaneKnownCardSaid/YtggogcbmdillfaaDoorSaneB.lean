/- Layer 8 (sane): the program's Test: what is asked as closures in an array; the document's own. -/
import Derived.Test.YtggogcbmdillfaaDoorSaneA
set_option maxRecDepth 100000
namespace Go.Proofs.YtggogcbmdillfaaDoor
open Go.ChangeShapes Go.WideShapes Go.ChangeAt Go.RowKit StampM SaneM

def quC (N : Nat) : Array Value := #[.func (.func 27) #[] #[.pointer (some ⟨N, 0, none⟩)], .func (.func 29) #[] #[.pointer (some ⟨N, 0, none⟩)], .func (.func 30) #[] #[.pointer (some ⟨N, 0, none⟩)]]
def quV (N : Nat) : Value := .agg (quC N)
/-- A whole array of three functions is stored: under a name that a walk does not open. -/
def storeQ (a v : Value) : Sem Unit := Instr.storeAt 48 a v
theorem storeQ_eq (a v : Value) : Instr.storeAt 48 a v = storeQ a v := rfl
theorem size_qu : (Tryd.prog.info? 48).map (·.size) = some 3 := by kernel_rfl
theorem store_qu (w : World) (N : Nat) (old : Array Value) (ho : old.size = 3) : (storeQ (.pointer (some ⟨w.heap.size, 0, none⟩)) (quV N)).run Tryd.prog (w.alloc (.cells old 48)) = .ok () (w.alloc (.cells (quC N) 48)) := by
  unfold storeQ quV
  simp only [Instr.storeAt, Instr.sureAddr, Sem.run_bind, Sem.run_pure, Result.andThen]
  exact run_storeVar_new w _ old (quC N) size_qu ho (by simp [quC, Value.oneCell'])
theorem results_qu {fn : Func} {p : Tmp} (h : fn.results = #[.cell p 48]) (tmps : Array Value) (w : World) (M N : Nat)
    (hp : tmps.getD p undef = .pointer (some ⟨M, 0, none⟩)) (hg : w.heap[M]? = some (.cells (quC N) 48 (0, 0))) :
    (results fn tmps).run Tryd.prog w = .ok (quV N) w := by
  have hp' : tmps[p]?.getD undef = .pointer (some ⟨M, 0, none⟩) := by simpa using hp
  have hl : (loadVar 48 ⟨M, 0, none⟩).run Tryd.prog w = .ok (quV N) w := run_loadVar_row w M _ _ (quC N) (0, 0) _ hg Tryd.underlying48 rfl size_qu
  simp [results, h, hp', asAddr, hl]
theorem qu_0 (N : Nat) (w : World) : (Instr.index 48 (quV N) (.int .i64 0)).run Tryd.prog w = .ok (.func (.func 27) #[] #[.pointer (some ⟨N, 0, none⟩)]) w := by
  unfold quV quC
  simp [Instr.index, go_sem]
theorem qu_1 (N : Nat) (w : World) : (Instr.index 48 (quV N) (.int .i64 1)).run Tryd.prog w = .ok (.func (.func 29) #[] #[.pointer (some ⟨N, 0, none⟩)]) w := by
  unfold quV quC
  simp [Instr.index, go_sem]
theorem qu_2 (N : Nat) (w : World) : (Instr.index 48 (quV N) (.int .i64 2)).run Tryd.prog w = .ok (.func (.func 30) #[] #[.pointer (some ⟨N, 0, none⟩)]) w := by
  unfold quV quC
  simp [Instr.index, go_sem]

attribute [local go_sem ↓] loadP_eq storeP_eq boxP_eq allocP_eq storeQ_eq

theorem pquestions8_any (w : World) (h : Hd) (x : Xt) :
    Calls Tryd.prog 22 #[pkV h x] w fun e w' => e = .returned (quV w.heap.size) ∧ w'.heap[w.heap.size]? = some (.cells (pkC h x) 27 (0, 0)) ∧ Below w.heap.size w w' := by
  have bx := box_pk h x
  have SD : ∀ old : Array Value, old.size = 3 → (storeQ (.pointer (some ⟨w.heap.size + 1, 0, none⟩)) (.agg #[.func (.func 27) #[] #[.pointer (some ⟨w.heap.size, 0, none⟩)], .func (.func 29) #[] #[.pointer (some ⟨w.heap.size, 0, none⟩)], .func (.func 30) #[] #[.pointer (some ⟨w.heap.size, 0, none⟩)]])).run Tryd.prog ((w.alloc (.cells (pkC h x) 27)).alloc (.cells old 48)) = .ok () ((w.alloc (.cells (pkC h x) 27)).alloc (.cells (quC w.heap.size) 48)) := fun old ho => by
    have := store_qu (w.alloc (.cells (pkC h x) 27)) w.heap.size old ho
    simpa [quV, quC] using this
  have B1 : Hid (((w.alloc (.cells (pkC h x) 27)).alloc (.cells (quC w.heap.size) 48)).heap[w.heap.size]? = some (.cells (pkC h x) 27 (0, 0))) := heap_alloc2_old w _ _
  have B2 : Hid (((w.alloc (.cells (pkC h x) 27)).alloc (.cells (quC w.heap.size) 48)).heap[w.heap.size + 1]? = some (.cells (quC w.heap.size) 48 (0, 0))) := heap_alloc2_new w _ _
  have L0 : Hid (Below w.heap.size w ((w.alloc (.cells (pkC h x) 27)).alloc (.cells (quC w.heap.size) 48))) := ((Below.refl _ _).alloc (Nat.le_refl _) _).alloc (by simp) _
  go_enter Tryd.func22, Tryd.ntmps22
  go_wp2
  (try simp only [Exit.inBlock, Exit.then])
  refine bodyPost_ret (results_qu rfl _ _ (w.heap.size + 1) w.heap.size rfl B2.out) rfl ?_
  exact ⟨rfl, B1.out, L0.out⟩

theorem pwhen8_any (w : World) (b : Bool) (e : Int) :
    Calls Tryd.prog 28 #[.bool b, .int .i64 e] w fun r w' => r = .returned (.int .i64 (if b = true then e else 0)) ∧ w' = w := by
  cases b
  all_goals
    go_enter Tryd.func28, Tryd.ntmps28
    go_wp2
    go_ret
    exact ⟨rfl, rfl⟩

theorem deaf_iff (lp st rc xm R : Nat) (b : Bool) (h : b = true ↔ deaf lp st rc xm R) : Ending.returned (.bool b) = .returned (.bool (decide (deaf lp st rc xm R))) := by
  refine ret_bool ?_
  rw [Bool.eq_iff_iff, h, decide_eq_true_iff]

theorem punsure8_any (w : World) (h : Hd) (x : Xt) (h6 : h.de < 4294967296) (h7 : h.di < 4294967296) :
    Calls Tryd.prog 31 #[pkV h x] w fun e w' => e = .returned (.bool (decide (deaf h.lp h.st h.rc h.xm (rhoN h.de h.di)))) ∧ Below w.heap.size w w' := by
  have bx := box_pk h x
  have B0 : Hid ((w.alloc (.cells (pkC h x) 27)).heap[w.heap.size]? = some (.cells (pkC h x) 27 (0, 0))) := heap_alloc_new w _
  have L0 : Hid (Below w.heap.size w (w.alloc (.cells (pkC h x) 27))) := (Below.refl _ _).alloc (Nat.le_refl _) _
  have LD := load_pk B0.out
  have c0 := pk8_cell (v := .int .u8 (h.lp : Nat)) B0.out 0 rfl
  have c3 := pk8_cell (v := .int .u8 (h.st : Nat)) B0.out 3 rfl
  have c11 := pk8_cell (v := .int .u64 (h.rc : Nat)) B0.out 11 rfl
  have c12 := pk8_cell (v := .int .u64 (h.xm : Nat)) B0.out 12 rfl
  have RH := Lib.hid (fun w => prho8_any w h x h6 h7)
  have RB := rho_lt h6 h7
  have DT : Hid (h.lp = 3 ∨ 15 < h.st ∨ h.rc = 0 ∨ h.xm = 0 ∨ 16000000000 < rhoN h.de h.di → decide (deaf h.lp h.st h.rc h.xm (rhoN h.de h.di)) = true) := fun q => decide_eq_true q
  have DN : Hid (¬ (h.lp = 3 ∨ 15 < h.st ∨ h.rc = 0 ∨ h.xm = 0 ∨ 16000000000 < rhoN h.de h.di) → decide (deaf h.lp h.st h.rc h.xm (rhoN h.de h.di)) = false) := fun q => decide_eq_false q
  generalize decide (deaf h.lp h.st h.rc h.xm (rhoN h.de h.di)) = r at *
  generalize rhoN h.de h.di = R at *
  generalize h.lp = lp at *
  generalize h.st = st at *
  generalize h.rc = rc at *
  generalize h.xm = xm at *
  clear h6 h7
  by_cases e0 : lp = 3
  · have i0 : (lp : Int) = 3 := by omega
    have F := Lib.hid (DT.out (.inl e0))
    clear DT DN e0
    go_enter Tryd.func31, Tryd.ntmps31
    go_wp2
    go_ret
    exact ⟨ret_bool F.out.symm, L0.out⟩
  have i0 : ¬ (lp : Int) = 3 := by omega
  by_cases e1 : 15 < st
  · have i1 : 15 < (st : Int) := by omega
    have F := Lib.hid (DT.out (.inr (.inl e1)))
    clear DT DN e0 e1
    go_enter Tryd.func31, Tryd.ntmps31
    go_wp2
    go_ret
    exact ⟨ret_bool F.out.symm, L0.out⟩
  have i1 : ¬ 15 < (st : Int) := by omega
  by_cases e2 : rc = 0
  · have F := Lib.hid (DT.out (.inr (.inr (.inl e2))))
    subst e2
    clear DT DN e0 e1
    go_enter Tryd.func31, Tryd.ntmps31
    go_wp2
    go_ret
    exact ⟨ret_bool F.out.symm, L0.out⟩
  have i2 : ¬ (rc : Int) = 0 := by omega
  by_cases e3 : xm = 0
  · have F := Lib.hid (DT.out (.inr (.inr (.inr (.inl e3)))))
    subst e3
    clear DT DN e0 e1 e2
    go_enter Tryd.func31, Tryd.ntmps31
    go_wp2
    go_ret
    exact ⟨ret_bool F.out.symm, L0.out⟩
  have i3 : ¬ (xm : Int) = 0 := by omega
  by_cases e4 : 16000000000 < R
  · have i4 : 16000000000 < (R : Int) := by omega
    have F := Lib.hid (DT.out (.inr (.inr (.inr (.inr e4)))))
    clear DT DN e0 e1 e2 e3 e4
    go_enter Tryd.func31, Tryd.ntmps31
    go_wp2_with fail
    refine (RH.out _).mono ?_; rintro e w1 ⟨rfl, l1⟩
    have LF : Hid (Below w.heap.size w w1) := L0.out.trans (l1.mono L0.out.size)
    clear l1
    go_wp2
    go_ret
    exact ⟨ret_bool F.out.symm, LF.out⟩
  have i4 : ¬ 16000000000 < (R : Int) := by omega
  have F := Lib.hid (DN.out (by omega))
  clear DT DN e0 e1 e2 e3 e4
  go_enter Tryd.func31, Tryd.ntmps31
  go_wp2_with fail
  refine (RH.out _).mono ?_; rintro e w1 ⟨rfl, l1⟩
  have LF : Hid (Below w.heap.size w w1) := L0.out.trans (l1.mono L0.out.size)
  clear l1
  go_wp2
  go_ret
  refine ⟨ret_bool (Eq.trans ?_ F.out.symm), LF.out⟩
  simp
  omega

/-- what each question answers, by the box that it looks at. -/
theorem pq1_any (w : World) (N : Nat) (h : Hd) (x : Xt) (hg : w.heap[N]? = some (.cells (pkC h x) 27 (0, 0))) :
    Calls Tryd.prog 27 #[.pointer (some ⟨N, 0, none⟩)] w fun e w' => e = .returned (.int .i64 (if h.mo ≠ 4 then 22 else 0)) ∧ w' = w := by
  have c2 := pk8_cell (v := .int .u8 (h.mo : Nat)) hg 2 rfl
  have W := Lib.hid (pwhen8_any w)
  clear hg
  by_cases e : h.mo = 4
  · rw [if_neg (fun k => k e)]
    have i : (h.mo : Int) = 4 := by omega
    clear e
    generalize h.mo = m at *
    go_enter Tryd.func27, Tryd.ntmps27
    go_wp2_with fail
    refine (W.out _ _).mono ?_; rintro e w1 ⟨rfl, rfl⟩
    go_wp2
    go_ret
    exact ⟨rfl, rfl⟩
  · rw [if_pos e]
    have i : ¬ (h.mo : Int) = 4 := by omega
    clear e
    generalize h.mo = m at *
    go_enter Tryd.func27, Tryd.ntmps27
    go_wp2_with fail
    refine (W.out _ _).mono ?_; rintro e w1 ⟨rfl, rfl⟩
    go_wp2
    go_ret
    exact ⟨rfl, rfl⟩
theorem pq2_any (w : World) (N : Nat) (h : Hd) (x : Xt) (hg : w.heap[N]? = some (.cells (pkC h x) 27 (0, 0))) :
    Calls Tryd.prog 29 #[.pointer (some ⟨N, 0, none⟩)] w fun e w' => e = .returned (.int .i64 (if h.st = 0 then 23 else 0)) ∧ w' = w := by
  have c2 := pk8_cell (v := .int .u8 (h.st : Nat)) hg 3 rfl
  have W := Lib.hid (pwhen8_any w)
  clear hg
  by_cases e : h.st = 0
  · rw [if_pos e]
    have i : (h.st : Int) = 0 := by omega
    clear e
    generalize h.st = m at *
    go_enter Tryd.func29, Tryd.ntmps29
    go_wp2_with fail
    refine (W.out _ _).mono ?_; rintro e w1 ⟨rfl, rfl⟩
    go_wp2
    go_ret
    exact ⟨rfl, rfl⟩
  · rw [if_neg e]
    have i : ¬ (h.st : Int) = 0 := by omega
    clear e
    generalize h.st = m at *
    go_enter Tryd.func29, Tryd.ntmps29
    go_wp2_with fail
    refine (W.out _ _).mono ?_; rintro e w1 ⟨rfl, rfl⟩
    go_wp2
    go_ret
    exact ⟨rfl, rfl⟩
theorem pq3_any (w : World) (N : Nat) (h : Hd) (x : Xt) (h6 : h.de < 4294967296) (h7 : h.di < 4294967296) (hg : w.heap[N]? = some (.cells (pkC h x) 27 (0, 0))) :
    Calls Tryd.prog 30 #[.pointer (some ⟨N, 0, none⟩)] w fun e w' => e = .returned (.int .i64 (if deaf h.lp h.st h.rc h.xm (rhoN h.de h.di) then 24 else 0)) ∧ Below w.heap.size w w' := by
  have LD := load_pk hg
  have W := Lib.hid (fun w => pwhen8_any w)
  have U := Lib.hid (fun w => punsure8_any w h x h6 h7)
  have E : Hid ((if decide (deaf h.lp h.st h.rc h.xm (rhoN h.de h.di)) = true then (24 : Int) else 0) = if deaf h.lp h.st h.rc h.xm (rhoN h.de h.di) then 24 else 0) := by unfold Hid; simp
  rw [← E.out]
  clear E hg
  generalize decide (deaf h.lp h.st h.rc h.xm (rhoN h.de h.di)) = b at *
  cases b
  all_goals
    go_enter Tryd.func30, Tryd.ntmps30
    go_wp2_with fail
    refine (U.out _).mono ?_; rintro e w1 ⟨rfl, l1⟩
    have L1 := Lib.hid l1
    clear l1
    go_wp2_with fail
    refine (W.out _ _ _).mono ?_; rintro e w2 ⟨rfl, rfl⟩
    go_wp2
    go_ret
    exact ⟨rfl, L1.out⟩
end Go.Proofs.YtggogcbmdillfaaDoor
