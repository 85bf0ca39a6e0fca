/- Layer 16 (leap), the program's: a table as it lies; held; the closures that tell what counts; the first of the leaps that a closure tells. -/
import Derived.Test.YtpfbdpoileepoaaLpS
import Derived.BigRegion
import Derived.BigQuiet
set_option maxRecDepth 100000
namespace Go.Proofs.Ytpfbdpoileepoaa
open Go.ChangeShapes Go.WideShapes Go.ChangeAt Go.RowKit SmM

theorem sizeTb : (Try.prog.info? 67).map (·.size) = some 4 := by kernel_rfl
/-- A table is told, from a cell. -/
theorem results_tb {fn : Func} {q : Tmp} (h : fn.results = #[.cell q 67]) (tmps : Array Value) (w : World) (N : Nat) (m : Bool) (p : Option Addr) (n c : Nat) (e b : Int)
    (hp : tmps.getD q undef = .pointer (some ⟨N, 0, none⟩)) (hg : w.heap[N]? = some (.cells #[.bool m, .slice p n c, .int .i64 e, .int .i64 b] 67 (0, 0))) :
    (results fn tmps).run Try.prog w = .ok (.agg #[.bool m, .slice p n c, .int .i64 e, .int .i64 b]) w := by
  have hp' : tmps[q]?.getD undef = .pointer (some ⟨N, 0, none⟩) := by simpa using hp
  have hl : (loadVar 67 ⟨N, 0, none⟩).run Try.prog w = .ok (.agg #[.bool m, .slice p n c, .int .i64 e, .int .i64 b]) w :=
    run_loadVar_row w N _ _ _ (0, 0) _ hg Try.underlying67 rfl sizeTb
  simp [results, h, hp', asAddr, hl]
theorem blk_tb {w : World} {N : Nat} {x0 x1 x2 x3 : Value} {T : TypeId} (h : w.heap[N]? = some (.cells #[x0, x1, x2, x3] T (0, 0))) (a b c d : Value) :
    ((((w.setCell ⟨N, 0, none⟩ a).setCell ⟨N, 1, none⟩ b).setCell ⟨N, 2, none⟩ c).setCell ⟨N, 3, none⟩ d).heap[N]? = some (.cells #[a, b, c, d] T (0, 0)) := by
  have h1 : (w.setCell ⟨N, 0, none⟩ a).heap[N]? = some (.cells #[a, x1, x2, x3] T (0, 0)) := blk_set h
  have h2 : ((w.setCell ⟨N, 0, none⟩ a).setCell ⟨N, 1, none⟩ b).heap[N]? = some (.cells #[a, b, x2, x3] T (0, 0)) := blk_set h1
  have h3 : (((w.setCell ⟨N, 0, none⟩ a).setCell ⟨N, 1, none⟩ b).setCell ⟨N, 2, none⟩ c).heap[N]? = some (.cells #[a, b, c, x3] T (0, 0)) := blk_set h2
  exact blk_set h3
set_option maxHeartbeats 2000000 in
theorem pheld16 {w : World} {N : Nat} {m : Bool} {p : Option Addr} {n c : Nat} {e b : Int} (h : w.heap[N]? = some (.cells #[.bool m, .slice p n c, .int .i64 e, .int .i64 b] 67 (0, 0))) :
    Calls Try.prog 38 #[.pointer (some ⟨N, 0, none⟩)] w fun r w' => r = .returned (.agg #[.bool m, .slice p n c, .int .i64 e, .int .i64 b]) ∧ Below w.heap.size w w' := by
  obtain ⟨V, hV⟩ : ∃ V, w.alloc (.cells #[.bool false, .slice none 0 0, .int .i64 0, .int .i64 0] 67) = V := ⟨_, rfl⟩
  have B0 : Below w.heap.size w V := by rw [← hV]; exact (Below.refl _ _).alloc (Nat.le_refl _) _
  have V0 : V.heap[w.heap.size]? = some (.cells #[.bool false, .slice none 0 0, .int .i64 0, .int .i64 0] 67 (0, 0)) := by rw [← hV]; exact heap_alloc_new _ _
  have h' : V.heap[N]? = some (.cells #[.bool m, .slice p n c, .int .i64 e, .int .i64 b] 67 (0, 0)) := (B0.block _ (Array.getElem?_eq_some_iff.1 h).1).trans h
  have x0 := blk_cell (o := 0) h'
  have x1 := blk_cell (o := 1) h'
  have x2 := blk_cell (o := 2) h'
  have x3 := blk_cell (o := 3) h'
  have r0 := blk_cell (o := 0) V0
  have r1 := blk_cell (o := 1) V0
  have r2 := blk_cell (o := 2) V0
  have r3 := blk_cell (o := 3) V0
  have f0 := blk_free (o := 0) V0
  have f1 := blk_free (o := 1) V0
  have f2 := blk_free (o := 2) V0
  have f3 := blk_free (o := 3) V0
  simp only [List.getElem?_toArray, List.getElem?_cons_zero, List.getElem?_cons_succ] at x0 x1 x2 x3 r0 r1 r2 r3
  have BR := Lib.hid (blk_tb V0 (.bool m) (.slice p n c) (.int .i64 e) (.int .i64 b))
  have L9 := Lib.hid ((((B0.setCell (p := ⟨w.heap.size, 0, none⟩) (Nat.le_refl _) (.bool m)).setCell (p := ⟨w.heap.size, 1, none⟩) (Nat.le_refl _) (.slice p n c)).setCell (p := ⟨w.heap.size, 2, none⟩) (Nat.le_refl _) (.int .i64 e)).setCell (p := ⟨w.heap.size, 3, none⟩) (Nat.le_refl _) (.int .i64 b))
  clear h h' B0 V0
  go_enter Try.func38, Try.ntmps38
  go_wp2
  refine bodyPost_ret (results_tb rfl _ _ w.heap.size m p n c e b rfl BR.out) rfl ?_
  exact ⟨rfl, L9.out⟩
set_option maxHeartbeats 2000000 in
theorem pheld16_none (w : World) : Calls Try.prog 38 #[.pointer none] w fun r w' => r = .returned (.agg #[.bool false, .slice none 0 0, .int .i64 0, .int .i64 0]) ∧ Below w.heap.size w w' := by
  obtain ⟨V, hV⟩ : ∃ V, w.alloc (.cells #[.bool false, .slice none 0 0, .int .i64 0, .int .i64 0] 67) = V := ⟨_, rfl⟩
  have B0 : Below w.heap.size w V := by rw [← hV]; exact (Below.refl _ _).alloc (Nat.le_refl _) _
  have V0 : V.heap[w.heap.size]? = some (.cells #[.bool false, .slice none 0 0, .int .i64 0, .int .i64 0] 67 (0, 0)) := by rw [← hV]; exact heap_alloc_new _ _
  have r0 := blk_cell (o := 0) V0
  have r1 := blk_cell (o := 1) V0
  have r2 := blk_cell (o := 2) V0
  have r3 := blk_cell (o := 3) V0
  have f0 := blk_free (o := 0) V0
  have f1 := blk_free (o := 1) V0
  have f2 := blk_free (o := 2) V0
  have f3 := blk_free (o := 3) V0
  simp only [List.getElem?_toArray, List.getElem?_cons_zero, List.getElem?_cons_succ] at r0 r1 r2 r3
  have BR := Lib.hid (blk_tb V0 (.bool false) (.slice none 0 0) (.int .i64 0) (.int .i64 0))
  have L9 := Lib.hid ((((B0.setCell (p := ⟨w.heap.size, 0, none⟩) (Nat.le_refl _) (.bool false)).setCell (p := ⟨w.heap.size, 1, none⟩) (Nat.le_refl _) (.slice none 0 0)).setCell (p := ⟨w.heap.size, 2, none⟩) (Nat.le_refl _) (.int .i64 0)).setCell (p := ⟨w.heap.size, 3, none⟩) (Nat.le_refl _) (.int .i64 0))
  clear B0 V0
  go_enter Try.func38, Try.ntmps38
  go_wp2
  refine bodyPost_ret (results_tb rfl _ _ w.heap.size false none 0 0 0 0 rfl BR.out) rfl ?_
  exact ⟨rfl, L9.out⟩
/-- A pointer whose table lies so: one that New made; one that it did not make, or none, without anything. -/
structure HasT (w : World) (P : Option Addr) (m : Bool) (p : Option Addr) (n c : Nat) (l : List Lp) (e b : Int) : Prop where
  held : ∀ w', Below w.heap.size w w' → Calls Try.prog 38 #[.pointer P] w' fun r w'' => r = .returned (.agg #[.bool m, .slice p n c, .int .i64 e, .int .i64 b]) ∧ Below w'.heap.size w' w''
  row : HoldsL w p n c l
  ok : OkL l
  few : n ≤ 32
  bb : -1000 ≤ b ∧ b ≤ 1000
  off : m = false → l = [] ∧ b = 0
theorem HasT.below {w w' : World} {P : Option Addr} {m : Bool} {p : Option Addr} {n c : Nat} {l : List Lp} {e b : Int} (h : HasT w P m p n c l e b) (k : Below w.heap.size w w') : HasT w' P m p n c l e b :=
  ⟨fun w'' j => h.held w'' (k.trans (j.mono k.size)), h.row.below k, h.ok, h.few, h.bb, h.off⟩

/-! ### What counts -/
def BoxT (w : World) (B : Nat) (t : Int) : Prop := w.heap[B]? = some (.cells #[.int .i64 t] 2 (0, 0))
theorem BoxT.below {w w' : World} {B : Nat} {t : Int} (h : BoxT w B t) (k : Below w.heap.size w w') : BoxT w' B t := (k.block _ (Array.getElem?_eq_some_iff.1 h).1).trans h
theorem BoxT.cell {w : World} {B : Nat} {t : Int} (h : BoxT w B t) : w.cell? ⟨B, 0, none⟩ = some (.int .i64 t) := blk_cell h
theorem BoxT.new (w : World) (t : Int) : BoxT (w.alloc (.cells #[.int .i64 t] 2)) w.heap.size t := heap_alloc_new _ _
theorem pcount16 (w : World) (y : Lp) (B : Nat) (t : Int) (h : BoxT w B t) : Calls Try.prog 46 #[.agg #[.int .i64 y.t, .int .i64 y.k], .pointer (some ⟨B, 0, none⟩)] w fun r w' => r = .returned (.bool (decide (y.t ≤ t))) ∧ Below w.heap.size w w' := by
  obtain ⟨yt, yk⟩ := y
  dsimp only
  have L0 := Lib.hid ((Below.refl w.heap.size w).alloc (Nat.le_refl _) (.cells #[.int .i64 yt, .int .i64 yk] 33))
  have x0 := (h.below L0.out).cell
  clear h
  go_enter Try.func46, Try.ntmps46
  go_wp2
  go_ret
  exact ⟨rfl, L0.out⟩
theorem pbehind16 (w : World) (y : Lp) (B : Nat) (t : Int) (h : BoxT w B t) : Calls Try.prog 48 #[.agg #[.int .i64 y.t, .int .i64 y.k], .pointer (some ⟨B, 0, none⟩)] w fun r w' => r = .returned (.bool (decide (t < y.t))) ∧ Below w.heap.size w w' := by
  obtain ⟨yt, yk⟩ := y
  dsimp only
  have L0 := Lib.hid ((Below.refl w.heap.size w).alloc (Nat.le_refl _) (.cells #[.int .i64 yt, .int .i64 yk] 33))
  have x0 := (h.below L0.out).cell
  clear h
  go_enter Try.func48, Try.ntmps48
  go_wp2
  go_ret
  exact ⟨rfl, L0.out⟩
theorem pinsert16 (w : World) (y : Lp) (B : Nat) (t : Int) (h : BoxT w B t) (hy : dayI ≤ y.t ∧ y.t ≤ topI) : Calls Try.prog 40 #[.agg #[.int .i64 y.t, .int .i64 y.k], .pointer (some ⟨B, 0, none⟩)] w fun r w' => r = .returned (.bool (insX t y)) ∧ Below w.heap.size w w' := by
  obtain ⟨yt, yk⟩ := y
  unfold insX
  unfold dayI topI at hy
  dsimp only at hy ⊢
  have L0 := Lib.hid ((Below.refl w.heap.size w).alloc (Nat.le_refl _) (.cells #[.int .i64 yt, .int .i64 yk] 33))
  have x0 := (h.below L0.out).cell
  obtain ⟨u, hu⟩ : ∃ u, yt + 1000000000 = u := ⟨_, rfl⟩
  rw [hu]
  obtain ⟨w1, w2⟩ := wr16 (x := u) (by unfold I64; omega)
  clear h hy
  by_cases k1 : yk = 1
  · have k2 : (yk == 1) = true := by rw [beq_iff_eq]; exact k1
    rw [decide_eq_true k1, Bool.true_and]
    clear k1
    by_cases g1 : yt ≤ t
    · have g2 : decide (yt ≤ t) = true := decide_eq_true g1
      rw [g2, Bool.true_and]
      clear g1
      go_enter Try.func40, Try.ntmps40
      go_wp2
      go_ret
      exact ⟨rfl, L0.out⟩
    · have g2 : decide (yt ≤ t) = false := decide_eq_false g1
      rw [g2, Bool.false_and]
      clear g1
      go_enter Try.func40, Try.ntmps40
      go_wp2
      go_ret
      exact ⟨rfl, L0.out⟩
  · have k2 : (yk == 1) = false := by rw [beq_eq_false_iff_ne]; exact k1
    rw [decide_eq_false k1, Bool.false_and]
    go_enter Try.func40, Try.ntmps40
    go_wp2
    go_ret
    exact ⟨rfl, L0.out⟩

/-! ### The first that a closure tells -/
def FirstQ (l : List Lp) (n : Nat) (q : Lp → Bool) (e : Ending) : Prop := (∃ i : Nat, i < n ∧ q (gl l i) = true ∧ (∀ j, j < i → q (gl l j) = false) ∧ e = .returned (.int .i64 (i : Nat))) ∨ ((∀ j, j < n → q (gl l j) = false) ∧ e = .returned (.int .i64 (-1)))
set_option maxHeartbeats 4000000 in
theorem pindex16 (w : World) (p : Option Addr) (n c : Nat) (l : List Lp) (h : HoldsL w p n c l) (few : n ≤ 32) (g : FuncId) (B : Nat) (q : Lp → Bool)
    (hg : ∀ args w, (callFunc g args).run Try.prog w = .ok (.enter g args) w)
    (hs : ∀ w' y, Below w.heap.size w w' → y ∈ l → Calls Try.prog g #[.agg #[.int .i64 y.t, .int .i64 y.k], .pointer (some ⟨B, 0, none⟩)] w' fun r w'' => r = .returned (.bool (q y)) ∧ Below w'.heap.size w' w'') :
    Calls Try.prog 47 #[.slice p n c, .func (.func g) #[] #[.pointer (some ⟨B, 0, none⟩)]] w fun e w' => FirstQ l n q e ∧ Below w.heap.size w w' := by
  have HL := Lib.hid h
  have LN := Lib.hid h.len
  have HS := Lib.hid hs
  have nb : (n : Int) ≤ 32 := by omega
  clear h hs few
  go_enter Try.func47, Try.ntmps47
  go_wp2_with fail
  go_loopw [8] (fun ii wr => ∃ i : Nat, ii = .int .i64 (i : Nat) ∧ Hid (i ≤ n ∧ ∀ j, j < i → q (gl l j) = false) ∧ Hid (Below w.heap.size w wr)) (fun ii _ => 1000 - (intOf ii).toNat)
  case atStart => exact ⟨0, rfl, ⟨Nat.zero_le _, fun j hj => absurd hj (Nat.not_lt_zero _)⟩, Below.refl _ _⟩
  case round =>
    obtain ⟨i, rfl, I, L⟩ := hrel
    have i0 : (0 : Int) ≤ (i : Int) := by omega
    have i32 : (i : Int) ≤ 32 := by have := I.out.1; omega
    by_cases z : i < n
    · have z1 : (i : Int) < (n : Int) := by omega
      obtain ⟨a, rfl, c0, c1⟩ := (HL.out.below L.out).cell i z
      have il : i < l.length := by rw [LN.out]; exact z
      have S := Lib.hid (HS.out wr (gl l i) L.out (gl_mem il))
      have NX : Hid (q (gl l i) = false → i + 1 ≤ n ∧ ∀ j, j < i + 1 → q (gl l j) = false) := fun e => ⟨z, fun j hj => by
        by_cases k : j = i
        · rw [k]; exact e
        · exact I.out.2 j (by omega)⟩
      have FN : Hid (q (gl l i) = true → FirstQ l n q (.returned (.int .i64 (i : Nat)))) := fun e => .inl ⟨i, z, e, I.out.2, rfl⟩
      generalize hx : gl l i = x at *
      generalize hd : q x = d at *
      obtain ⟨xt, xk⟩ := x
      dsimp only at c0 c1 S
      clear z il I hx hd
      go_wp2_with fail
      refine S.out.mono ?_; rintro r w7 ⟨rfl, b7⟩
      have L7 := Lib.hid (L.out.trans (b7.mono L.out.size))
      clear S b7 L c0 c1
      cases d
      · have NY := Lib.hid (NX.out rfl)
        clear NX FN
        go_wp2_with fail
        go_roundw
        case rel => exact ⟨i + 1, by go_num, NY, L7⟩
        case measure => simp [intOf]; omega
      · have FY := Lib.hid (FN.out rfl)
        clear NX FN
        go_wp2
        go_ret
        exact ⟨FY.out, L7.out⟩
    · have z1 : (n : Int) ≤ (i : Int) := by omega
      have z2 : decide ((i : Int) < (n : Int)) = false := decide_eq_false (by omega)
      have FN : Hid (FirstQ l n q (.returned (.int .i64 (-1)))) := .inr ⟨fun j hj => I.out.2 j (by omega), rfl⟩
      clear z I
      go_wp2
      go_ret
      exact ⟨FN.out, L.out⟩
theorem first_any {l : List Lp} {n : Nat} {q : Lp → Bool} {e : Ending} (hl : l.length = n) (h : FirstQ l n q e) : ∃ z : Int, e = .returned (.int .i64 z) ∧ decide (0 ≤ z) = l.any q := by
  rcases h with ⟨i, hi, qi, -, rfl⟩ | ⟨no, rfl⟩
  · refine ⟨_, rfl, ?_⟩
    rw [decide_eq_true (by omega), eq_comm, List.any_eq_true]
    exact ⟨_, gl_mem (by omega), qi⟩
  · refine ⟨_, rfl, ?_⟩
    rw [decide_eq_false (by decide), eq_comm, List.any_eq_false]
    intro y hy
    obtain ⟨j, hj, rfl⟩ := List.getElem_of_mem hy
    have := no j (by omega)
    rw [gl_of hj] at this
    simp [this]
theorem pcontains16 (w : World) (p : Option Addr) (n c : Nat) (l : List Lp) (h : HoldsL w p n c l) (few : n ≤ 32) (g : FuncId) (B : Nat) (q : Lp → Bool)
    (hg : ∀ args w, (callFunc g args).run Try.prog w = .ok (.enter g args) w)
    (hs : ∀ w' y, Below w.heap.size w w' → y ∈ l → Calls Try.prog g #[.agg #[.int .i64 y.t, .int .i64 y.k], .pointer (some ⟨B, 0, none⟩)] w' fun r w'' => r = .returned (.bool (q y)) ∧ Below w'.heap.size w' w'') :
    Calls Try.prog 42 #[.slice p n c, .func (.func g) #[] #[.pointer (some ⟨B, 0, none⟩)]] w fun e w' => e = .returned (.bool (l.any q)) ∧ Below w.heap.size w w' := by
  have PI := Lib.hid (pindex16 w p n c l h few g B q hg hs)
  have LN := Lib.hid h.len
  clear h hs
  go_enter Try.func42, Try.ntmps42
  go_wp2_with fail
  refine PI.out.mono ?_; rintro e w1 ⟨f1, b1⟩
  obtain ⟨z, rfl, hz⟩ := first_any LN.out f1
  have L1 := Lib.hid b1
  have HZ := Lib.hid hz
  clear f1 b1 PI hz
  go_wp2
  go_ret
  rw [← HZ.out]
  exact ⟨rfl, L1.out⟩
end Go.Proofs.Ytpfbdpoileepoaa
