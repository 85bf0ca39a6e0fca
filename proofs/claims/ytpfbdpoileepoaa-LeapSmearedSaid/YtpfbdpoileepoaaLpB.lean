/- Layer 16 (leap), work ahead, the document's own: Next, Bits. -/
import Derived.Test.YtpfbdpoileepoaaLpA
set_option maxRecDepth 100000
namespace Go.Proofs.Ytpfbdpoileepoaa
open Go.ChangeShapes Go.WideShapes Go.ChangeAt Go.RowKit SmM

theorem sizeLp : (Try.prog.info? 33).map (·.size) = some 2 := by kernel_rfl
/-- A leap and one more are told. -/
theorem results_lp {fn : Func} {p u : Tmp} (h : fn.results = #[.cell p 33, .tmp u]) (tmps : Array Value) (w : World) (N : Nat) (x y : Int)
    (hp : tmps.getD p undef = .pointer (some ⟨N, 0, none⟩)) (hg : w.heap[N]? = some (.cells #[.int .i64 x, .int .i64 y] 33 (0, 0))) :
    (results fn tmps).run Try.prog w = .ok (.tuple #[.agg #[.int .i64 x, .int .i64 y], tmps.getD u undef]) w := by
  have hp' : tmps[p]?.getD undef = .pointer (some ⟨N, 0, none⟩) := by simpa using hp
  have hl : (loadVar 33 ⟨N, 0, none⟩).run Try.prog w = .ok (.agg #[.int .i64 x, .int .i64 y]) w :=
    run_loadVar_row w N _ _ _ (0, 0) _ hg Try.underlying33 rfl sizeLp
  simp [results, h, hp', asAddr, hl]
theorem blk_lp {w : World} {N : Nat} {x y : Value} {T : TypeId} (h : w.heap[N]? = some (.cells #[x, y] T (0, 0))) (a b : Value) :
    ((w.setCell ⟨N, 0, none⟩ a).setCell ⟨N, 1, none⟩ b).heap[N]? = some (.cells #[a, b] T (0, 0)) := by
  have h1 : (w.setCell ⟨N, 0, none⟩ a).heap[N]? = some (.cells #[a, y] T (0, 0)) := blk_set h
  exact blk_set h1
/-- What Next tells. -/
def NextE (l : List Lp) (t : Int) : Ending := match nextI l t with
  | some y => .returned (.tuple #[.agg #[.int .i64 y.t, .int .i64 y.k], .bool true])
  | none => .returned (.tuple #[.agg #[.int .i64 0, .int .i64 0], .bool false])
theorem next_some {l : List Lp} {i : Nat} {t : Int} (h : i < l.length) (g : t < (gl l i).t) (b : ∀ j, j < i → (gl l j).t ≤ t) : nextI l t = some (gl l i) := by
  unfold nextI
  rw [List.find?_eq_some_iff_getElem]
  refine ⟨decide_eq_true g, i, h, (gl_of h).symm, fun j hj => ?_⟩
  rw [← gl_of (by omega)]
  have := b j hj
  simp
  omega
theorem next_none {l : List Lp} {t : Int} (b : ∀ j, j < l.length → (gl l j).t ≤ t) : nextI l t = none := by
  unfold nextI
  rw [List.find?_eq_none]
  intro y hy
  obtain ⟨j, hj, rfl⟩ := List.getElem_of_mem hy
  have := b j hj
  rw [gl_of hj] at this
  simp
  omega
set_option maxHeartbeats 2000000 in
theorem rnext16 {w : World} {N : Nat} {p : Option Addr} {n c : Nat} {l : List Lp} {e b : Int} (h : RfP w N p n c l e b) (t : Int) :
    Calls Try.prog 34 #[.pointer (some ⟨N, 0, none⟩), .int .i64 t] w fun e w' => e = NextE l t ∧ Below w.heap.size w w' := by
  obtain ⟨V, hV⟩ : ∃ V, w.alloc (.cells #[.int .i64 0, .int .i64 0] 33) = V := ⟨_, rfl⟩
  have B0 : Below w.heap.size w V := by rw [← hV]; exact (Below.refl _ _).alloc (Nat.le_refl _) _
  have V0 : V.heap[w.heap.size]? = some (.cells #[.int .i64 0, .int .i64 0] 33 (0, 0)) := by rw [← hV]; exact heap_alloc_new _ _
  have h' := h.below B0
  have x0 := blk_cell (o := 0) h'.bk
  have r0 := blk_cell (o := 0) V0
  have r1 := blk_cell (o := 1) V0
  have f0 := blk_free (o := 0) V0
  have f1 := blk_free (o := 1) V0
  simp only [List.getElem?_toArray, List.getElem?_cons_zero, List.getElem?_cons_succ] at x0 r0 r1
  have HL := Lib.hid h'.row
  have LN := Lib.hid h.row.len
  have LB := Lib.hid B0
  have BV := Lib.hid V0
  have nb : (n : Int) ≤ 32 := by have := h.few; omega
  clear h h' B0 V0
  go_enter Try.func34, Try.ntmps34
  go_wp2_with fail
  clear hV
  go_loopw [6] (fun ii wr => ∃ i : Nat, ii = .int .i64 (i : Nat) ∧ Hid (i ≤ n ∧ ∀ j, j < i → (gl l j).t ≤ t) ∧ wr = V) (fun ii _ => 1000 - (intOf ii).toNat)
  case atStart => exact ⟨0, rfl, ⟨Nat.zero_le _, fun j hj => absurd hj (by omega)⟩, rfl⟩
  case round =>
    obtain ⟨i, rfl, I, rfl⟩ := hrel
    have i0 : (0 : Int) ≤ (i : Int) := by omega
    by_cases z : i < n
    · have z1 : (i : Int) < (n : Int) := by omega
      obtain ⟨a, rfl, c0, c1⟩ := HL.out.cell i z
      have il : i < l.length := by rw [LN.out]; exact z
      obtain ⟨x, hx⟩ : ∃ x, gl l i = x := ⟨_, rfl⟩
      rw [hx] at c0 c1
      have NX : Hid ((gl l i).t ≤ t → i + 1 ≤ n ∧ ∀ j, j < i + 1 → (gl l j).t ≤ t) := fun g => ⟨z, fun j hj => by
        by_cases q : j = i
        · rw [q]; exact g
        · exact I.out.2 j (by omega)⟩
      have FN : Hid (t < (gl l i).t → NextE l t = .returned (.tuple #[.agg #[.int .i64 (gl l i).t, .int .i64 (gl l i).k], .bool true])) := fun g => by
        unfold NextE
        rw [next_some il g I.out.2]
      rw [hx] at NX FN
      obtain ⟨xt, xk⟩ := x
      dsimp only at c0 c1 NX FN
      by_cases g : t < xt
      · have g1 : decide (t < xt) = true := decide_eq_true g
        have FV := Lib.hid (FN.out g)
        have L9 := Lib.hid ((LB.out.setCell (p := ⟨w.heap.size, 0, none⟩) (Nat.le_refl _) (.int .i64 xt)).setCell (p := ⟨w.heap.size, 1, none⟩) (Nat.le_refl _) (.int .i64 xk))
        have BR := Lib.hid (blk_lp BV.out (.int .i64 xt) (.int .i64 xk))
        clear z il NX FN I hx g
        go_wp2
        refine bodyPost_ret (results_lp rfl _ _ w.heap.size xt xk rfl BR.out) rfl ?_
        exact ⟨FV.out.symm, L9.out⟩
      · have g1 : decide (t < xt) = false := decide_eq_false g
        have NY := Lib.hid (NX.out (by omega))
        clear z il NX FN I hx g
        go_wp2_with fail
        go_roundw
        case rel => exact ⟨i + 1, by go_num, NY, trivial⟩
        case measure => simp [intOf]; omega
    · have z1 : (n : Int) ≤ (i : Int) := by omega
      have z2 : decide ((i : Int) < (n : Int)) = false := decide_eq_false (by omega)
      have FV : Hid (NextE l t = .returned (.tuple #[.agg #[.int .i64 0, .int .i64 0], .bool false])) := by
        unfold Hid NextE
        rw [next_none fun j hj => I.out.2 j (by have := LN.out; omega)]
      have BR := Lib.hid (blk_lp BV.out (.int .i64 0) (.int .i64 0))
      have L9 := Lib.hid ((LB.out.setCell (p := ⟨w.heap.size, 0, none⟩) (Nat.le_refl _) (.int .i64 0)).setCell (p := ⟨w.heap.size, 1, none⟩) (Nat.le_refl _) (.int .i64 0))
      clear z I
      go_wp2
      refine bodyPost_ret (results_lp rfl _ _ w.heap.size 0 0 rfl BR.out) rfl ?_
      exact ⟨FV.out.symm, L9.out⟩
end Go.Proofs.Ytpfbdpoileepoaa
