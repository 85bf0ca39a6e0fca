/- Layer 16 (leap), work ahead, the document's own: New. -/
import Derived.Test.YtpfbdpoileepoaaLpS
import Derived.Laws.AppendOwnNone
set_option maxRecDepth 100000
namespace Go.Proofs.Ytpfbdpoileepoaa
open Go.ChangeShapes Go.WideShapes Go.ChangeAt Go.RowKit SmM

/-- What New makes: the table, its row in new memory. -/
def RfNew (w : World) (l : List Lp) (e b : Int) (r : Ending) (w' : World) : Prop := Below w.heap.size w w' ∧
  ((OkT l e b ∧ ∃ N p c, r = .returned (.tuple #[.pointer (some ⟨N, 0, none⟩), .int .i64 0]) ∧ RfP w' N p l.length c l e b ∧ w.heap.size ≤ N ∧ (p = none → c = 0) ∧ ∀ a, p = some a → w.heap.size ≤ a.block ∧ a.block ≠ N) ∨ (∃ x, NewT l e b x ∧ x ≠ 0 ∧ r = .returned (.tuple #[.pointer none, .int .i64 x])))
set_option maxHeartbeats 4000000 in
theorem rnew16 (w : World) (p : Option Addr) (n c : Nat) (l : List Lp) (h : HoldsL w p n c l) (bare : p = none → c = 0) (hi : ∀ y ∈ l, I64 y.t ∧ I64 y.k) (e b : Int) :
    Calls Try.prog 11 #[.slice p n c, .int .i64 e, .int .i64 b] w (RfNew w l e b) := by
  have RN := Lib.hid (rnew15 w p n c l h hi)
  have HL := Lib.hid h
  have LN := Lib.hid h.len
  obtain ⟨iL, hiL, hz0, hz1, hz2⟩ := infoLp_of infoLp
  clear hi
  go_enter Try.func11, Try.ntmps11
  go_wp2_with fail
  refine RN.out.mono ?_; rintro r1 w1 ⟨⟨x, rfl, hx⟩, b1⟩
  have L1 := Lib.hid b1
  clear b1 RN
  by_cases x0 : x = 0
  · subst x0
    have OK : Hid (OkL l ∧ l.length ≤ 32) := by
      rcases hx with ⟨z, -⟩ | ⟨a, ⟨-, k⟩ | ⟨z, -⟩⟩
      · omega
      · exact ⟨k, a⟩
      · omega
    have BAD : Hid (¬ OkT l e b → RfNew w l e b (.returned (.tuple #[.pointer none, .int .i64 1])) w1) := fun q => ⟨L1.out, .inr ⟨1, .inr ⟨OK.out.2, .inl ⟨rfl, q⟩⟩, by decide, rfl⟩⟩
    clear hx
    by_cases e0 : e < 0
    · have e1 : decide (e < 0) = true := decide_eq_true e0
      have F := Lib.hid (BAD.out fun q => by have := q.2.2.1.1; omega)
      clear BAD e0 h bare
      go_wp2
      go_ret2
      exact F.out
    have e1 : decide (e < 0) = false := decide_eq_false e0
    by_cases e2 : 4611686018427387904 < e
    · have e3 : decide (4611686018427387904 < e) = true := decide_eq_true e2
      have F := Lib.hid (BAD.out fun q => by have := q.2.2.1.2; unfold topI at this; omega)
      clear BAD e0 e2 h bare
      go_wp2
      go_ret2
      exact F.out
    have e3 : decide (4611686018427387904 < e) = false := decide_eq_false e2
    by_cases b0 : b < -1000
    · have b1 : decide (b < -1000) = true := decide_eq_true b0
      have F := Lib.hid (BAD.out fun q => by have := q.2.2.2.1; omega)
      clear BAD e0 e2 b0 h bare
      go_wp2
      go_ret2
      exact F.out
    have b1 : decide (b < -1000) = false := decide_eq_false b0
    by_cases b2 : 1000 < b
    · have b3 : decide (1000 < b) = true := decide_eq_true b2
      have F := Lib.hid (BAD.out fun q => by have := q.2.2.2.2; omega)
      clear BAD e0 e2 b0 b2 h bare
      go_wp2
      go_ret2
      exact F.out
    have b3 : decide (1000 < b) = false := decide_eq_false b2
    have OKT : Hid (OkT l e b) := ⟨OK.out.1, OK.out.2, ⟨by omega, by unfold topI; omega⟩, by omega, by omega⟩
    clear BAD e0 e2 b0 b2
    obtain ⟨W2, hW2⟩ : ∃ W2, w1.alloc (.cells #[.slice none 0 0, .int .i64 e, .int .i64 b] 37) = W2 := ⟨_, rfl⟩
    have A2 : Below w1.heap.size w1 W2 := by rw [← hW2]; exact (Below.refl _ _).alloc (Nat.le_refl _) _
    have T2 : W2.heap[w1.heap.size]? = some (.cells #[.slice none 0 0, .int .i64 e, .int .i64 b] 37 (0, 0)) := by rw [← hW2]; exact heap_alloc_new _ _
    have tb := (Array.getElem?_eq_some_iff.1 T2).1
    have AA := Lib.hid A2
    have TT := Lib.hid T2
    have L2 := Lib.hid (L1.out.trans (A2.mono L1.out.size))
    have t0 := blk_cell (o := 0) T2
    have f0 := blk_free (o := 0) T2
    simp only [List.getElem?_toArray, List.getElem?_cons_zero] at t0
    have NO : Hid (W2.ownsRow W2.heap.size 33 2 (.slice none 0 0) 0 []) := ⟨rfl, .inl ⟨rfl, rfl⟩⟩
    have FIN : Hid (∀ w3 v, w3.ownsRow W2.heap.size 33 2 v n (cellsL l) → Below W2.heap.size W2 w3 → (∀ p' c', v = .slice p' n c' → RfNew w l e b (.returned (.tuple #[.pointer (some ⟨w1.heap.size, 0, none⟩), .int .i64 0])) (w3.setCell ⟨w1.heap.size, 0, none⟩ (.slice p' n c')))) := fun w3 v o k p' c' hv => by
      subst hv
      have T3 := (k.block _ tb).trans T2
      refine ⟨(L2.out.trans (k.mono L2.out.size)).setCell (Nat.le_trans L1.out.size (Nat.le_refl _)) _, .inl ⟨OKT.out, w1.heap.size, p', c', rfl, ⟨?_, ?_, OKT.out.1, OKT.out.2.1, OKT.out.2.2.2⟩, L1.out.size, ?_, ?_⟩⟩
      · rw [LN.out]
        exact blk_set T3
      · rw [LN.out]
        have o' : OwnL (w3.setCell ⟨w1.heap.size, 0, none⟩ (.slice p' n c')) W2.heap.size p' n c' l := own_same o fun g hg => by
          have := (World.ownsRow.lt o g hg).1
          exact Below.heap_setCell w3 ⟨w1.heap.size, 0, none⟩ _ g (by show g ≠ w1.heap.size; omega)
        exact o'.holds
      · intro pe
        rcases o.2 with ⟨e, -⟩ | ⟨g, cap, cur, e, -⟩
        · injection e
        · injection e with e1 _ _
          rw [pe] at e1
          cases e1
      · rintro a rfl
        rcases o.2 with ⟨e, -⟩ | ⟨g, cap, cur, e, hb, -⟩
        · injection e with e1 _ _; cases e1
        · injection e with e1 _ _
          injection e1 with e1
          subst e1
          exact ⟨Nat.le_trans L2.out.size hb, by show g ≠ w1.heap.size; omega⟩
    clear A2 T2 tb
    rcases p with _ | a
    · have c0 := bare rfl
      have n0 : n = 0 := by have := h.cap; omega
      subst c0 n0
      have l0 : l = [] := List.length_eq_zero_iff.1 LN.out
      subst l0
      clear h bare
      have F := Lib.hid (FIN.out W2 (.slice none 0 0) NO.out (Below.refl _ _) none 0 rfl)
      go_wp2_with (at_builtin; clear hW2; refine wpList_append_own_none rfl _ _ 22 rfl W2.heap.size 33 iL 2 Try.underlying22 hiL (.slice none 0 0) 0 [] rfl NO.out rfl ?_)
      clear FIN NO TT AA
      go_wp2
      go_ret2
      exact F.out
    · have NW : Hid (∀ (j : Nat) (u : Value), (cellsL l)[j]? = some u → W2.cell? (a.add j) = some u) := fun j u hj => by
        have q := cells_at h rfl j u hj
        exact (L2.out.cell (World.block_lt_of_cell? w _ q)).trans q
      have LL : Hid ((cellsL l).length = n * 2) := by unfold Hid; rw [cellsL_len, LN.out]
      have ONE := Lib.hid (cellsL_one l)
      have MX : Hid (0 + n ≤ maxLen) := by have := OK.out.2; have := LN.out; unfold Hid maxLen; omega
      have BY : Hid ((0 + n) * 16 ≤ 140737488355328) := by have := OK.out.2; have := LN.out; unfold Hid; omega
      clear h bare
      go_wp2_with (at_builtin; clear hW2; refine wpList_append_own _ rfl _ _ 22 rfl W2.heap.size 33 iL (.agg #[.int .i64 0, .int .i64 0]) 2 16 Try.underlying22 hiL hz0 hz1 hz2 rfl (by decide) (.slice none 0 0) 0 [] rfl NO.out a n c (cellsL l) rfl LL.out NW.out ONE.out MX.out BY.out (Nat.le_refl _) ?_)
      intro v w3 o g m
      have B3 : Below W2.heap.size W2 w3 := (Below.refl _ _).grown g (Nat.le_refl _) (fun j hj => (World.ownsRow.lt NO.out j hj).1)
      have o3 : w3.ownsRow W2.heap.size 33 2 v n (cellsL l) := o
      obtain ⟨p4, c4, rfl⟩ := own_slice o3
      have F := Lib.hid (FIN.out w3 _ o3 B3 p4 c4 rfl)
      have T3 := (B3.block _ (Array.getElem?_eq_some_iff.1 TT.out).1).trans TT.out
      have t3 := blk_cell (o := 0) T3
      have f3 := blk_free (o := 0) T3
      simp only [List.getElem?_toArray, List.getElem?_cons_zero] at t3
      clear o g m o3 B3 FIN NO TT AA T3 t0 f0 NW LL ONE
      go_wp2
      go_ret2
      exact F.out
  · have x1 : (x != 0) = true := by rw [bne_iff_ne]; exact x0
    have F : Hid (RfNew w l e b (.returned (.tuple #[.pointer none, .int .i64 x])) w1) := by
      refine ⟨L1.out, .inr ⟨x, ?_, x0, rfl⟩⟩
      rcases hx with ⟨z, q⟩ | ⟨a, ⟨z, k⟩ | ⟨z, k⟩⟩
      · exact .inl ⟨z, q⟩
      · exact absurd z x0
      · exact .inr ⟨a, .inl ⟨z, fun q => k q.1⟩⟩
    clear hx x0 h bare
    go_wp2
    go_ret2
    exact F.out
end Go.Proofs.Ytpfbdpoileepoaa
