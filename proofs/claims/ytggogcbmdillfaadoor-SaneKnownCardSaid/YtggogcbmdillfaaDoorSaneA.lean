/- Layer 8 (sane): the root distance; what a code asks for: the program's and the document's own. -/
import Derived.Test.YtggogcbmdillfaaDoorSaneM
import Derived.Test.YtggogcbmdillfaaDoorStampA
import Derived.Test.YtggogcbmdillfaaDoorPack
import Derived.Test.YtggogcbmdillfaaDoorStrN
set_option maxRecDepth 100000
namespace Go.Proofs.YtggogcbmdillfaaDoor
open Go.ChangeShapes Go.WideShapes Go.ChangeAt Go.RowKit StampM SaneM

theorem pk8_cell {w : World} {N : Nat} {h : Hd} {x : Xt} (hg : w.heap[N]? = some (.cells (pkC h x) 27 (0, 0))) (i : Nat) {v : Value} (hv : (pkC h x)[i]? = some v) : w.cell? ⟨N, i, none⟩ = some v := by rw [← hv]; exact blk_cell hg
theorem pk8_keep {w w' : World} {N : Nat} {c : Array Value} {T : TypeId} (hg : w.heap[N]? = some (.cells c T (0, 0))) (b : Below w.heap.size w w') : w'.heap[N]? = some (.cells c T (0, 0)) := (b.block _ (Array.getElem?_eq_some_iff.1 hg).1).trans hg

/-- strings of any bytes. -/
theorem eql_any (w : World) (a b : ByteArray) : (eqlS (.string a) (.string b)).run Tryd.prog w = .ok (.bool (decide (a = b))) w := by
  have e : (a.toList == b.toList) = decide (a = b) := by
    rw [Bool.eq_iff_iff, decide_eq_true_iff, beq_iff_eq, ByteArray.toList_eq, ByteArray.toList_eq]
    exact ⟨fun h => ByteArray.ext (Array.ext' h), fun h => by rw [h]⟩
  unfold eqlS
  simp [go_sem]
  exact e
theorem add_any (w : World) (a b : ByteArray) (h : a.size + b.size ≤ 140737488355329) : (addS (.string a) (.string b)).run Tryd.prog w = .ok (.string (a ++ b)) w := by
  unfold addS
  simp [go_sem]
  omega

attribute [local go_sem ↓] loadP_eq storeP_eq boxP_eq allocP_eq eqlS_eq neqS_eq

theorem prho8_any (w : World) (h : Hd) (x : Xt) (h6 : h.de < 4294967296) (h7 : h.di < 4294967296) :
    Calls Tryd.prog 12 #[pkV h x] w fun e w' => e = .returned (.int .i64 (rhoN h.de h.di : Nat)) ∧ Below w.heap.size w w' := by
  have bx := box_pk h x
  have B0 : Hid ((w.alloc (.cells (pkC h x) 27)).heap[w.heap.size]? = some (.cells (pkC h x) 27 (0, 0))) := heap_alloc_new w _
  have L0 : Hid (Below w.heap.size w (w.alloc (.cells (pkC h x) 27))) := (Below.refl _ _).alloc (Nat.le_refl _) _
  have c6 := pk8_cell (v := .int .u32 (h.de : Nat)) B0.out 6 rfl
  have c7 := pk8_cell (v := .int .u32 (h.di : Nat)) B0.out 7 rfl
  have S6 := Lib.hid (fun w => shortns_any h.de h6 w)
  have S7 := Lib.hid (fun w => shortns_any h.di h7 w)
  have b6 := short_lt _ h6
  have b7 := short_lt _ h7
  have RH : Hid ((((shortN h.de : Int) + 1) / 2) + (shortN h.di : Int) = (rhoN h.de h.di : Nat)) := by unfold Hid rhoN; omega
  generalize rhoN h.de h.di = R at *
  generalize shortN h.de = D at *
  generalize shortN h.di = E at *
  clear h6 h7
  go_enter Tryd.func12, Tryd.ntmps12
  go_wp2_with fail
  refine (S6.out _).mono ?_; rintro e w1 ⟨rfl, rfl⟩
  go_wp2_with fail
  refine (S7.out _).mono ?_; rintro e w1 ⟨rfl, rfl⟩
  go_wp2
  go_ret
  exact ⟨ret_int RH.out, L0.out⟩

theorem rrho8_any (w : World) (h : Hd) (x : Xt) (h6 : h.de < 4294967296) (h7 : h.di < 4294967296) :
    Calls Tryd.prog 13 #[pkV h x] w fun e w' => e = .returned (.int .i64 (rhoN h.de h.di : Nat)) ∧ Below w.heap.size w w' := by
  have bx := box_pk h x
  have B0 : Hid ((w.alloc (.cells (pkC h x) 27)).heap[w.heap.size]? = some (.cells (pkC h x) 27 (0, 0))) := heap_alloc_new w _
  have L0 : Hid (Below w.heap.size w (w.alloc (.cells (pkC h x) 27))) := (Below.refl _ _).alloc (Nat.le_refl _) _
  have c6 := pk8_cell (v := .int .u32 (h.de : Nat)) B0.out 6 rfl
  have c7 := pk8_cell (v := .int .u32 (h.di : Nat)) B0.out 7 rfl
  have S6 := Lib.hid (fun w => ref_shortns_any h.de h6 w)
  have S7 := Lib.hid (fun w => ref_shortns_any h.di h7 w)
  have b6 := short_lt _ h6
  have b7 := short_lt _ h7
  have RH : Hid (rhoN h.de h.di = (shortN h.de + 1) / 2 + shortN h.di) := rfl
  generalize rhoN h.de h.di = R at *
  generalize shortN h.de = D at *
  generalize shortN h.di = E at *
  clear h6 h7
  obtain ⟨q, hq⟩ : ∃ q : Nat, (D : Int) / 2 = q := ⟨D / 2, by omega⟩
  have qb : q ≤ 32767999992371 := by omega
  by_cases o : D % 2 = 1
  · have r1 : (D : Int) % 2 = 1 := by omega
    have F : Hid ((q : Int) + 1 + (E : Int) = (R : Nat)) := by unfold Hid; rw [RH.out]; omega
    clear o RH
    go_enter Tryd.func13, Tryd.ntmps13
    go_wp2_with fail
    refine (S6.out _).mono ?_; rintro e w1 ⟨rfl, rfl⟩
    go_wp2_with fail
    refine (S7.out _).mono ?_; rintro e w1 ⟨rfl, rfl⟩
    go_wp2
    go_ret
    exact ⟨ret_int F.out, L0.out⟩
  · have r1 : (D : Int) % 2 = 0 := by omega
    have F : Hid ((q : Int) + (E : Int) = (R : Nat)) := by unfold Hid; rw [RH.out]; omega
    clear o RH
    go_enter Tryd.func13, Tryd.ntmps13
    go_wp2_with fail
    refine (S6.out _).mono ?_; rintro e w1 ⟨rfl, rfl⟩
    go_wp2_with fail
    refine (S7.out _).mono ?_; rintro e w1 ⟨rfl, rfl⟩
    go_wp2
    go_ret
    exact ⟨ret_int F.out, L0.out⟩

def rateS : ByteArray := ⟨#[82, 65, 84, 69]⟩
def denyS : ByteArray := ⟨#[68, 69, 78, 89]⟩
def rstrS : ByteArray := ⟨#[82, 83, 84, 82]⟩
/-- what a code asks for. -/
def actS (s : ByteArray) : Int := if s = rateS then 1 else if s = denyS ∨ s = rstrS then 2 else 0

theorem pact8_any (w : World) (s : ByteArray) :
    Calls Tryd.prog 10 #[.string s] w fun e w' => e = .returned (.int .i64 (actS s)) ∧ w' = w := by
  have E1 := fun w => eql_any w s ⟨#[82, 65, 84, 69]⟩
  have E2 := fun w => eql_any w s ⟨#[68, 69, 78, 89]⟩
  have E3 := fun w => eql_any w s ⟨#[82, 83, 84, 82]⟩
  have F : Hid (actS s = if s = ⟨#[82, 65, 84, 69]⟩ then 1 else if s = ⟨#[68, 69, 78, 89]⟩ ∨ s = ⟨#[82, 83, 84, 82]⟩ then 2 else 0) := rfl
  by_cases c1 : s = ⟨#[82, 65, 84, 69]⟩
  · rw [if_pos c1] at F
    simp only [decide_eq_true c1] at E1
    generalize actS s = r at *
    clear c1 E2 E3
    go_enter Tryd.func10, Tryd.ntmps10
    go_wp2
    go_ret
    exact ⟨ret_int F.out.symm, rfl⟩
  · rw [if_neg c1] at F
    simp only [decide_eq_false c1] at E1
    by_cases c2 : s = ⟨#[68, 69, 78, 89]⟩
    · rw [if_pos (.inl c2)] at F
      simp only [decide_eq_true c2] at E2
      generalize actS s = r at *
      clear c1 c2 E3
      go_enter Tryd.func10, Tryd.ntmps10
      go_wp2
      go_ret
      exact ⟨ret_int F.out.symm, rfl⟩
    · simp only [decide_eq_false c2] at E2
      by_cases c3 : s = ⟨#[82, 83, 84, 82]⟩
      · rw [if_pos (.inr c3)] at F
        simp only [decide_eq_true c3] at E3
        generalize actS s = r at *
        clear c1 c2 c3
        go_enter Tryd.func10, Tryd.ntmps10
        go_wp2
        go_ret
        exact ⟨ret_int F.out.symm, rfl⟩
      · rw [if_neg (fun h => h.elim c2 c3)] at F
        simp only [decide_eq_false c3] at E3
        generalize actS s = r at *
        clear c1 c2 c3
        go_enter Tryd.func10, Tryd.ntmps10
        go_wp2
        go_ret
        exact ⟨ret_int F.out.symm, rfl⟩

theorem ract8_any (w : World) (s : ByteArray) :
    Calls Tryd.prog 11 #[.string s] w fun e w' => e = .returned (.int .i64 (actS s)) ∧ w' = w := by
  have E1 := fun w => eql_any w s ⟨#[82, 65, 84, 69]⟩
  have E2 := fun w => eql_any w s ⟨#[68, 69, 78, 89]⟩
  have E3 := fun w => eql_any w s ⟨#[82, 83, 84, 82]⟩
  have F : Hid (actS s = if s = ⟨#[82, 65, 84, 69]⟩ then 1 else if s = ⟨#[68, 69, 78, 89]⟩ ∨ s = ⟨#[82, 83, 84, 82]⟩ then 2 else 0) := rfl
  by_cases c1 : s = ⟨#[82, 65, 84, 69]⟩
  · rw [if_pos c1] at F
    simp only [decide_eq_true c1] at E1
    generalize actS s = r at *
    clear c1 E2 E3
    go_enter Tryd.func11, Tryd.ntmps11
    go_wp2
    go_ret
    exact ⟨ret_int F.out.symm, rfl⟩
  · rw [if_neg c1] at F
    simp only [decide_eq_false c1] at E1
    by_cases c2 : s = ⟨#[68, 69, 78, 89]⟩
    · rw [if_pos (.inl c2)] at F
      simp only [decide_eq_true c2] at E2
      generalize actS s = r at *
      clear c1 c2 E3
      go_enter Tryd.func11, Tryd.ntmps11
      go_wp2
      go_ret
      exact ⟨ret_int F.out.symm, rfl⟩
    · simp only [decide_eq_false c2] at E2
      by_cases c3 : s = ⟨#[82, 83, 84, 82]⟩
      · rw [if_pos (.inr c3)] at F
        simp only [decide_eq_true c3] at E3
        generalize actS s = r at *
        clear c1 c2 c3
        go_enter Tryd.func11, Tryd.ntmps11
        go_wp2
        go_ret
        exact ⟨ret_int F.out.symm, rfl⟩
      · rw [if_neg (fun h => h.elim c2 c3)] at F
        simp only [decide_eq_false c3] at E3
        generalize actS s = r at *
        clear c1 c2 c3
        go_enter Tryd.func11, Tryd.ntmps11
        go_wp2
        go_ret
        exact ⟨ret_int F.out.symm, rfl⟩
end Go.Proofs.YtggogcbmdillfaaDoor
