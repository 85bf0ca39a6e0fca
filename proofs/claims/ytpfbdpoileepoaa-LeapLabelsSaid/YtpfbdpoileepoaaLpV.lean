/- Layer 16 (leap), the program's: what Even asks of an instant (a closure), Even. -/
import Derived.Test.YtpfbdpoileepoaaLpU
set_option maxRecDepth 100000
namespace Go.Proofs.Ytpfbdpoileepoaa
open Go.ChangeShapes Go.WideShapes Go.ChangeAt Go.RowKit SmM

/-- What is asked: a table, a label, inserted or not, each in its box. -/
structure AskE (w : World) (X Y Z : Nat) (P : Option Addr) (q : Int) (i : Bool) : Prop where
  x : w.heap[X]? = some (.cells #[.pointer P] 24 (0, 0))
  y : BoxT w Y q
  z : w.heap[Z]? = some (.cells #[.bool i] 4 (0, 0))
theorem AskE.below {w w' : World} {X Y Z : Nat} {P : Option Addr} {q : Int} {i : Bool} (h : AskE w X Y Z P q i) (k : Below w.heap.size w w') : AskE w' X Y Z P q i :=
  ⟨(k.block _ (Array.getElem?_eq_some_iff.1 h.x).1).trans h.x, h.y.below k, (k.block _ (Array.getElem?_eq_some_iff.1 h.z).1).trans h.z⟩
theorem AskE.cells {w : World} {X Y Z : Nat} {P : Option Addr} {q : Int} {i : Bool} (h : AskE w X Y Z P q i) : w.cell? ⟨X, 0, none⟩ = some (.pointer P) ∧ w.cell? ⟨Y, 0, none⟩ = some (.int .i64 q) ∧ w.cell? ⟨Z, 0, none⟩ = some (.bool i) :=
  ⟨blk_cell h.x, h.y.cell, blk_cell h.z⟩
set_option maxHeartbeats 4000000 in
theorem phas16 {w : World} {P : Option Addr} {p : Option Addr} {n c : Nat} {l : List Lp} {e b : Int} (h : HasT w P true p n c l e b) {X Y Z : Nat} {q : Int} {i : Bool} (a : AskE w X Y Z P q i) (t : Int) (ht : I64 (labI l b t)) :
    Calls Try.prog 43 #[.int .i64 t, .pointer (some ⟨X, 0, none⟩), .pointer (some ⟨Y, 0, none⟩), .pointer (some ⟨Z, 0, none⟩)] w fun r w' => (∃ d : Bool, r = .returned (.bool d) ∧ (d = true ↔ CandP l b q i t)) ∧ Below w.heap.size w w' := by
  have LA := Lib.hid (plab16 h t ht)
  have IS := Lib.hid (fun w' => pinstant16 w' t)
  have AK := Lib.hid a
  have x0 := a.cells.1
  obtain ⟨r, hr⟩ : ∃ r, labI l b t = r := ⟨_, rfl⟩
  obtain ⟨j, hj⟩ : ∃ j, insB l t = j := ⟨_, rfl⟩
  obtain ⟨s, hs⟩ : ∃ s, decide (0 ≤ t ∧ t ≤ topI) = s := ⟨_, rfl⟩
  have YES : Hid (s = true → r = q → j = i → ∃ d : Bool, Ending.returned (.bool true) = .returned (.bool d) ∧ (d = true ↔ CandP l b q i t)) := fun a1 a2 a3 => by
    rw [a1] at hs
    have := of_decide_eq_true hs
    exact ⟨true, rfl, fun _ => ⟨this.1, this.2, hr.trans a2, hj.trans a3⟩, fun _ => rfl⟩
  have NO : Hid (¬ (s = true ∧ r = q ∧ j = i) → ∃ d : Bool, Ending.returned (.bool false) = .returned (.bool d) ∧ (d = true ↔ CandP l b q i t)) := fun g =>
    ⟨false, rfl, fun f => (by cases f), fun f => absurd ⟨by rw [← hs]; exact decide_eq_true ⟨f.1, f.2.1⟩, hr.symm.trans f.2.2.1, hj.symm.trans f.2.2.2⟩ g⟩
  rw [hr, hj] at LA
  rw [hs] at IS
  clear h a ht hr hj hs
  go_enter Try.func43, Try.ntmps43
  go_wp2_with fail
  refine LA.out.mono ?_; rintro e1 w1 ⟨rfl, b1⟩
  have y0 := (AK.out.below b1).cells.2.1
  have z0 := (AK.out.below b1).cells.2.2
  have L1 := Lib.hid b1
  clear LA AK b1 x0
  go_wp2_with fail
  refine (IS.out _).mono ?_; rintro e2 w2 ⟨rfl, hw⟩
  obtain rfl := hw.symm
  clear IS
  cases s
  · have F := Lib.hid (NO.out fun g => (by cases g.1))
    clear NO YES
    go_wp2
    go_ret
    exact ⟨F.out, L1.out⟩
  · by_cases q1 : r = q
    · have q2 : (r == q) = true := by rw [beq_iff_eq]; exact q1
      by_cases q3 : j = i
      · have q4 : (j == i) = true := by rw [beq_iff_eq]; exact q3
        have F := Lib.hid (YES.out rfl q1 q3)
        clear NO YES q1 q3
        go_wp2
        go_ret
        exact ⟨F.out, L1.out⟩
      · have q4 : (j == i) = false := by rw [beq_eq_false_iff_ne]; exact q3
        have F := Lib.hid (NO.out fun g => q3 g.2.2)
        clear NO YES q1
        go_wp2
        go_ret
        exact ⟨F.out, L1.out⟩
    · have q2 : (r == q) = false := by rw [beq_eq_false_iff_ne]; exact q1
      have F := Lib.hid (NO.out fun g => q1 g.2.1)
      clear NO YES
      go_wp2
      go_ret
      exact ⟨F.out, L1.out⟩
/-- What Even tells: that it was found, that none is. -/
theorem even_yes {l : List Lp} {b q t : Int} {i : Bool} (ok : OkL l) (h : CandP l b q i t) : EvenP l b q i t true :=
  .inl ⟨rfl, h.1, h.2.1, h.2.2.1, h.2.2.2, fun u _ u1 k => by have := lab_inj ok b (k.2.trans h.2.2.2.symm) (k.1.trans h.2.2.1.symm); omega⟩
theorem even_no {l : List Lp} {b q : Int} {i : Bool} (ok : OkL l) (h : ∀ j, j < l.length + 1 → ¬ CandP l b q i (q + (b + sumK (l.take j)) * 1000000000)) : EvenP l b q i 0 false :=
  .inr ⟨rfl, rfl, fun u u0 u1 k => by
    obtain ⟨j, hj, e⟩ := kinds_front ok.2 u
    refine h j (by omega) ?_
    have : u = q + (b + sumK (l.take j)) * 1000000000 := by
      have := k.1
      unfold labI offI at this
      rw [← e]
      omega
    rw [← this]
    exact ⟨u0, u1, k.1, k.2⟩⟩
theorem ask_new (w : World) (P : Option Addr) (q : Int) (i : Bool) : AskE (((w.alloc (.cells #[.pointer P] 24)).alloc (.cells #[.int .i64 q] 2)).alloc (.cells #[.bool i] 4)) w.heap.size (w.heap.size + 1) (w.heap.size + 1 + 1) P q i ∧
    Below w.heap.size w (((w.alloc (.cells #[.pointer P] 24)).alloc (.cells #[.int .i64 q] 2)).alloc (.cells #[.bool i] 4)) := by
  have B1 : Below w.heap.size w (w.alloc (.cells #[.pointer P] 24)) := (Below.refl _ _).alloc (Nat.le_refl _) _
  have X1 := heap_alloc_new w (.cells #[.pointer P] 24)
  have s1 := sz_alloc w (.cells #[.pointer P] 24)
  generalize w.alloc (.cells #[.pointer P] 24) = V1 at *
  have B2 : Below V1.heap.size V1 (V1.alloc (.cells #[.int .i64 q] 2)) := (Below.refl _ _).alloc (Nat.le_refl _) _
  have X2 := heap_alloc_new V1 (.cells #[.int .i64 q] 2)
  have s2 := sz_alloc V1 (.cells #[.int .i64 q] 2)
  generalize V1.alloc (.cells #[.int .i64 q] 2) = V2 at *
  have B3 : Below V2.heap.size V2 (V2.alloc (.cells #[.bool i] 4)) := (Below.refl _ _).alloc (Nat.le_refl _) _
  have X3 := heap_alloc_new V2 (.cells #[.bool i] 4)
  rw [s1] at X2 s2
  rw [s2] at X3
  refine ⟨⟨?_, ?_, X3⟩, B1.trans ((B2.trans (B3.mono B2.size)).mono B1.size)⟩
  · exact (B3.block _ (by omega)).trans ((B2.block _ (by omega)).trans X1)
  · exact (B3.block _ (by omega)).trans X2
set_option maxHeartbeats 8000000 in
theorem peven16 {w : World} {P : Option Addr} {p : Option Addr} {n c : Nat} {l : List Lp} {e b : Int} (h : HasT w P true p n c l e b) (q : Int) (i : Bool) (hq : -4611700000000000000 ≤ q ∧ q ≤ 4611700000000000000) :
    Calls Try.prog 22 #[.pointer P, .int .i64 q, .bool i] w fun r w' => (∃ t b', r = .returned (.tuple #[.int .i64 t, .bool b']) ∧ EvenP l b q i t b') ∧ Below w.heap.size w w' := by
  have HT := Lib.hid h
  have HQ := Lib.hid hq
  have LN := Lib.hid h.row.len
  have BB := Lib.hid h.bb
  have OB := Lib.hid (off_bound h.ok (by rw [h.row.len]; exact h.few) h.bb)
  have nb : (n : Int) ≤ 32 := by have := h.few; omega
  obtain ⟨AN, BN⟩ := ask_new w P q i
  obtain ⟨V, hV⟩ : ∃ V, ((w.alloc (.cells #[.pointer P] 24)).alloc (.cells #[.int .i64 q] 2)).alloc (.cells #[.bool i] 4) = V := ⟨_, rfl⟩
  rw [hV] at AN BN
  have AK := Lib.hid AN
  have L0 := Lib.hid BN
  have HE := Lib.hid (h.held V BN)
  obtain ⟨Y, hY⟩ : ∃ Y, w.heap.size + 1 = Y := ⟨_, rfl⟩
  obtain ⟨Z, hZ⟩ : ∃ Z, Y + 1 = Z := ⟨_, rfl⟩
  rw [hY, hZ] at AK
  have x0 := AK.out.cells.1
  clear h hq AN BN
  go_enter Try.func22, Try.ntmps22
  go_wp2_with fail
  clear hV hY hZ x0
  refine HE.out.mono ?_; rintro e1 w3 ⟨rfl, b3⟩
  have k4 := b3.alloc b3.size (.cells #[.bool true, .slice p n c, .int .i64 e, .int .i64 b] 67)
  have Y4 := heap_alloc_new w3 (.cells #[.bool true, .slice p n c, .int .i64 e, .int .i64 b] 67)
  obtain ⟨W4, hW4⟩ : ∃ W4, w3.alloc (.cells #[.bool true, .slice p n c, .int .i64 e, .int .i64 b] 67) = W4 := ⟨_, rfl⟩
  rw [hW4] at k4 Y4
  have L4 := Lib.hid (L0.out.trans (k4.mono L0.out.size))
  have A4 := Lib.hid (AK.out.below k4)
  have y0 := blk_cell (o := 0) Y4
  have y1 := blk_cell (o := 1) Y4
  have y2 := blk_cell (o := 2) Y4
  have y3 := blk_cell (o := 3) Y4
  simp only [List.getElem?_toArray, List.getElem?_cons_zero, List.getElem?_cons_succ] at y0 y1 y2 y3
  have OF := Lib.hid (poffs16 W4 true p n c l e b (HT.out.row.below L4.out) HT.out.ok HT.out.few HT.out.bb)
  clear HE b3 k4 Y4 AK L0
  go_wp2_with fail
  clear hW4 y0 y1 y2 y3
  refine OF.out.mono ?_; rintro e2 w5 ⟨q5, d5, rfl, h5, b5⟩
  have L5 := Lib.hid (L4.out.trans (b5.mono L4.out.size))
  have A5 := Lib.hid (A4.out.below b5)
  have H5 := Lib.hid h5
  obtain ⟨n1, hn1⟩ : ∃ n1, n + 1 = n1 := ⟨_, rfl⟩
  have HN := Lib.hid hn1
  rw [hn1] at H5 ⊢
  have nb1 : (n1 : Int) ≤ 33 := by omega
  have EY : Hid (∀ t, CandP l b q i t → EvenP l b q i t true) := fun t k => even_yes HT.out.ok k
  have EN : Hid ((∀ j, j < n1 → ¬ CandP l b q i (q + (b + sumK (l.take j)) * 1000000000)) → EvenP l b q i 0 false) := fun k => even_no HT.out.ok fun j hj => k j (by have := LN.out; have := HN.out; omega)
  clear h5 b5 OF L4 A4 hn1
  go_wp2_with fail
  go_loopw [22] (fun ii wr => ∃ k : Nat, ii = .int .i64 (k : Nat) ∧ Hid (k ≤ n1 ∧ ∀ j, j < k → ¬ CandP l b q i (q + (b + sumK (l.take j)) * 1000000000)) ∧ Hid (Below w5.heap.size w5 wr)) (fun ii _ => 1000 - (intOf ii).toNat)
  case atStart => exact ⟨0, rfl, ⟨Nat.zero_le _, fun j hj => absurd hj (Nat.not_lt_zero _)⟩, Below.refl _ _⟩
  case round =>
    obtain ⟨k, rfl, I, L⟩ := hrel
    have k0 : (0 : Int) ≤ (k : Int) := by omega
    have k33 : (k : Int) ≤ 33 := by have := I.out.1; omega
    have LW := Lib.hid (L5.out.trans (L.out.mono L5.out.size))
    by_cases z : k < n1
    · have z1 : (k : Int) < (n1 : Int) := by omega
      obtain ⟨a, rfl, cz⟩ := (H5.out.below L.out).atI z
      rw [offF_get z] at cz
      have sb := sumK_in HT.out.ok k
      have ll := LN.out
      have bb := BB.out
      have hq := HQ.out
      have NX : Hid (¬ CandP l b q i (q + (b + sumK (l.take k)) * 1000000000) → k + 1 ≤ n1 ∧ ∀ j, j < k + 1 → ¬ CandP l b q i (q + (b + sumK (l.take j)) * 1000000000)) := fun g => ⟨z, fun j hj => by
        by_cases e : j = k
        · rw [e]; exact g
        · exact I.out.2 j (by omega)⟩
      obtain ⟨o, ho⟩ : ∃ o, b + sumK (l.take k) = o := ⟨_, rfl⟩
      rw [ho] at cz NX
      obtain ⟨s, hs⟩ : ∃ s, o * 1000000000 = s := ⟨_, rfl⟩
      rw [hs] at NX
      obtain ⟨t, ht⟩ : ∃ t, q + s = t := ⟨_, rfl⟩
      rw [ht] at NX
      have tb := OB.out t
      have TI : I64 (labI l b t) := by unfold labI I64; omega
      obtain ⟨w1, w2⟩ := wr16 (x := t) (by unfold I64; omega)
      have SE : Hid (∀ w', Calls Try.prog 41 #[.int .i64 o] w' fun r w'' => r = .returned (.int .i64 s) ∧ w'' = w') := fun w' => pseconds16 w' o s hs (by unfold I64; omega)
      have AW := Lib.hid (A5.out.below L.out)
      have SC : Hid (∀ w', Below wr.heap.size wr w' → w'.cell? ⟨Y, 0, none⟩ = some (.int .i64 q)) := fun w' j => (AW.out.below j).cells.2.1
      have PH : Hid (∀ w', Below wr.heap.size wr w' → Calls Try.prog 43 #[.int .i64 t, .pointer (some ⟨w.heap.size, 0, none⟩), .pointer (some ⟨Y, 0, none⟩), .pointer (some ⟨Z, 0, none⟩)] w' fun r w'' => (∃ d : Bool, r = .returned (.bool d) ∧ (d = true ↔ CandP l b q i t)) ∧ Below w'.heap.size w' w'') := fun w' j =>
        phas16 (HT.out.below (LW.out.trans (j.mono LW.out.size))) (AW.out.below j) t TI
      have HB0 : Below wr.heap.size wr wr.drew := (Below.refl _ _).drew
      clear z I sb ll bb hq ho hs tb TI AW
      go_wp2_with fail
      refine wp_region_held_drew (S := fun w' => w'.cell? ⟨Y, 0, none⟩ = some (.int .i64 q)) (by kernel_rfl) (SC.out _ HB0) (fun hHeld => ?_)
      refine wpAnyH_take (i := 0) (v := ?_) (by (simp only [List.getElem?_toArray, List.getElem?_cons_zero]; exact rfl)) (by kernel_rfl) (by kernel_rfl) (by kernel_rfl) (by exact fun _ _ _ h => h) (Or.inl ⟨by rfl, ?_⟩) (by assumption) ?_
      rotate_left
      · (intro w hSw; (try dsimp only at hSw); first | (go_simp; done) | (go_simp; with_reducible rfl))
      try simp only [Act.put, List.setIfInBounds_toArray, List.set_cons_zero, List.set_cons_succ]
      refine wpAnyH_take (i := 1) (v := ?_) (by (simp only [List.getElem?_toArray, List.getElem?_cons_zero, List.getElem?_cons_succ]; exact rfl)) (by kernel_rfl) (by kernel_rfl) (by kernel_rfl) (by exact fun _ _ _ h => h) (Or.inl ⟨by rfl, ?_⟩) (by assumption) ?_
      rotate_left
      · (intro w hSw; (try dsimp only at hSw); first | (go_simp; done) | (go_simp; with_reducible rfl))
      try simp only [Act.put, List.setIfInBounds_toArray, List.set_cons_zero, List.set_cons_succ]
      refine wpAnyH_ready (rs := [2]) (by kernel_rfl) (by simp) ?_
      refine AllReadyH.cons (by (simp only [List.getElem?_toArray, List.getElem?_cons_zero, List.getElem?_cons_succ]; exact rfl)) (fun K hK => ?_) AllReadyH.nil
      go_simp
      go_at_call 41; refine (SE.out _).mono ?_; rintro e3 w6 ⟨rfl, hw⟩; obtain rfl := hw.symm
      go_wp2_with fail
      refine hK.out _ _ (SC.out _ HB0) (fun hHeld => ?_)
      clear hK K
      try simp only [Act.put, List.setIfInBounds_toArray, List.set_cons_zero, List.set_cons_succ]
      refine wpAnyH_take (i := 3) (v := ?_) (by (simp only [List.getElem?_toArray, List.getElem?_cons_zero, List.getElem?_cons_succ]; exact rfl)) (by kernel_rfl) (by kernel_rfl) (by kernel_rfl) (by exact fun _ _ _ h => h) (Or.inl ⟨by rfl, ?_⟩) (by assumption) ?_
      rotate_left
      · (intro w hSw; (try dsimp only at hSw); first | (go_simp; done) | (go_simp; with_reducible rfl))
      try simp only [Act.put, List.setIfInBounds_toArray, List.set_cons_zero, List.set_cons_succ]
      refine wpAnyH_take (i := 4) (v := ?_) (by (simp only [List.getElem?_toArray, List.getElem?_cons_zero, List.getElem?_cons_succ]; exact rfl)) (by kernel_rfl) (by kernel_rfl) (by kernel_rfl) (by exact fun _ _ _ h => h) (Or.inl ⟨by rfl, ?_⟩) (by assumption) ?_
      rotate_left
      · (intro w hSw; (try dsimp only at hSw); first | (go_simp; done) | (go_simp; with_reducible rfl))
      try simp only [Act.put, List.setIfInBounds_toArray, List.set_cons_zero, List.set_cons_succ]
      refine wpAnyH_done (by kernel_rfl) ?_ _
      clear ht
      go_wp2_with fail
      refine (PH.out _ HB0).mono ?_; rintro e3 w7 ⟨⟨d, rfl, hd⟩, b7⟩
      have HD := Lib.hid hd
      have K7 := HB0.trans (b7.mono HB0.size)
      have L7 := Lib.hid (L.out.trans (K7.mono L.out.size))
      have LF := Lib.hid (LW.out.trans (K7.mono LW.out.size))
      clear PH SC SE b7 hd cz HB0 K7
      cases d
      · have NY := Lib.hid (NX.out fun g => (by cases HD.out.2 g))
        clear NX HD
        go_wp2_with fail
        go_roundw
        case rel => exact ⟨k + 1, by go_num, NY, L7⟩
        case measure => simp [intOf]; omega
      · have FY := Lib.hid (EY.out t (HD.out.1 rfl))
        clear NX HD
        go_wp2
        go_ret2
        exact ⟨⟨t, true, rfl, FY.out⟩, LF.out⟩
    · have z1 : (n1 : Int) ≤ (k : Int) := by omega
      have z2 : decide ((k : Int) < (n1 : Int)) = false := decide_eq_false (by omega)
      have FN := Lib.hid (EN.out fun j hj => I.out.2 j (by omega))
      clear z I EN EY
      go_wp2
      go_ret2
      exact ⟨⟨0, false, rfl, FN.out⟩, LW.out⟩
end Go.Proofs.Ytpfbdpoileepoaa
