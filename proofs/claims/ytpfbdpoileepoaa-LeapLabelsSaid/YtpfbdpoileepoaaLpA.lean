/- Layer 16 (leap), work ahead, the document's own: Offset, Inserted, Label, Next, Bits. -/
import Derived.Test.YtpfbdpoileepoaaLpM
import Derived.Test.YtpfbdpoileepoaaSmE
set_option maxRecDepth 100000
namespace Go.Proofs.Ytpfbdpoileepoaa
open Go.ChangeShapes Go.WideShapes Go.ChangeAt Go.RowKit SmM

/-- The document's table, as it lies. -/
structure RfP (w : World) (N : Nat) (p : Option Addr) (n c : Nat) (l : List Lp) (e b : Int) : Prop where
  bk : w.heap[N]? = some (.cells #[.slice p n c, .int .i64 e, .int .i64 b] 37 (0, 0))
  row : HoldsL w p n c l
  ok : OkL l
  few : n ≤ 32
  bb : -1000 ≤ b ∧ b ≤ 1000
theorem RfP.below {w w' : World} {N : Nat} {p : Option Addr} {n c : Nat} {l : List Lp} {e b : Int} (h : RfP w N p n c l e b) (k : Below w.heap.size w w') : RfP w' N p n c l e b :=
  ⟨(k.block _ (Array.getElem?_eq_some_iff.1 h.bk).1).trans h.bk, h.row.below k, h.ok, h.few, h.bb⟩
theorem wr16 {x : Int} (h : I64 x) : wrap64 x = x ∧ IntKind.i64.wrap x = x := by
  unfold I64 at h
  rw [IntKind.wrap_i64]
  unfold wrap64
  omega
/-- An instant that may be asked for. -/
def TmI (t : Int) : Prop := -4611686018427387904 ≤ t ∧ t ≤ 4611686018427387904
theorem kinds_take {l : List Lp} {i : Nat} (h : i < l.length) (t : Int) : kindsI (l.take (i + 1)) t = kindsI (l.take i) t + (if (gl l i).t ≤ t then (gl l i).k else 0) := by
  unfold kindsI
  rw [List.take_succ_eq_append_getElem h, List.map_append, List.sum_append, List.map_cons, List.map_nil, List.sum_cons, List.sum_nil, Int.add_zero, gl_of h]
theorem kinds_in {l : List Lp} (ok : OkL l) (i : Nat) (t : Int) : -(l.length : Int) ≤ kindsI (l.take i) t ∧ kindsI (l.take i) t ≤ l.length := by
  have h := kinds_bound (l := l.take i) (fun y hy => (ok.1 y (List.mem_of_mem_take hy)).2.2) t
  rw [List.length_take] at h
  omega
set_option maxHeartbeats 2000000 in
theorem roff16 {w : World} {N : Nat} {p : Option Addr} {n c : Nat} {l : List Lp} {e b : Int} (h : RfP w N p n c l e b) (t : Int) :
    Calls Try.prog 35 #[.pointer (some ⟨N, 0, none⟩), .int .i64 t] w fun e w' => e = .returned (.int .i64 (offI l b t)) ∧ w' = w := by
  have x0 := blk_cell (o := 0) h.bk
  have x2 := blk_cell (o := 2) h.bk
  simp only [List.getElem?_toArray, List.getElem?_cons_zero, List.getElem?_cons_succ] at x0 x2
  have HL := Lib.hid h.row
  have OK := Lib.hid h.ok
  have LN := Lib.hid h.row.len
  have BB := Lib.hid h.bb
  have nb : (n : Int) ≤ 32 := by have := h.few; omega
  clear h
  go_enter Try.func35, Try.ntmps35
  go_wp2_with fail
  go_loopw [5, 6] (fun vv ii wr => ∃ (i : Nat) (v : Int), vv = .int .i64 v ∧ ii = .int .i64 (i : Nat) ∧ Hid (v = offI (l.take i) b t ∧ i ≤ n) ∧ wr = w) (fun _ ii _ => 1000 - (intOf ii).toNat)
  case atStart => exact ⟨0, b, rfl, rfl, ⟨by rw [List.take_zero]; unfold offI kindsI; simp, Nat.zero_le _⟩, rfl⟩
  case round =>
    obtain ⟨i, v, rfl, rfl, I, rfl⟩ := hrel
    have i0 : (0 : Int) ≤ (i : Int) := by omega
    by_cases z : i < n
    · have z1 : (i : Int) < (n : Int) := by omega
      obtain ⟨a, rfl, c0, c1⟩ := HL.out.cell i z
      have il : i < l.length := by rw [LN.out]; exact z
      have TT := kinds_take il t
      have kb := kinds_in OK.out i t
      have kb2 := kinds_in OK.out (i + 1) t
      have bb := BB.out
      have ll := LN.out
      have VE : v = b + kindsI (l.take i) t := I.out.1
      obtain ⟨x, hx⟩ : ∃ x, gl l i = x := ⟨_, rfl⟩
      rw [hx] at c0 c1 TT
      have NX : Hid (i + 1 ≤ n) := z
      obtain ⟨xt, xk⟩ := x
      dsimp only at c0 c1 TT
      by_cases g : xt ≤ t
      · have g1 : decide (xt ≤ t) = true := decide_eq_true g
        rw [if_pos g] at TT
        obtain ⟨v2, hv2⟩ : ∃ v2, v + xk = v2 := ⟨_, rfl⟩
        have W := wr16 (x := v2) (by unfold I64; omega)
        obtain ⟨w1, w2⟩ := W
        have IN : Hid (v2 = offI (l.take (i + 1)) b t) := by unfold Hid offI; omega
        clear z il TT kb kb2 bb ll VE I hx
        go_wp2_with fail
        go_roundw
        case rel => exact ⟨i + 1, v2, rfl, by go_num, ⟨IN.out, NX.out⟩, trivial⟩
        case measure => simp [intOf]; omega
      · have g1 : decide (xt ≤ t) = false := decide_eq_false g
        rw [if_neg g] at TT
        have IN : Hid (v = offI (l.take (i + 1)) b t) := by unfold Hid offI; omega
        clear z il TT kb kb2 bb ll VE I hx
        go_wp2_with fail
        go_roundw
        case rel => exact ⟨i + 1, v, rfl, by go_num, ⟨IN.out, NX.out⟩, trivial⟩
        case measure => simp [intOf]; omega
    · have z1 : (n : Int) ≤ (i : Int) := by omega
      have z2 : decide ((i : Int) < (n : Int)) = false := decide_eq_false (by omega)
      have FV : Hid (Ending.returned (.int .i64 v) = .returned (.int .i64 (offI l b t))) := by
        unfold Hid
        rw [I.out.1, List.take_of_length_le (by rw [LN.out]; omega)]
      clear z I
      go_wp2
      go_ret
      exact ⟨FV.out, rfl⟩
theorem ins_take {l : List Lp} {i : Nat} (h : i < l.length) (t : Int) : insB (l.take (i + 1)) t = (insB (l.take i) t || insX t (gl l i)) := by
  unfold insB
  rw [List.take_succ_eq_append_getElem h, List.any_append, gl_of h]
  simp
theorem ins_more {l : List Lp} {i : Nat} {t : Int} (h : i < l.length) (hx : insX t (gl l i) = true) : insB l t = true := by
  unfold insB
  rw [List.any_eq_true]
  exact ⟨_, gl_mem h, hx⟩
set_option maxHeartbeats 2000000 in
theorem rins16 {w : World} {N : Nat} {p : Option Addr} {n c : Nat} {l : List Lp} {e b : Int} (h : RfP w N p n c l e b) (t : Int) :
    Calls Try.prog 54 #[.pointer (some ⟨N, 0, none⟩), .int .i64 t] w fun e w' => e = .returned (.bool (insB l t)) ∧ w' = w := by
  have x0 := blk_cell (o := 0) h.bk
  simp only [List.getElem?_toArray, List.getElem?_cons_zero] at x0
  have HL := Lib.hid h.row
  have OK := Lib.hid h.ok
  have LN := Lib.hid h.row.len
  have nb : (n : Int) ≤ 32 := by have := h.few; omega
  clear h
  go_enter Try.func54, Try.ntmps54
  go_wp2_with fail
  go_loopw [5] (fun ii wr => ∃ i : Nat, ii = .int .i64 (i : Nat) ∧ Hid (insB (l.take i) t = false ∧ i ≤ n) ∧ wr = w) (fun ii _ => 1000 - (intOf ii).toNat)
  case atStart => exact ⟨0, rfl, ⟨by rw [List.take_zero]; rfl, Nat.zero_le _⟩, rfl⟩
  case round =>
    obtain ⟨i, rfl, I, rfl⟩ := hrel
    have i0 : (0 : Int) ≤ (i : Int) := by omega
    by_cases z : i < n
    · have z1 : (i : Int) < (n : Int) := by omega
      obtain ⟨a, rfl, c0, c1⟩ := HL.out.cell i z
      have il : i < l.length := by rw [LN.out]; exact z
      have TT := ins_take il t
      rw [I.out.1, Bool.false_or] at TT
      have YES := fun q => ins_more (t := t) il q
      obtain ⟨x, hx⟩ : ∃ x, gl l i = x := ⟨_, rfl⟩
      rw [hx] at c0 c1 TT YES
      have XI := OK.out.1 x (by rw [← hx]; exact gl_mem il)
      obtain ⟨xt, xk⟩ := x
      unfold insX at TT YES
      unfold dayI topI at XI
      dsimp only at c0 c1 TT YES XI
      obtain ⟨u, hu⟩ : ∃ u, xt + 1000000000 = u := ⟨_, rfl⟩
      rw [hu] at TT YES
      have WU := Lib.hid (wr16 (x := u) (by unfold I64; omega))
      have NO : Hid (insX t ⟨xt, xk⟩ = false → insB (l.take (i + 1)) t = false ∧ i + 1 ≤ n) := fun q => ⟨by rw [TT]; unfold insX at q; dsimp only at q; rw [hu] at q; exact q, z⟩
      have XU : Hid (insX t ⟨xt, xk⟩ = (decide (xk = 1) && (decide (xt ≤ t) && decide (t < u)))) := by unfold Hid insX; dsimp only; rw [hu]
      have YE : Hid (insX t ⟨xt, xk⟩ = true → insB l t = true) := fun q => YES (by rw [XU.out] at q; exact q)
      clear z il TT YES I hx XI
      by_cases k1 : xk = 1
      · have k2 : (xk == 1) = true := by rw [beq_iff_eq]; exact k1
        by_cases g1 : xt ≤ t
        · have g2 : decide (xt ≤ t) = true := decide_eq_true g1
          obtain ⟨w1, w2⟩ := WU.out
          by_cases g3 : t < u
          · have g4 : decide (t < u) = true := decide_eq_true g3
            have FV : Hid (insB l t = true) := YE.out (by rw [XU.out, decide_eq_true k1, g2, g4]; rfl)
            clear NO YE XU WU g1 g3
            go_wp2
            go_ret
            rw [FV.out]
            exact ⟨rfl, rfl⟩
          · have g4 : decide (t < u) = false := decide_eq_false g3
            have NX := Lib.hid (NO.out (by rw [XU.out, g4]; simp))
            clear NO YE XU WU g1 g3
            go_wp2_with fail
            go_roundw
            case rel => exact ⟨i + 1, by go_num, NX, trivial⟩
            case measure => simp [intOf]; omega
        · have g2 : decide (xt ≤ t) = false := decide_eq_false g1
          have NX := Lib.hid (NO.out (by rw [XU.out, g2]; simp))
          clear NO YE XU WU g1
          go_wp2_with fail
          go_roundw
          case rel => exact ⟨i + 1, by go_num, NX, trivial⟩
          case measure => simp [intOf]; omega
      · have k2 : (xk == 1) = false := by rw [beq_eq_false_iff_ne]; exact k1
        have NX := Lib.hid (NO.out (by rw [XU.out, decide_eq_false k1]; rfl))
        clear NO YE XU WU
        go_wp2_with fail
        go_roundw
        case rel => exact ⟨i + 1, by go_num, NX, trivial⟩
        case measure => simp [intOf]; omega
    · have z1 : (n : Int) ≤ (i : Int) := by omega
      have z2 : decide ((i : Int) < (n : Int)) = false := decide_eq_false (by omega)
      have FV : Hid (insB l t = false) := by
        have := I.out.1
        rwa [List.take_of_length_le (by rw [LN.out]; omega)] at this
      clear z I
      go_wp2
      go_ret
      rw [FV.out]
      exact ⟨rfl, rfl⟩
theorem off_bound {l : List Lp} (ok : OkL l) (hl : l.length ≤ 32) {b : Int} (bb : -1000 ≤ b ∧ b ≤ 1000) (t : Int) : -1032 ≤ offI l b t ∧ offI l b t ≤ 1032 := by
  have := kinds_bound (l := l) (fun y hy => (ok.1 y hy).2.2) t
  unfold offI
  omega
theorem rlab16 {w : World} {N : Nat} {p : Option Addr} {n c : Nat} {l : List Lp} {e b : Int} (h : RfP w N p n c l e b) (t : Int) (ht : TmI t) :
    Calls Try.prog 33 #[.pointer (some ⟨N, 0, none⟩), .int .i64 t] w fun e w' => e = .returned (.tuple #[.int .i64 (labI l b t), .bool (insB l t)]) ∧ w' = w := by
  have OF := Lib.hid (roff16 h t)
  have IN := Lib.hid (rins16 h t)
  have ob := off_bound h.ok (by rw [h.row.len]; exact h.few) h.bb t
  unfold TmI at ht
  obtain ⟨o, ho⟩ : ∃ o, offI l b t = o := ⟨_, rfl⟩
  obtain ⟨r, hr⟩ : ∃ r, labI l b t = r := ⟨_, rfl⟩
  rw [hr]
  unfold labI at hr
  rw [ho] at OF ob hr
  obtain ⟨m, hm⟩ : ∃ m, o * 1000000000 = m := ⟨_, rfl⟩
  rw [hm] at hr
  obtain ⟨w1, w2⟩ := wr16 (x := m) (by unfold I64; omega)
  obtain ⟨w3, w4⟩ := wr16 (x := r) (by unfold I64; omega)
  generalize insB l t = i at *
  clear h ht ob ho
  go_enter Try.func33, Try.ntmps33
  go_wp2_with fail
  refine OF.out.mono ?_; rintro e1 w5 ⟨rfl, hw⟩
  obtain rfl := hw.symm
  go_wp2_with fail
  refine IN.out.mono ?_; rintro e1 w6 ⟨rfl, hw⟩
  obtain rfl := hw.symm
  clear OF IN
  go_wp2
  go_ret2
  exact ⟨rfl, rfl⟩
end Go.Proofs.Ytpfbdpoileepoaa
