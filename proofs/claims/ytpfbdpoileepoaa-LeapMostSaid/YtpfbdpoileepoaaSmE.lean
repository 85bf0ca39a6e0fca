/- Layer 15 (smear), the program's: an instant, where a day begins, a clone of leaps, whether leaps are leaps; tables as they lie; New. -/
import Derived.Test.YtpfbdpoileepoaaSmD
import Derived.Test.YtpfbdpoileepoaaFixS
import Derived.Test.YtpfbdpoileepoaaFrameA
import Derived.WalkSpells
set_option maxRecDepth 100000
namespace Go.Proofs.Ytpfbdpoileepoaa
open Go.ChangeShapes Go.WideShapes Go.ChangeAt Go.RowKit SmM

theorem pinst15 (w : World) (t : Int) : Calls Try.prog 50 #[.int .i64 t] w fun e w' => e = .returned (.int .i64 (nearI t)) ∧ w' = w := by
  have CL : Hid (Calls Try.prog 55 #[.int .i64 t, .int .i64 0, .int .i64 4611686018427387904] w fun e w' => e = .returned (.int .i64 (nearI t)) ∧ w = w') := by
    unfold nearI topI
    by_cases h : t < 0
    · rw [if_pos h]; exact clamp_lo t 0 _ h w
    · rw [if_neg h]
      by_cases g : 4611686018427387904 < t
      · rw [if_pos g]; exact clamp_hi t 0 _ (by omega) g w
      · rw [if_neg g]; exact clamp_mid t 0 _ (by omega) (by omega) w
  go_enter Try.func50, Try.ntmps50
  go_wp2_with (go_at_call 55; refine CL.out.mono ?_; rintro e w' ⟨rfl, rfl⟩)
  go_ret
  exact ⟨rfl, rfl⟩
theorem pbegin15 (w : World) (x : Lp) (h : dayI ≤ x.t ∧ x.t ≤ topI) : Calls Try.prog 53 #[.agg #[.int .i64 x.t, .int .i64 x.k]] w fun e w' => e = .returned (.int .i64 (x.t - halfI)) ∧ Below w.heap.size w w' := by
  obtain ⟨xt, xk⟩ := x
  unfold dayI topI at h
  unfold halfI
  dsimp only at h ⊢
  obtain ⟨b, hb⟩ : ∃ b, xt - 43200000000000 = b := ⟨_, rfl⟩
  have w1 : wrap64 b = b := by unfold wrap64; omega
  have w2 : IntKind.i64.wrap b = b := by rw [IntKind.wrap_i64]; omega
  have B := Lib.hid ((Below.refl w.heap.size w).alloc (Nat.le_refl _) (.cells #[.int .i64 xt, .int .i64 xk] 33))
  rw [hb]
  clear h
  go_enter Try.func53, Try.ntmps53
  go_wp2
  go_ret
  exact ⟨rfl, B.out⟩

/-! ### Rows of leaps -/
theorem cells_at {w : World} {p : Option Addr} {n c : Nat} {l : List Lp} (h : HoldsL w p n c l) {a : Addr} (e : p = some a) : ∀ (j : Nat) (u : Value), (cellsL l)[j]? = some u → w.cell? (a.add j) = some u := by
  subst e
  intro j u hj
  have lt : j < (cellsL l).length := (List.getElem?_eq_some_iff.1 hj).1
  rw [cellsL_len] at lt
  have ln := h.len
  obtain ⟨a', ea, c1, c2⟩ := h.cell (j / 2) (by omega)
  injection ea with ea
  subst ea
  obtain ⟨g1, g2⟩ := cellsL_get l (j / 2) (by omega)
  rcases Nat.mod_two_eq_zero_or_one j with m | m
  · have e : j / 2 * 2 = j := by omega
    rw [e] at c1 g1
    rw [c1, ← g1, hj]
  · have e : j / 2 * 2 + 1 = j := by omega
    rw [addA_next, e] at c2
    rw [e] at g2
    rw [c2, ← g2, hj]
theorem cellsL_one (l : List Lp) : ∀ u ∈ cellsL l, u.oneCell' = true := by
  intro u hu
  obtain ⟨x, -, hx⟩ := List.mem_flatMap.1 hu
  exact twoL_one x u hx
theorem own_same {w w' : World} {B : Nat} {T : TypeId} {s : Nat} {v : Value} {n : Nat} {vs : List Value} (h : w.ownsRow B T s v n vs) (k : ∀ g, v.ownBlock = some g → w'.heap[g]? = w.heap[g]?) : w'.ownsRow B T s v n vs := by
  rcases h.2 with e | ⟨g, cap, cur, e, hb, hg, r⟩
  · exact ⟨h.1, .inl e⟩
  · subst e
    exact ⟨h.1, .inr ⟨g, cap, cur, rfl, hb, (k g rfl).trans hg, r⟩⟩
/-- A row of leaps is cloned. -/
theorem pclone15 (w : World) (p : Option Addr) (n c : Nat) (l : List Lp) (h : HoldsL w p n c l) (hn : n ≤ 40) :
    Calls Try.prog 31 #[.slice p n c] w fun e w' => ∃ q d, e = .returned (.slice q n d) ∧ OwnL w' w.heap.size q n d l ∧ Below w.heap.size w w' := by
  have ln := h.len
  have q22 : ∀ (w : World) (a : Option Addr) (n c n' c' : Nat), (binOp .eql 22 (.slice a n c) (.slice none n' c')).run Try.prog w = .ok (.bool a.isNone) w := fun w a n c n' c' => Lib.run_eql_slice_nil w _ _ a n c n' c' Try.underlying22
  cases p with
  | none =>
    have n0 : n = 0 := by
      rcases Nat.eq_zero_or_pos n with e | e
      · exact e
      · obtain ⟨a, ha, -⟩ := h.cell 0 e
        cases ha
    subst n0
    obtain rfl : l = [] := List.length_eq_zero_iff.1 ln
    clear h ln hn
    go_enter Try.func31, Try.ntmps31
    go_wp2
    go_ret
    exact ⟨none, 0, rfl, ⟨rfl, .inl ⟨rfl, rfl⟩⟩, Below.refl _ _⟩
  | some a =>
    have L1 := Lib.hid ((Below.refl w.heap.size w).alloc (Nat.le_refl _) (.cells #[] 33))
    have NW : Hid (∀ (j : Nat) (u : Value), (cellsL l)[j]? = some u → (w.alloc (.cells #[] 33)).cell? (a.add j) = some u) := fun j u hj => by
      have q := cells_at h rfl j u hj
      exact (L1.out.cell (World.block_lt_of_cell? w _ q)).trans q
    have OW : Hid ((w.alloc (.cells #[] 33)).ownsRow w.heap.size 33 2 (.slice (some ⟨w.heap.size, 0, none⟩) 0 0) 0 []) := ⟨rfl, .inr ⟨w.heap.size, 0, #[], rfl, Nat.le_refl _, heap_alloc_new w _, Nat.le_refl _, Nat.zero_le _, rfl, rfl⟩⟩
    have LL : Hid ((cellsL l).length = n * 2) := by unfold Hid; rw [cellsL_len, ln]
    have ONE := Lib.hid (cellsL_one l)
    have MX : Hid (0 + n ≤ maxLen) := by unfold Hid maxLen; omega
    have BY : Hid ((0 + n) * 16 ≤ 140737488355328) := by unfold Hid; omega
    obtain ⟨iL, hiL, hz0, hz1, hz2⟩ := infoLp_of infoLp
    clear h ln hn
    go_enter Try.func31, Try.ntmps31
    go_wp2_with (at_builtin; refine wpList_append_own _ rfl _ _ 22 rfl w.heap.size 33 iL (.agg #[.int .i64 0, .int .i64 0]) 2 16 Try.underlying22 hiL hz0 hz1 hz2 rfl (by decide) _ _ _ rfl OW.out a n c (cellsL l) rfl LL.out NW.out ONE.out MX.out BY.out L1.out.size ?_)
    intro v w3 o g m
    have L3 : Hid (Below w.heap.size w w3) := L1.out.grown g L1.out.size (fun j hj => (World.ownsRow.lt OW.out j hj).1)
    have O3 : Hid (w3.ownsRow w.heap.size 33 2 v n (cellsL l)) := o
    clear o g m OW L1 NW LL ONE
    obtain ⟨p4, c4, rfl⟩ := own_slice O3.out
    go_wp2
    go_ret
    exact ⟨p4, c4, rfl, O3.out, L3.out⟩

/-! ### Are they leaps? -/
/-- The least instant that the leap at a place may have. -/
def firstI (l : List Lp) (i : Nat) : Int := if i = 0 then dayI else (gl l (i - 1)).t + 2 * dayI
theorem ok_first {l : List Lp} {i : Nat} (h : ∀ j, j < i → okAt l j) : okAt l i ↔ (((gl l i).k = 1 ∨ (gl l i).k = -1) ∧ firstI l i ≤ (gl l i).t ∧ (gl l i).t ≤ topI) := by
  unfold okAt firstI
  by_cases z : i = 0
  · subst z
    rw [if_pos rfl]
    constructor
    · rintro ⟨a, b, c, -⟩; exact ⟨a, b, c⟩
    · rintro ⟨a, b, c⟩; exact ⟨a, b, c, fun e => absurd e (by omega)⟩
  · rw [if_neg z]
    have q := (h (i - 1) (by omega)).2.1
    constructor
    · rintro ⟨a, b, c, d⟩; exact ⟨a, d (by omega), c⟩
    · rintro ⟨a, b, c⟩; exact ⟨a, by unfold dayI at *; omega, c, fun _ => b⟩
set_option maxHeartbeats 4000000 in
theorem pare15 (w : World) (p : Option Addr) (n c : Nat) (l : List Lp) (h : HoldsL w p n c l) (hi : ∀ y ∈ l, I64 y.t ∧ I64 y.k) (hn : n ≤ 32) :
    Calls Try.prog 49 #[.slice p n c] w fun e w' => (∃ b : Bool, e = .returned (.bool b) ∧ (b = true ↔ OkL l)) ∧ Below w.heap.size w w' := by
  have HL := Lib.hid h
  have LN := Lib.hid h.len
  have HI := Lib.hid hi
  have nb : (n : Int) ≤ 32 := by omega
  clear h hi hn
  go_enter Try.func49, Try.ntmps49
  go_wp2_with fail
  go_loopw [3, 8] (fun ff ii wr => ∃ (i : Nat) (f : Int), ff = .int .i64 f ∧ ii = .int .i64 (i : Nat) ∧ Hid (f = firstI l i ∧ i ≤ n ∧ ∀ j, j < i → okAt l j) ∧ Hid (Below w.heap.size w wr)) (fun _ ii _ => 1000 - (intOf ii).toNat)
  case atStart => exact ⟨0, 86400000000000, rfl, rfl, ⟨rfl, Nat.zero_le _, fun j hj => by omega⟩, Below.refl _ _⟩
  case round =>
    obtain ⟨i, f, rfl, rfl, I, L⟩ := hrel
    have i0 : (0 : Int) ≤ (i : Int) := by omega
    by_cases z : i < n
    · have z1 : (i : Int) < (n : Int) := by omega
      obtain ⟨a, rfl, c0, c1⟩ := (HL.out.below L.out).cell i z
      have il : i < l.length := by rw [LN.out]; exact z
      obtain ⟨x, hx⟩ : ∃ x, gl l i = x := ⟨_, rfl⟩
      have XI := HI.out x (by rw [← hx]; exact gl_mem il)
      have OA : Hid (okAt l i ↔ ((x.k = 1 ∨ x.k = -1) ∧ f ≤ x.t ∧ x.t ≤ topI)) := by
        have := ok_first I.out.2.2
        rw [hx, ← I.out.1] at this
        exact this
      have BAD : Hid (¬ okAt l i → ∃ b : Bool, Ending.returned (.bool false) = .returned (.bool b) ∧ (b = true ↔ OkL l)) := fun q => ⟨false, rfl, fun e => (by cases e), fun o => absurd ((ok_iff l).1 o i il) q⟩
      have FN : Hid (firstI l (i + 1) = x.t + 172800000000000) := by
        unfold Hid firstI
        rw [if_neg (by omega), show i + 1 - 1 = i by omega, hx]
        rfl
      rw [hx] at c0 c1
      obtain ⟨xt, xk⟩ := x
      dsimp only at c0 c1 XI OA FN
      obtain ⟨⟨xi0, xi1⟩, ⟨xj0, xj1⟩⟩ := XI
      have ZN := Lib.hid z
      have L2 := Lib.hid (L.out.alloc L.out.size (.cells #[.int .i64 xt, .int .i64 xk] 33))
      clear hx z il
      by_cases t1 : xt < f
      · have t2 : decide (xt < f) = true := decide_eq_true t1
        have F := Lib.hid (BAD.out fun o => by have := (OA.out.1 o).2.1; omega)
        clear OA I BAD FN
        go_wp2
        go_ret
        exact ⟨F.out, L2.out⟩
      · have t2 : decide (xt < f) = false := decide_eq_false t1
        by_cases t3 : 4611686018427387904 < xt
        · have t4 : decide (4611686018427387904 < xt) = true := decide_eq_true t3
          have F := Lib.hid (BAD.out fun o => by have := (OA.out.1 o).2.2; unfold topI at this; omega)
          clear OA I BAD FN t1
          go_wp2
          go_ret
          exact ⟨F.out, L2.out⟩
        · have t4 : decide (4611686018427387904 < xt) = false := decide_eq_false t3
          obtain ⟨y, hy⟩ : ∃ y, xt + 172800000000000 = y := ⟨_, rfl⟩
          have w1 : wrap64 y = y := by unfold wrap64; omega
          have w2 : IntKind.i64.wrap y = y := by rw [IntKind.wrap_i64]; omega
          have OK : Hid ((xk = 1 ∨ xk = -1) → (y = firstI l (i + 1) ∧ i + 1 ≤ n ∧ ∀ j, j < i + 1 → okAt l j)) := fun k => ⟨by rw [FN.out, hy], ZN.out, fun j hj => by
            by_cases e : j = i
            · rw [e]
              exact OA.out.2 ⟨k, by omega, by unfold topI; omega⟩
            · exact I.out.2.2 j (by omega)⟩
          by_cases k1 : xk = 1
          · subst k1
            have NX := Lib.hid (OK.out (.inl rfl))
            clear OA I BAD FN t1 t3 OK
            go_wp2_with fail
            go_roundw
            case rel => exact ⟨i + 1, y, rfl, by go_num, NX, L2⟩
            case measure => simp [intOf]; omega
          · have k2 : (xk == 1) = false := by rw [beq_eq_false_iff_ne]; exact k1
            by_cases k3 : xk = -1
            · subst k3
              have NX := Lib.hid (OK.out (.inr rfl))
              clear OA I BAD FN t1 t3 OK k1 k2
              go_wp2_with fail
              go_roundw
              case rel => exact ⟨i + 1, y, rfl, by go_num, NX, L2⟩
              case measure => simp [intOf]; omega
            · have k4 : (xk == -1) = false := by rw [beq_eq_false_iff_ne]; exact k3
              have k5 : (xk != 1) = true := by rw [bne_iff_ne]; exact k1
              have k6 : (xk != -1) = true := by rw [bne_iff_ne]; exact k3
              have F := Lib.hid (BAD.out fun o => by rcases (OA.out.1 o).1 with e | e; exact k1 e; exact k3 e)
              clear OA I BAD FN t1 t3 OK
              go_wp2
              go_ret
              exact ⟨F.out, L2.out⟩
    · have z1 : (n : Int) ≤ (i : Int) := by omega
      have z2 : decide ((i : Int) < (n : Int)) = false := decide_eq_false (by omega)
      have F : Hid (∃ b : Bool, Ending.returned (.bool true) = .returned (.bool b) ∧ (b = true ↔ OkL l)) := ⟨true, rfl, fun _ => (ok_iff l).2 fun j hj => I.out.2.2 j (by have := LN.out; omega), fun _ => rfl⟩
      clear z I
      go_wp2
      go_ret
      exact ⟨F.out, L.out⟩

/-! ### Tables -/
structure PSm (w : World) (N : Nat) (p : Option Addr) (c : Nat) (l : List Lp) : Prop where
  bk : w.heap[N]? = some (.cells #[.slice p l.length c] 85 (0, 0))
  ow : OwnL w 0 p l.length c l
  ok : OkL l
  fit : l.length ≤ 32
/-- The blocks of a table. -/
def SF (N : Nat) (p : Option Addr) (M : Nat) : Prop := M = N ∨ ∃ a, p = some a ∧ M = a.block
theorem PSm.keep {w w' : World} {N : Nat} {p : Option Addr} {c : Nat} {l : List Lp} (h : PSm w N p c l) (k : ∀ M, SF N p M → w'.heap[M]? = w.heap[M]?) : PSm w' N p c l :=
  ⟨(k N (.inl rfl)).trans h.bk, own_same h.ow fun g hg => by
    cases p with
    | none => cases hg
    | some a =>
      injection hg with hg
      subst hg
      exact k _ (.inr ⟨a, rfl, rfl⟩), h.ok, h.fit⟩
theorem PSm.lt {w : World} {N : Nat} {p : Option Addr} {c : Nat} {l : List Lp} (h : PSm w N p c l) : ∀ M, SF N p M → M < w.heap.size := by
  rintro M (rfl | ⟨a, rfl, rfl⟩)
  · exact (Array.getElem?_eq_some_iff.1 h.bk).1
  · exact (World.ownsRow.lt h.ow a.block rfl).2
theorem PSm.below {w w' : World} {N : Nat} {p : Option Addr} {c : Nat} {l : List Lp} (h : PSm w N p c l) (b : Below w.heap.size w w') : PSm w' N p c l := h.keep fun M hM => b.block M (h.lt M hM)
theorem pheld15 {w : World} {N : Nat} {p : Option Addr} {c : Nat} {l : List Lp} (h : PSm w N p c l) : Calls Try.prog 52 #[.pointer (some ⟨N, 0, none⟩)] w fun e w' => e = .returned (.slice p l.length c) ∧ w' = w := by
  have c0 := blk_cell (o := 0) h.bk
  simp only [List.getElem?_toArray, List.getElem?_cons_zero] at c0
  generalize l.length = n at *
  clear h
  go_enter Try.func52, Try.ntmps52
  go_wp2
  go_ret
  exact ⟨rfl, rfl⟩
theorem pheld15_none (w : World) : Calls Try.prog 52 #[.pointer none] w fun e w' => e = .returned (.slice none 0 0) ∧ w' = w := by
  go_enter Try.func52, Try.ntmps52
  go_wp2
  go_ret
  exact ⟨rfl, rfl⟩
/-- What the test of leaps tells. -/
def AreB (l : List Lp) (b : Bool) : Prop := b = true ↔ OkL l
/-- What a call makes of leaps. -/
def NewP (w : World) (n : Nat) (l : List Lp) (e : Ending) (w' : World) : Prop := Below w.heap.size w w' ∧
  ((OkL l ∧ n ≤ 32 ∧ ∃ N q d, e = .returned (.tuple #[.pointer (some ⟨N, 0, none⟩), .int .i64 0]) ∧ PSm w' N q d l ∧ ∀ M, SF N q M → w.heap.size ≤ M) ∨ (∃ r, NewE l r ∧ r ≠ 0 ∧ e = .returned (.tuple #[.pointer none, .int .i64 r])))
set_option maxHeartbeats 2000000 in
theorem pnew15 (w : World) (p : Option Addr) (n c : Nat) (l : List Lp) (h : HoldsL w p n c l) (hi : ∀ y ∈ l, I64 y.t ∧ I64 y.k) : Calls Try.prog 25 #[.slice p n c] w (NewP w n l) := by
  have nb : (n : Int) ≤ 9223372036854775807 := by have := h.cap; have := h.max; unfold maxLen at this; omega
  have ln := h.len
  by_cases big : 32 < n
  · have b1 : (32 : Int) < (n : Int) := by omega
    have F : Hid (NewP w n l (.returned (.tuple #[.pointer none, .int .i64 7])) w) := ⟨Below.refl _ _, .inr ⟨7, .inl ⟨rfl, by rw [ln]; exact big⟩, by decide, rfl⟩⟩
    clear h hi big ln
    go_enter Try.func25, Try.ntmps25
    go_wp2
    go_ret2
    exact F.out
  · have b1 : (n : Int) ≤ 32 := by omega
    have b2 : decide ((32 : Int) < (n : Int)) = false := decide_eq_false (by omega)
    have AR := Lib.hid (pare15 w p n c l h hi (by omega))
    have HL := Lib.hid h
    have LN := Lib.hid ln
    have BG : Hid (n ≤ 32) := by unfold Hid; omega
    clear h hi big ln
    go_enter Try.func25, Try.ntmps25
    go_wp2_with fail
    refine AR.out.mono ?_; rintro e w1 ⟨⟨b, rfl, hb⟩, l1⟩
    have HB : Hid (AreB l b) := hb
    have L1 := Lib.hid l1
    clear hb l1 AR
    cases b
    · have F : Hid (NewP w n l (.returned (.tuple #[.pointer none, .int .i64 1])) w1) := ⟨L1.out, .inr ⟨1, .inr ⟨by rw [LN.out]; exact BG.out, .inr ⟨rfl, fun o => by have := HB.out.2 o; cases this⟩⟩, by decide, rfl⟩⟩
      go_wp2
      go_ret2
      exact F.out
    · have CL := Lib.hid (pclone15 w1 p n c l (HL.out.below L1.out) (by have := BG.out; omega))
      go_wp2_with fail
      refine CL.out.mono ?_; rintro e w2 ⟨q, d, rfl, o2, l2⟩
      have O2 := Lib.hid o2
      have L2 := Lib.hid (L1.out.trans (l2.mono L1.out.size))
      have F : Hid (NewP w n l (.returned (.tuple #[.pointer (some ⟨w2.heap.size, 0, none⟩), .int .i64 0])) (w2.alloc (.cells #[.slice q n d] 85))) := by
        have AL : Below w2.heap.size w2 (w2.alloc (.cells #[.slice q n d] 85)) := (Below.refl _ _).alloc (Nat.le_refl _) _
        refine ⟨L2.out.alloc L2.out.size _, .inl ⟨HB.out.1 rfl, BG.out, w2.heap.size, q, d, rfl, ⟨?_, ?_, HB.out.1 rfl, by rw [LN.out]; exact BG.out⟩, ?_⟩⟩
        · rw [LN.out]
          exact heap_alloc_new _ _
        · rw [LN.out]
          exact own_keep (own_base O2.out (Nat.zero_le _)) AL
        · rintro M (rfl | ⟨a, rfl, rfl⟩)
          · exact L2.out.size
          · rcases O2.out.2 with ⟨e, -⟩ | ⟨g, cap, cur, e, hb, -⟩
            · injection e with e1 _ _; cases e1
            · injection e with e1 _ _
              injection e1 with e1
              subst e1
              exact Nat.le_trans L1.out.size hb
      clear o2 l2 CL HL
      go_wp2
      go_ret2
      exact F.out
end Go.Proofs.Ytpfbdpoileepoaa

