/- Layer 10 (scale): New, To, Total, Full, Tick, Copy. -/
import Derived.Test.YtccfimempjbnfaaScaleB
import Derived.Test.YtccfimempjbnfaaTurn
set_option maxRecDepth 100000
namespace Go.Proofs.Ytccfimempjbnfaa
open Go.ChangeShapes Go.WideShapes Go.ChangeAt Go.RowKit ScaleM

theorem pafter10_any (w : World) (h n x : Nat) (h0 : 0 < h) (h1 : h ≤ 1000000000000) (hx : x < 18446744073709551616) :
    Calls Try.prog 22 #[.agg #[.int .u64 (h : Nat), .int .i64 (totT h n : Nat), .int .u64 (resT h n : Nat)], .int .u64 (x : Nat)] w (AfterP w h (totT h (n + x)) (resT h (n + x))) := by
  have rl := res_lt n h0
  have tl := tot_le h n
  obtain ⟨P, hP⟩ : ∃ P, P = x * 1000000000 := ⟨_, rfl⟩
  obtain ⟨hi, ehi⟩ : ∃ a, a = P / 18446744073709551616 := ⟨_, rfl⟩
  obtain ⟨lo, elo⟩ : ∃ a, a = P % 18446744073709551616 := ⟨_, rfl⟩
  obtain ⟨s, es⟩ : ∃ a, a = (lo + resT h n) % 18446744073709551616 := ⟨_, rfl⟩
  obtain ⟨c, ec⟩ : ∃ a, a = (lo + resT h n) / 18446744073709551616 := ⟨_, rfl⟩
  obtain ⟨g, eg⟩ : ∃ a, a = hi + c := ⟨_, rfl⟩
  have sum : g * 18446744073709551616 + s = P + resT h n := by omega
  have pb : P < 18446744073709551616 * 1000000000 := by omega
  have gb : g < 18446744073709551616 := by omega
  have mf := fun q (e : (x * 1000000000 + resT h n) / h = q) => more_full (n := n) (t := x) (q := q) h0 e
  have mn := fun q r (e : (x * 1000000000 + resT h n) / h = q) (f : (x * 1000000000 + resT h n) % h = r) => more_not (n := n) (t := x) (q := q) (r := r) h0 e f
  rw [← hP, ← sum] at mf mn
  have fr := res_full (h := h) (n := n + x)
  refine pafter10_core w h (totT h n) (resT h n) x hi lo s c g ((g * 18446744073709551616 + s) / h) ((g * 18446744073709551616 + s) % h) (4611686018427387904 - totT h n) _ _ hx (by rw [← hP, ehi]) (by rw [← hP, elo]) es.symm ec.symm eg.symm gb (by omega) (by omega) ?_
  by_cases hg : h ≤ g
  · have q : 4611686018427387904 - totT h n ≤ (g * 18446744073709551616 + s) / h := by
      rw [Nat.le_div_iff_mul_le h0]
      have : h * 18446744073709551616 ≤ g * 18446744073709551616 := Nat.mul_le_mul_right _ hg
      have : (4611686018427387904 - totT h n) * h ≤ 18446744073709551616 * h := Nat.mul_le_mul_right _ (by omega)
      omega
    have e := mf _ rfl q
    exact .inl ⟨hg, e, fr e⟩
  · refine .inr ⟨by omega, rfl, rfl, ?_⟩
    by_cases q : 4611686018427387904 - totT h n ≤ (g * 18446744073709551616 + s) / h
    · have e := mf _ rfl q
      exact .inl ⟨q, e, fr e⟩
    · have e := mn _ _ rfl rfl (by omega)
      exact .inr ⟨by omega, e.1, e.2⟩

theorem Turn.sc {N M h n : Nat} {w w' : World} (t : Turn N w w') (c : Sc w M h n) (ne : M ≠ N) : Sc w' M h n := by
  have := c.lt
  unfold Sc at c ⊢
  rw [t.keep M ne this]
  exact c

/-- A new scale. -/
def NewP10 (w : World) (h n : Nat) (r : Ending) (w' : World) : Prop := ∃ N, r = .returned (.tuple #[.pointer (some ⟨N, 0, none⟩), .int .i64 0]) ∧ Sc w' N h n ∧ w.heap.size ≤ N ∧ Below w.heap.size w w'
def NoneP10 (w : World) (r : Ending) (w' : World) : Prop := r = .returned (.tuple #[.pointer none, .int .i64 1]) ∧ Below w.heap.size w w'

theorem pnew10_ok (w : World) (h : Nat) (h0 : 0 < h) (h1 : h ≤ 1000000000000) :
    Calls Try.prog 8 #[.int .u64 (h : Nat)] w (NewP10 w h 0) := by
  have M := pmay10_any w h
  rw [decide_eq_true (⟨h0, h1⟩ : 0 < h ∧ h ≤ 1000000000000)] at M
  have M1 := Lib.hid M
  have F : Hid (NewP10 w h 0 (.returned (.tuple #[.pointer (some ⟨w.heap.size, 0, none⟩), .int .i64 0])) (w.alloc (.cells #[.int .u64 (h : Nat), .int .i64 0, .int .u64 0] 40))) :=
    ⟨_, rfl, by unfold Sc; rw [tot_zero, res_zero]; exact heap_alloc_new _ _, Nat.le_refl _, (Below.refl _ _).alloc (Nat.le_refl _) _⟩
  clear M h0 h1
  go_enter Try.func8, Try.ntmps8
  go_wp2_with fail
  refine M1.out.mono ?_; rintro e w1 ⟨rfl, rfl⟩
  go_wp2
  go_ret2
  exact F.out
theorem pnew10_no (w : World) (h : Nat) (h0 : ¬ (0 < h ∧ h ≤ 1000000000000)) :
    Calls Try.prog 8 #[.int .u64 (h : Nat)] w (NoneP10 w) := by
  have M := pmay10_any w h
  rw [decide_eq_false h0] at M
  have M1 := Lib.hid M
  clear M h0
  go_enter Try.func8, Try.ntmps8
  go_wp2_with fail
  refine M1.out.mono ?_; rintro e w1 ⟨rfl, rfl⟩
  go_wp2
  go_ret2
  exact ⟨rfl, Below.refl _ _⟩

def ToP10 (w : World) (N h n d : Nat) (r : Ending) (w' : World) : Prop := r = .returned (.int .i64 (d : Nat)) ∧ Sc w' N h n ∧ Turn N w w'

set_option maxHeartbeats 1000000 in
theorem pto10_any (w : World) (N h n x m d : Nat) (c : Sc w N h n) (h0 : 0 < h) (h1 : h ≤ 1000000000000) (hx : x < 18446744073709551616) (hm : n + x = m) (hd : totT h n + d = totT h m) :
    Calls Try.prog 14 #[.pointer (some ⟨N, 0, none⟩), .int .u64 (x : Nat)] w (ToP10 w N h m d) := by
  have MD := Lib.hid (pmade10_any w N h n c h0)
  have AF := Lib.hid (pafter10_any w h n x h0 h1 hx)
  rw [hm] at AF
  have CC := Lib.hid c
  have tl := tot_le h m
  have F : Hid (∀ w', w'.heap[N]? = some (.cells (scC h (totT h m) (resT h m)) 40 (0, 0)) → Turn N w w' → ToP10 w N h m d (.returned (.int .i64 (d : Nat))) w') := fun w' a b => ⟨rfl, a, b⟩
  unfold scC at F
  unfold Sc scC at CC
  obtain ⟨t0, e0⟩ : ∃ t, totT h n = t := ⟨_, rfl⟩
  obtain ⟨t1, e1⟩ : ∃ t, totT h m = t := ⟨_, rfl⟩
  obtain ⟨r0, e2⟩ : ∃ t, resT h n = t := ⟨_, rfl⟩
  obtain ⟨r1, e3⟩ : ∃ t, resT h m = t := ⟨_, rfl⟩
  simp only [e0, e1, e2, e3] at *
  have D1 : (t1 : Int) - (t0 : Int) = (d : Int) := by omega
  have D2 : IntKind.i64.wrap (d : Int) = (d : Int) := by rw [IntKind.wrap_i64]; omega
  clear c h0 h1 hx hm hd tl e0 e1 e2 e3
  have c0 := blk_cell (o := 0) CC.out
  have c1 := blk_cell (o := 1) CC.out
  have c2 := blk_cell (o := 2) CC.out
  simp only [List.getElem?_toArray, List.getElem?_cons_zero, List.getElem?_cons_succ] at c0 c1 c2
  go_enter Try.func14, Try.ntmps14
  go_wp2_with fail
  refine MD.out.mono ?_; rintro e w1 ⟨rfl, rfl⟩
  go_wp2_with fail
  refine AF.out.mono ?_; rintro e w2 ⟨rfl, l2⟩
  have K : Hid (w2.heap[N]? = some (.cells #[.int .u64 (h : Nat), .int .i64 (t0 : Nat), .int .u64 (r0 : Nat)] 40 (0, 0))) := (l2.block N (Array.getElem?_eq_some_iff.1 CC.out).1).trans CC.out
  have T : Hid (Turn N w1 w2) := Turn.of_below l2
  have f0 := blk_free (o := 0) K.out
  have f1 := blk_free (o := 1) K.out
  have f2 := blk_free (o := 2) K.out
  have g0 := blk_cell (o := 0) K.out
  have g1 := blk_cell (o := 1) K.out
  have g2 := blk_cell (o := 2) K.out
  have k1 : (((w2.setCell ⟨N, 0, none⟩ (.int .u64 (h : Nat))).setCell ⟨N, 1, none⟩ (.int .i64 (t1 : Nat))).setCell ⟨N, 2, none⟩ (.int .u64 (r1 : Nat))).cell? ⟨N, 1, none⟩ = some (.int .i64 (t1 : Nat)) := blk_cell (three_set K.out _ _ _)
  have FF := Lib.hid (F.out _ (three_set K.out _ _ _) (((T.out.set (o := 0) (.int .u64 (h : Nat))).set (o := 1) (.int .i64 (t1 : Nat))).set (o := 2) (.int .u64 (r1 : Nat))))
  clear l2 c0 c1 c2 F T K CC
  go_wp2
  go_ret
  exact FF.out

theorem ptotal10_any (w : World) (N h n : Nat) (c : Sc w N h n) (h0 : 0 < h) :
    Calls Try.prog 16 #[.pointer (some ⟨N, 0, none⟩)] w fun r w' => r = .returned (.int .i64 (totT h n : Nat)) ∧ w' = w := by
  have MD := Lib.hid (pmade10_any w N h n c h0)
  have c1 := c.at.2.1
  generalize totT h n = t at *
  clear c h0
  go_enter Try.func16, Try.ntmps16
  go_wp2_with fail
  refine MD.out.mono ?_; rintro e w1 ⟨rfl, rfl⟩
  go_wp2
  go_ret
  exact ⟨rfl, rfl⟩

def tickN (h : Nat) : Nat := if 0 < h ∧ h ≤ 1000000000000 then tickT h else 0

theorem ptick10_any (w : World) (h : Nat) :
    Calls Try.prog 10 #[.int .u64 (h : Nat)] w fun r w' => r = .returned (.int .i64 (tickN h : Nat)) ∧ w' = w := by
  have M := pmay10_any w h
  by_cases g : 0 < h ∧ h ≤ 1000000000000
  · rw [decide_eq_true g] at M
    have M1 := Lib.hid M
    have E : Hid (tickN h = tickT h) := by unfold tickN; rw [if_pos g]; rfl
    obtain ⟨a, ha⟩ : ∃ a, a = 1000000000 + h := ⟨_, rfl⟩
    obtain ⟨b, hb⟩ : ∃ b, b + 1 = a := ⟨a - 1, by omega⟩
    obtain ⟨t, ht⟩ : ∃ t, t = b / h := ⟨_, rfl⟩
    have ET : Hid (tickT h = t) := by unfold tickT Hid; rw [ht]; congr 1; omega
    have tl : t ≤ 1000000000 := by rw [← ET.out]; exact tick_le g.1
    have A1 : (1000000000 : Int) + (h : Int) = (a : Int) := by omega
    have A2 : IntKind.u64.wrap (a : Int) = (a : Int) := by rw [IntKind.wrap_u64]; omega
    have A3 : (a : Int) - 1 = (b : Int) := by omega
    have A4 : IntKind.u64.wrap (b : Int) = (b : Int) := by rw [IntKind.wrap_u64]; omega
    have A5 : (b : Int) / (h : Int) = (t : Int) := by rw [ht]; simp
    have A6 : IntKind.i64.wrap (t : Int) = (t : Int) := by rw [IntKind.wrap_i64]; omega
    have A7 : IntKind.u64.wrap (t : Int) = (t : Int) := by rw [IntKind.wrap_u64]; omega
    have n1 : ((h : Int) == 0) = false := by rw [beq_eq_false_iff_ne]; omega
    have n2 : ¬ (h : Int) = 0 := by omega
    have n3 : ¬ h = 0 := by omega
    clear M g ha hb ht tl
    go_enter Try.func10, Try.ntmps10
    go_wp2_with fail
    refine M1.out.mono ?_; rintro e w1 ⟨rfl, rfl⟩
    go_wp2
    go_ret
    exact ⟨ret_int (by rw [E.out, ET.out]), rfl⟩
  · rw [decide_eq_false g] at M
    have M1 := Lib.hid M
    have E : Hid (tickN h = 0) := by unfold tickN; rw [if_neg g]; rfl
    clear M g
    go_enter Try.func10, Try.ntmps10
    go_wp2_with fail
    refine M1.out.mono ?_; rintro e w1 ⟨rfl, rfl⟩
    go_wp2
    go_ret
    exact ⟨by rw [E.out]; rfl, rfl⟩

theorem pstick10_any (w : World) (N h n : Nat) (c : Sc w N h n) (h0 : 0 < h) :
    Calls Try.prog 19 #[.pointer (some ⟨N, 0, none⟩)] w fun r w' => r = .returned (.int .i64 (tickN h : Nat)) ∧ w' = w := by
  have MD := Lib.hid (pmade10_any w N h n c h0)
  have TK := Lib.hid (ptick10_any w h)
  have c1 := c.at.1
  clear c h0
  go_enter Try.func19, Try.ntmps19
  go_wp2_with fail
  refine MD.out.mono ?_; rintro e w1 ⟨rfl, rfl⟩
  go_wp2_with fail
  refine TK.out.mono ?_; rintro e w2 ⟨rfl, rfl⟩
  go_wp2
  go_ret
  exact ⟨rfl, rfl⟩

def CopyP10 (w : World) (h n : Nat) (r : Ending) (w' : World) : Prop := ∃ N, r = .returned (.pointer (some ⟨N, 0, none⟩)) ∧ Sc w' N h n ∧ w.heap.size ≤ N ∧ Below w.heap.size w w'
theorem pcopy10_any (w : World) (N h n : Nat) (c : Sc w N h n) (h0 : 0 < h) :
    Calls Try.prog 13 #[.pointer (some ⟨N, 0, none⟩)] w (CopyP10 w h n) := by
  have MD := Lib.hid (pmade10_any w N h n c h0)
  obtain ⟨c0, c1, c2⟩ := c.at
  have F : Hid (CopyP10 w h n (.returned (.pointer (some ⟨w.heap.size, 0, none⟩))) (w.alloc (.cells #[.int .u64 (h : Nat), .int .i64 (totT h n : Nat), .int .u64 (resT h n : Nat)] 40))) :=
    ⟨_, rfl, heap_alloc_new _ _, Nat.le_refl _, (Below.refl _ _).alloc (Nat.le_refl _) _⟩
  generalize totT h n = t at *
  generalize resT h n = r at *
  clear c h0
  go_enter Try.func13, Try.ntmps13
  go_wp2_with fail
  refine MD.out.mono ?_; rintro e w1 ⟨rfl, rfl⟩
  go_wp2
  go_ret
  exact F.out

attribute [local go_sem ↓] eqlC_eq neqC_eq

theorem pfullq10_any (w : World) (N h n : Nat) (c : Sc w N h n) (h0 : 0 < h) :
    Calls Try.prog 18 #[.pointer (some ⟨N, 0, none⟩)] w fun r w' => r = .returned (.bool (decide (totT h n = 4611686018427387904))) ∧ Below w.heap.size w w' := by
  have MD := Lib.hid (fun (w' : World) (b : Below w.heap.size w w') => pmade10_any w' N h n (c.below b) h0)
  have FU := Lib.hid (fun V w' (hb : Below V.heap.size V w') => show Calls Try.prog 29 #[.int .u64 (h : Nat)] w' fun e w'' => e = .returned (.agg #[.int .u64 (h : Nat), .int .i64 4611686018427387904, .int .u64 0]) ∧ Below V.heap.size V w'' from
    (pfull10_any w' h).mono fun e w'' ⟨a, b⟩ => ⟨a, hb.trans (b.mono hb.size)⟩)
  have fr := res_full (h := h) (n := n)
  obtain ⟨z, hz⟩ : ∃ z, decide (totT h n = 4611686018427387904) = z := ⟨_, rfl⟩
  have EQ : ∀ w' : World, (eqlC (.agg #[.int .u64 (h : Int), .int .i64 (totT h n : Int), .int .u64 (resT h n : Int)]) (.agg #[.int .u64 (h : Int), .int .i64 4611686018427387904, .int .u64 0])).run Try.prog w' = .ok (.bool z) w' := fun w' => eql_sc w' _ _ _ _ _ _ z (by
    rw [← hz, decide_eq_decide]
    constructor
    · rintro ⟨-, a, -⟩; omega
    · intro a; exact ⟨rfl, by omega, by rw [fr a]; rfl⟩)
  rw [hz]
  have KK : Hid (∀ w', Below w.heap.size w w' → w'.cell? ⟨N, 0, none⟩ = some (.int .u64 (h : Nat)) ∧ w'.cell? ⟨N, 1, none⟩ = some (.int .i64 (totT h n : Nat)) ∧ w'.cell? ⟨N, 2, none⟩ = some (.int .u64 (resT h n : Nat))) := fun w' b => (c.below b).at
  generalize totT h n = t at *
  generalize resT h n = r at *
  clear c h0 fr hz
  have HB0 : Below w.heap.size w w := Below.refl _ _
  go_enter Try.func18, Try.ntmps18
  go_wp2_with fail
  go_region_held3 (fun w' => w'.cell? ⟨N, 0, none⟩ = some (.int .u64 (h : Nat)) ∧ w'.cell? ⟨N, 1, none⟩ = some (.int .i64 (t : Nat)) ∧ w'.cell? ⟨N, 2, none⟩ = some (.int .u64 (r : Nat)))
    (first | exact KK.out _ HB0 | exact KK.out _ HB0.drew)
    (first
      | (go_at_call 21; refine (MD.out _ (by first | exact HB0 | exact HB0.drew)).mono ?_; rintro e w4 ⟨rfl, rfl⟩)
      | (go_at_call 29; refine (FU.out _ _ (by first | exact HB0 | exact HB0.drew)).mono ?_; rintro e w5 ⟨rfl, HB0⟩))
  all_goals
    go_wp2
    go_ret
    exact ⟨rfl, HB0⟩
end Go.Proofs.Ytccfimempjbnfaa
