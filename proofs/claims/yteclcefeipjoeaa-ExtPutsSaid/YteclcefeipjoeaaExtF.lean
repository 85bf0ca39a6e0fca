/- Layer 5 (ext), the program's: whether two are the same. -/
import Derived.Test.YteclcefeipjoeaaExtE
import Derived.Test.YteclcefeipjoeaaOctE
namespace Go.Proofs.Yteclcefeipjoeaa
open Go.ChangeShapes Go.WideShapes Go.ChangeAt Go.RowKit OctM

/-- The test that is handed to EqualFunc. -/
theorem peq_any (w : World) (f g : Fld) (hf : Holds w f.p f.n f.c (valsN .u8 f.ds)) (hg : Holds w g.p g.n g.c (valsN .u8 g.ds)) (yf : f.ty < 65536 ∧ Byt f.ds) (yg : g.ty < 65536 ∧ Byt g.ds) :
    Calls Try.prog 35 #[.agg #[.int .u16 (f.ty : Nat), .slice f.p f.n f.c], .agg #[.int .u16 (g.ty : Nat), .slice g.p g.n g.c]] w fun e w' => e = .returned (.bool (decide ((f.ty, f.ds) = (g.ty, g.ds)))) ∧ Below w.heap.size w w' := by
  have L0 : Hid (Below w.heap.size w ((w.alloc (.cells #[.int .u16 (f.ty : Nat), .slice f.p f.n f.c] 44)).alloc (.cells #[.int .u16 (g.ty : Nat), .slice g.p g.n g.c] 44))) := ((Below.refl _ _).alloc (Nat.le_refl _) _).alloc (by simp) _
  have BE := Lib.hid (fun w' (b : Below w.heap.size w w') => bequal_any w' f.p g.p f.n f.c g.n g.c f.ds g.ds (hf.below b) (hg.below b) yf.2 yg.2)
  by_cases te : f.ty = g.ty
  · obtain ⟨d, hd⟩ : ∃ d, decide (f.ds = g.ds) = d := ⟨_, rfl⟩
    have E : Hid (decide ((f.ty, f.ds) = (g.ty, g.ds)) = d) := by
      unfold Hid
      rw [← hd, decide_eq_decide, Prod.mk.injEq]
      exact ⟨fun h => h.2, fun h => ⟨te, h⟩⟩
    rw [E.out]
    rw [hd] at BE
    clear E hd
    generalize f.ty = t1 at *
    generalize g.ty = t2 at *
    subst te
    clear hf hg yf yg
    go_enter Try.func35, Try.ntmps35
    go_wp2_with fail
    refine (BE.out _ L0.out).mono ?_; rintro e w' ⟨rfl, rfl⟩
    go_wp2
    go_ret
    exact ⟨rfl, L0.out⟩
  · have E : decide ((f.ty, f.ds) = (g.ty, g.ds)) = false := by
      rw [decide_eq_false_iff_not, Prod.mk.injEq]
      exact fun h => te h.1
    rw [E]
    clear E BE
    generalize f.ty = t1 at *
    generalize g.ty = t2 at *
    have f1 : ((t1 : Int) == (t2 : Int)) = false := by simp; omega
    have f2 : ((t1 : Int) != (t2 : Int)) = true := by simp; omega
    have f3 : ¬ (t1 : Int) = (t2 : Int) := by omega
    clear te hf hg yf yg
    go_enter Try.func35, Try.ntmps35
    go_wp2
    go_ret
    exact ⟨rfl, L0.out⟩

set_option maxHeartbeats 4000000 in
theorem pequal5_any (w : World) (p q : Option Addr) (n c m d : Nat) (fs gs : List Fld) (hx : HoldsX w p n c fs) (hy : HoldsX w q m d gs) (of' : FldsOk fs) (og : FldsOk gs) :
    Calls Try.prog 34 #[.slice p n c, .slice q m d, .func (.func 35) #[] #[]] w fun e w' => e = .returned (.bool (decide (says fs = says gs))) ∧ Below w.heap.size w w' := by
  have mx := hx.max
  have cp := hx.cap
  unfold maxLen at mx
  have my := hy.max
  have cq := hy.cap
  unfold maxLen at my
  have nb : (n : Int) ≤ 9223372036854775807 := by omega
  have mb : (m : Int) ≤ 9223372036854775807 := by omega
  have la := hx.len
  have lb := hy.len
  by_cases e : n = m
  · subst e
    have HX := Lib.hid hx
    have HY := Lib.hid hy
    have LA := Lib.hid la
    have LB := Lib.hid lb
    have OF := Lib.hid of'
    have OG := Lib.hid og
    have e1 : ((n : Int) != (n : Int)) = false := by simp
    have NB : Hid (n ≤ 9223372036854775807) := by unfold Hid; omega
    obtain ⟨b, hb⟩ : ∃ b, decide (says fs = says gs) = b := ⟨_, rfl⟩
    rw [hb]
    have HB := Lib.hid hb
    clear hx hy la lb mx cp my cq of' og hb
    go_enter Try.func34, Try.ntmps34
    go_wp2_with fail
    go_loopw [17] (fun i wr => ∃ k : Nat, i = .int .i64 k ∧ Hid (k ≤ n) ∧ Hid ((says fs).take k = (says gs).take k) ∧ Hid (Below w.heap.size w wr)) (fun i _ => n - (intOf i).toNat)
    case atStart => exact ⟨0, rfl, Nat.zero_le _, rfl, Below.refl _ _⟩
    case round =>
      obtain ⟨k, rfl, hk, he, low⟩ := hrel
      have kb : (k : Int) ≤ 9223372036854775807 := by have := hk.out; have := NB.out; omega
      by_cases g : k < n
      · have g' : (k : Int) < (n : Int) := by omega
        have G := Lib.hid g
        obtain ⟨a1, f, rfl, hf, c0, c1, hh⟩ := (HX.out.below low.out).at g
        obtain ⟨a2, f2, rfl, hf2, c2, c3, hh2⟩ := (HY.out.below low.out).at g
        have B0 : Hid (Below wr.heap.size wr ((wr.alloc (.cells #[.int .u16 (f.ty : Nat), .slice f.p f.n f.c] 44)).alloc (.cells #[.int .u16 (f2.ty : Nat), .slice f2.p f2.n f2.c] 44))) := ((Below.refl _ _).alloc (Nat.le_refl _) _).alloc (by simp) _
        have L1 := Lib.hid (low.out.trans (B0.out.mono low.out.size))
        have PE := Lib.hid (peq_any _ f f2 (hh.below B0.out) (hh2.below B0.out) (OF.out f (List.mem_of_getElem? hf)) (OG.out f2 (List.mem_of_getElem? hf2)))
        have c20 : (wr.alloc (.cells #[.int .u16 (f.ty : Nat), .slice f.p f.n f.c] 44)).cell? (a2.add (k * 2)) = some (.int .u16 (f2.ty : Nat)) := (((Below.refl wr.heap.size wr).alloc (Nat.le_refl _) _).cell (World.block_lt_of_cell? wr _ c2)).trans c2
        have c21 : (wr.alloc (.cells #[.int .u16 (f.ty : Nat), .slice f.p f.n f.c] 44)).cell? ⟨(a2.add (k * 2)).block, (a2.add (k * 2)).off + 1, none⟩ = some (.slice f2.p f2.n f2.c) := (((Below.refl wr.heap.size wr).alloc (Nat.le_refl _) _).cell (World.block_lt_of_cell? wr _ c3)).trans c3
        have SF := Lib.hid (says_get hf)
        have SG := Lib.hid (says_get hf2)
        obtain ⟨d, hd⟩ : ∃ d, decide ((f.ty, f.ds) = (f2.ty, f2.ds)) = d := ⟨_, rfl⟩
        rw [hd] at PE
        have HD := Lib.hid hd
        clear g hf hf2 hh hh2 hd B0 hk c2 c3
        go_wp2_with fail
        refine PE.out.mono ?_; rintro e w2 ⟨rfl, l2⟩
        have L2 : Hid (Below w.heap.size w w2) := L1.out.trans (l2.mono L1.out.size)
        clear l2
        rcases d with _ | _
        · have FIN : Hid (b = false) := by
            unfold Hid
            rw [← HB.out]
            refine decide_eq_false fun h => of_decide_eq_false HD.out ?_
            have a := SF.out
            rw [h, SG.out] at a
            injection a with a
            exact a.symm
          go_wp2
          go_ret
          exact ⟨ret_bool FIN.out.symm, L2.out⟩
        · go_wp2
          go_roundw
          case rel =>
            refine ⟨k + 1, by go_num, G.out, ?_, L2⟩
            unfold Hid
            rw [take_snoc SF.out, take_snoc SG.out, he.out, of_decide_eq_true HD.out]
          case measure => simp [intOf]; have := G.out; omega
      · have g' : (n : Int) ≤ (k : Int) := by omega
        have FIN : Hid (b = true) := by
          unfold Hid
          rw [← HB.out]
          have h := he.out
          rw [List.take_of_length_le (by rw [says_len, LA.out]; omega), List.take_of_length_le (by rw [says_len, LB.out]; omega)] at h
          exact decide_eq_true h
        clear g he hk
        go_wp2
        go_ret
        exact ⟨ret_bool FIN.out.symm, low.out⟩
  · have FIN : Hid (decide (says fs = says gs) = false) := by
      unfold Hid
      rw [decide_eq_false_iff_not]
      intro h
      have := congrArg List.length h
      rw [says_len, says_len] at this
      omega
    rw [FIN.out]
    have f1 : ((n : Int) != (m : Int)) = true := by simp; omega
    have f2 : ((n : Int) == (m : Int)) = false := by simp; omega
    have f3 : ¬ (n : Int) = (m : Int) := by omega
    clear hx hy la lb e mx cp my cq of' og
    go_enter Try.func34, Try.ntmps34
    go_wp2
    go_ret
    exact ⟨rfl, Below.refl _ _⟩

theorem psame5_any (w : World) (p q : Option Addr) (n c m d : Nat) (fs gs : List Fld) (hx : HoldsX w p n c fs) (hy : HoldsX w q m d gs) (of' : FldsOk fs) (og : FldsOk gs) :
    Calls Try.prog 19 #[.slice p n c, .slice q m d] w fun e w' => e = .returned (.bool (decide (says fs = says gs))) ∧ Below w.heap.size w w' := by
  have PE := Lib.hid (pequal5_any w p q n c m d fs gs hx hy of' og)
  clear hx hy of' og
  generalize decide (says fs = says gs) = b at *
  go_enter Try.func19, Try.ntmps19
  go_wp2_with fail
  refine PE.out.mono ?_; rintro e w' ⟨rfl, low⟩
  have LOW := Lib.hid low
  clear low
  go_wp2
  go_ret
  exact ⟨rfl, LOW.out⟩
end Go.Proofs.Yteclcefeipjoeaa
