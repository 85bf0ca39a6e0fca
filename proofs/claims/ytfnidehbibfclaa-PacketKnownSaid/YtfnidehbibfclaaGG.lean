/- Texts of earlier layers, laid together: XExtA XExtB XExtC XExtM XExtD XExtE XExtF XExtG. -/
import Derived.Test.YtfnidehbibfclaaGA
import Derived.Test.YtfnidehbibfclaaGB
import Derived.LoopTactic
import Derived.Deep.QuietTactic
import Derived.BigQuiet
import Derived.Deep.RegionHeld3
import Derived.Deep.AppendLies
import Derived.Test.YtfnidehbibfclaaGD
import Derived.Test.YtfnidehbibfclaaGC
set_option maxRecDepth 100000
/- Slices of extension fields (a type, bytes behind a slice of their own): for layers 5, 7 and on. -/
namespace Go.Proofs.Ytfnidehbibfclaa
open Go.ChangeShapes Go.WideShapes Go.ChangeAt Go.RowKit OctM

/-- A field as it lies: its type, where its bytes lie, its bytes. -/
structure Fld where
  ty : Nat
  p : Option Addr
  n : Nat
  c : Nat
  ds : List Nat
structure HoldsX (w : World) (p : Option Addr) (n c : Nat) (fs : List Fld) : Prop where
  len : fs.length = n
  cap : n ≤ c
  max : c ≤ maxLen
  bare : p = none → c = 0
  cell : ∀ i f, fs[i]? = some f → ∃ a, p = some a ∧ w.cell? (a.add (i * 2)) = some (.int .u16 (f.ty : Nat)) ∧ w.cell? (a.add (i * 2 + 1)) = some (.slice f.p f.n f.c) ∧ Holds w f.p f.n f.c (valsN .u8 f.ds)
def FldsOk (fs : List Fld) : Prop := ∀ f ∈ fs, f.ty < 65536 ∧ Byt f.ds
/-- what they say: types and bytes. -/
abbrev Says := List (Nat × List Nat)
def says (fs : List Fld) : Says := fs.map fun f => (f.ty, f.ds)
theorem HoldsX.below {w w' : World} {p : Option Addr} {n c : Nat} {fs : List Fld} (h : HoldsX w p n c fs) (hb : Below w.heap.size w w') : HoldsX w' p n c fs := by
  refine ⟨h.len, h.cap, h.max, h.bare, fun i f hf => ?_⟩
  obtain ⟨a, ha, c1, c2, hh⟩ := h.cell i f hf
  exact ⟨a, ha, (hb.cell (World.block_lt_of_cell? w _ c1)).trans c1, (hb.cell (World.block_lt_of_cell? w _ c2)).trans c2, hh.below hb⟩
theorem fld_next (a : Addr) (x : Nat) : (⟨(a.add x).block, (a.add x).off + 1, none⟩ : Addr) = a.add (x + 1) := by
  unfold Addr.add
  by_cases h : x = 0
  · subst h; simp
  · rw [if_neg h, if_neg (by omega)]
    simp [Nat.add_assoc]
/-- A field at its place, in the walk's own words. -/
theorem HoldsX.at {w : World} {p : Option Addr} {n c : Nat} {fs : List Fld} (h : HoldsX w p n c fs) {i : Nat} (hi : i < n) : ∃ a f, p = some a ∧ fs[i]? = some f ∧ w.cell? (a.add (i * 2)) = some (.int .u16 (f.ty : Nat)) ∧ w.cell? ⟨(a.add (i * 2)).block, (a.add (i * 2)).off + 1, none⟩ = some (.slice f.p f.n f.c) ∧ Holds w f.p f.n f.c (valsN .u8 f.ds) := by
  have hf : fs[i]? = some (fs[i]'(by rw [h.len]; exact hi)) := List.getElem?_eq_getElem _
  obtain ⟨a, ha, c1, c2, hh⟩ := h.cell i _ hf
  exact ⟨a, _, ha, hf, c1, by rw [fld_next]; exact c2, hh⟩

/-- may a field's data have so many bytes? -/
def longN (n : Nat) : Prop := 12 ≤ n ∧ n ≤ 464 ∧ n % 4 = 0
instance (n : Nat) : Decidable (longN n) := by unfold longN; exact inferInstance
def mayX (l : Says) : Prop := (∀ x ∈ l, longN x.2.length) ∧ l.length ≤ 8
instance (l : Says) : Decidable (mayX l) := by unfold mayX; exact inferInstance
/-- a field's bytes. -/
def bytesF (x : Nat × List Nat) : List Nat := [x.1 / 256, x.1 % 256, (x.2.length + 4) / 256, (x.2.length + 4) % 256] ++ x.2
def bytesX (l : Says) : List Nat := l.flatMap bytesF

theorem rlong5_any (w : World) (n : Nat) (hn : n < 9223372036854775808) :
    Calls Try.prog 72 #[.int .i64 n] w fun e w' => e = .returned (.bool (decide (longN n))) ∧ w = w' := by
  have FIN : ∀ b, (b = true ↔ longN n) → decide (longN n) = b := fun b hb => by
    rw [Bool.eq_iff_iff, decide_eq_true_iff]; exact hb.symm
  by_cases h1 : 12 ≤ n
  · have g1 : decide ((12 : Int) ≤ (n : Int)) = true := by simp; omega
    have g2 : decide (12 ≤ n) = true := by simp; omega
    by_cases h2 : n ≤ 464
    · have g3 : decide ((n : Int) ≤ 464) = true := by simp; omega
      have g4 : decide (n ≤ 464) = true := by simp; omega
      obtain ⟨m, hm⟩ : ∃ m : Nat, m = n % 4 := ⟨_, rfl⟩
      obtain ⟨b, hb⟩ : ∃ b, b = ((m : Int) == 0) := ⟨_, rfl⟩
      have e := FIN b (by rw [hb, beq_iff_eq]; unfold longN; omega)
      rw [e]
      have e4 : (n : Int) % 4 = (m : Int) := by omega
      have e6 : (n : Int).tmod 4 = (m : Int) := by rw [Int.tmod_eq_emod_of_nonneg (by omega)]; exact e4
      have hb' := hb.symm
      clear e FIN hm h1 h2 hn hb
      go_enter Try.func72, Try.ntmps72
      go_wp2
      go_ret
      exact ⟨rfl, rfl⟩
    · have g3 : decide ((n : Int) ≤ 464) = false := by simp; omega
      have g4 : decide (n ≤ 464) = false := by simp; omega
      have e := FIN false (by unfold longN; simp; omega)
      rw [e]
      clear e FIN h1 h2 hn
      go_enter Try.func72, Try.ntmps72
      go_wp2
      go_ret
      exact ⟨rfl, rfl⟩
  · have g1 : decide ((12 : Int) ≤ (n : Int)) = false := by simp; omega
    have g2 : decide (12 ≤ n) = false := by simp; omega
    have e := FIN false (by unfold longN; simp; omega)
    rw [e]
    clear e FIN h1 hn
    go_enter Try.func72, Try.ntmps72
    go_wp2
    go_ret
    exact ⟨rfl, rfl⟩
end Go.Proofs.Ytfnidehbibfclaa
/- The document's own answers for layer 5 (ext): whether fields may be; what is found; whether two are the same. -/
namespace Go.Proofs.Ytfnidehbibfclaa
open Go.ChangeShapes Go.WideShapes Go.ChangeAt Go.RowKit OctM

theorem says_get {fs : List Fld} {i : Nat} {f : Fld} (h : fs[i]? = some f) : (says fs)[i]? = some (f.ty, f.ds) := by unfold says; rw [List.getElem?_map, h]; rfl
theorem says_len (fs : List Fld) : (says fs).length = fs.length := List.length_map _
theorem says_take (fs : List Fld) (k : Nat) : says (fs.take k) = (says fs).take k := by unfold says; rw [List.map_take]
theorem take_snoc {α : Type} {l : List α} {i : Nat} {x : α} (h : l[i]? = some x) : l.take (i + 1) = l.take i ++ [x] := by
  obtain ⟨hi, rfl⟩ := List.getElem?_eq_some_iff.1 h
  rw [List.take_succ_eq_append_getElem hi]

set_option maxHeartbeats 1600000 in
theorem rmay5_any (w : World) (p : Option Addr) (n c : Nat) (fs : List Fld) (hx : HoldsX w p n c fs) :
    Calls Try.prog 43 #[.slice p n c] w fun e w' => e = .returned (.bool (decide (mayX (says fs)))) ∧ w = w' := by
  have mx := hx.max
  have cp := hx.cap
  unfold maxLen at mx
  have nb : (n : Int) ≤ 9223372036854775807 := by omega
  have ln := hx.len
  have HX := Lib.hid hx
  have LN := Lib.hid ln
  obtain ⟨b, hb⟩ : ∃ b, decide (mayX (says fs)) = b := ⟨_, rfl⟩
  rw [hb]
  have HB := Lib.hid hb
  clear hx mx cp ln hb
  go_enter Try.func43, Try.ntmps43
  go_wp2_with fail
  go_loop [3] (fun i => ∃ k : Nat, i = .int .i64 k ∧ k ≤ n ∧ ∀ x ∈ (says fs).take k, longN x.2.length) (fun i => n - (intOf i).toNat)
  case atStart => exact ⟨0, rfl, Nat.zero_le _, fun x hx => by simp at hx⟩
  case round =>
    obtain ⟨k, rfl, k1, ok⟩ := hrel
    have kb : (k : Int) ≤ 9223372036854775807 := by omega
    by_cases g : k < n
    · have g' : (k : Int) < (n : Int) := by omega
      obtain ⟨a, f, rfl, hf, c0, c1, hh⟩ := HX.out.at g
      have lf : f.ds.length = f.n := by have := hh.len; rwa [valsN_len] at this
      have fb : f.n < 9223372036854775808 := by have := hh.cap; have := hh.max; unfold maxLen at this; omega
      have RL := Lib.hid (fun w => rlong5_any w f.n fb)
      obtain ⟨d, hd⟩ : ∃ d, decide (longN f.n) = d := ⟨_, rfl⟩
      rw [hd] at RL
      have SX := Lib.hid (take_snoc (says_get hf))
      have G := Lib.hid g
      have OK := Lib.hid ok
      have LF := Lib.hid lf
      have HD := Lib.hid hd
      have HF := Lib.hid (says_get hf)
      clear ok k1 g hf hh lf fb hd
      rcases d with _ | _
      · have FIN : Hid (b = false) := by
          unfold Hid
          rw [← HB.out]
          refine decide_eq_false fun m => ?_
          have := m.1 _ (List.mem_of_getElem? HF.out)
          have h2 := of_decide_eq_false HD.out
          rw [← LF.out] at h2
          exact h2 this
        go_wp2_with fail
        refine (RL.out _).mono ?_; rintro e w' ⟨rfl, rfl⟩
        go_wp2
        go_ret
        exact ⟨ret_bool FIN.out.symm, rfl⟩
      · go_wp2_with fail
        refine (RL.out _).mono ?_; rintro e w' ⟨rfl, rfl⟩
        go_wp2
        go_round
        case rel =>
          refine ⟨k + 1, by go_num, by have := G.out; omega, fun x hx => ?_⟩
          rw [SX.out] at hx
          rcases List.mem_append.1 hx with h | h
          · exact OK.out x h
          · obtain rfl : x = (f.ty, f.ds) := by simpa using h
            have h2 := of_decide_eq_true HD.out
            rw [← LF.out] at h2
            exact h2
        case measure => simp [intOf]; have := G.out; omega
    · have g' : (n : Int) ≤ (k : Int) := by omega
      have e : (says fs).take k = says fs := List.take_of_length_le (by rw [says_len, LN.out]; omega)
      rw [e] at ok
      have FIN : Hid (b = decide ((n : Int) ≤ 8)) := by
        unfold Hid
        rw [← HB.out, Bool.eq_iff_iff, decide_eq_true_iff, decide_eq_true_iff]
        unfold mayX
        rw [says_len, LN.out]
        constructor
        · intro h; have := h.2; omega
        · intro h; exact ⟨ok, by omega⟩
      obtain ⟨d, hd⟩ : ∃ d, decide ((n : Int) ≤ 8) = d := ⟨_, rfl⟩
      rw [hd] at FIN
      clear g ok e k1
      go_wp2
      go_ret
      exact ⟨ret_bool FIN.out.symm, rfl⟩

theorem HoldsX.drewN {w : World} {p : Option Addr} {n c : Nat} {fs : List Fld} (h : HoldsX w p n c fs) (q : Nat) : HoldsX (w.drewN q) p n c fs := h.below (below_drewN (Below.refl _ _) q)

attribute [local go_sem ↓] strB_eq neqS_eq
set_option maxHeartbeats 4000000 in
theorem rsame5_any (w : World) (p q : Option Addr) (n c m d : Nat) (fs gs : List Fld) (hx : HoldsX w p n c fs) (hy : HoldsX w q m d gs) (of' : FldsOk fs) (og : FldsOk gs) :
    Calls Try.prog 40 #[.slice p n c, .slice q m d] w fun e w' => e = .returned (.bool (decide (says fs = says gs))) ∧ ∃ k, w' = w.drewN k := by
  have mx := hx.max
  have cp := hx.cap
  unfold maxLen at mx
  have my := hy.max
  have cq := hy.cap
  unfold maxLen at my
  have nb : (n : Int) ≤ 9223372036854775807 := by omega
  have mb : (m : Int) ≤ 9223372036854775807 := by omega
  have la := hx.len
  have lb := hy.len
  by_cases e : n = m
  · subst e
    have HX := Lib.hid hx
    have HY := Lib.hid hy
    have LA := Lib.hid la
    have LB := Lib.hid lb
    have OF := Lib.hid of'
    have OG := Lib.hid og
    obtain ⟨b, hb⟩ : ∃ b, decide (says fs = says gs) = b := ⟨_, rfl⟩
    rw [hb]
    have HB := Lib.hid hb
    clear hx hy la lb mx cp my cq of' og hb
    go_enter Try.func40, Try.ntmps40
    go_wp2_with fail
    go_loopw [5] (fun i wr => ∃ k j : Nat, i = .int .i64 k ∧ Hid (k ≤ n) ∧ Hid ((says fs).take k = (says gs).take k) ∧ wr = w.drewN j) (fun i _ => n - (intOf i).toNat)
    case atStart => exact ⟨0, 0, rfl, Nat.zero_le _, rfl, rfl⟩
    case round =>
      obtain ⟨k, j, rfl, hk, he, rfl⟩ := hrel
      have kb : (k : Int) ≤ 9223372036854775807 := by have := hk.out; omega
      by_cases g : k < n
      · have g' : (k : Int) < (n : Int) := by omega
        have G := Lib.hid g
        obtain ⟨a1, f, rfl, hf, c0, c1, hh⟩ := HX.out.at g
        obtain ⟨a2, f2, rfl, hf2, c2, c3, hh2⟩ := HY.out.at g
        have SF := Lib.hid (says_get hf)
        have SG := Lib.hid (says_get hf2)
        have y1 := (OF.out f (List.mem_of_getElem? hf)).2
        have y2 := (OG.out f2 (List.mem_of_getElem? hf2)).2
        obtain ⟨t1, ht1⟩ : ∃ t, t = f.ty := ⟨_, rfl⟩
        obtain ⟨t2, ht2⟩ : ∃ t, t = f2.ty := ⟨_, rfl⟩
        rw [← ht1] at c0 SF
        rw [← ht2] at c2 SG
        have SA : ∀ q', (strB (.slice f.p f.n f.c)).run Try.prog (w.drewN q') = .ok (.string (strN f.ds)) (w.drewN q') := fun q' => str_held (holds_drewN hh q')
        have SB : ∀ q', (strB (.slice f2.p f2.n f2.c)).run Try.prog (w.drewN q') = .ok (.string (strN f2.ds)) (w.drewN q') := fun q' => str_held (holds_drewN hh2 q')
        have NE : ∀ w', (neqS (.string (strN f.ds)) (.string (strN f2.ds))).run Try.prog w' = .ok (.bool (!decide (f.ds = f2.ds))) w' := fun w' => neq_str w' y1 y2
        clear g hf hf2 hh hh2 y1 y2 ht1 ht2
        by_cases te : t1 = t2
        · subst te
          by_cases de : f.ds = f2.ds
          · rw [decide_eq_true de, Bool.not_true] at NE
            have DE := Lib.hid de
            clear de
            go_wp2_with fail
            go_quiet (fail)
            go_wp2
            go_roundw
            case rel =>
              refine ⟨k + 1, _, by go_num, G.out, ?_, by first | exact drewN_add _ _ _ | rfl⟩
              unfold Hid
              rw [take_snoc SF.out, take_snoc SG.out, he.out, DE.out]
            case measure => simp [intOf]; have := G.out; omega
          · rw [decide_eq_false de, Bool.not_false] at NE
            have FIN : Hid (b = false) := by
              unfold Hid
              rw [← HB.out]
              refine decide_eq_false fun h => de ?_
              have a := SF.out
              rw [h, SG.out] at a
              injection a with a
              injection a with _ a
              exact a.symm
            clear de
            go_wp2_with fail
            go_quiet (fail)
            go_wp2
            go_ret
            exact ⟨ret_bool FIN.out.symm, _, by first | exact drewN_add _ _ _ | rfl⟩
        · have f1 : ((t1 : Int) != (t2 : Int)) = true := by simp; omega
          have f2' : ((t1 : Int) == (t2 : Int)) = false := by simp; omega
          have f3 : ¬ (t1 : Int) = (t2 : Int) := by omega
          have FIN : Hid (b = false) := by
            unfold Hid
            rw [← HB.out]
            refine decide_eq_false fun h => te ?_
            have a := SF.out
            rw [h, SG.out] at a
            injection a with a
            injection a with a _
            exact a.symm
          clear te SA SB NE
          go_wp2_with fail
          go_quiet (fail)
          go_wp2
          go_ret
          exact ⟨ret_bool FIN.out.symm, _, by first | exact drewN_add _ _ _ | rfl⟩
      · have g' : (n : Int) ≤ (k : Int) := by omega
        have FIN : Hid (b = true) := by
          unfold Hid
          rw [← HB.out]
          have h := he.out
          rw [List.take_of_length_le (by rw [says_len, LA.out]; omega), List.take_of_length_le (by rw [says_len, LB.out]; omega)] at h
          exact decide_eq_true h
        clear g he hk
        go_wp2
        go_ret
        exact ⟨ret_bool FIN.out.symm, _, rfl⟩
  · have FIN : Hid (decide (says fs = says gs) = false) := by
      unfold Hid
      rw [decide_eq_false_iff_not]
      intro h
      have := congrArg List.length h
      rw [says_len, says_len] at this
      omega
    rw [FIN.out]
    have f1 : ((n : Int) != (m : Int)) = true := by simp; omega
    have f2 : ((n : Int) == (m : Int)) = false := by simp; omega
    have f3 : ¬ (n : Int) = (m : Int) := by omega
    clear hx hy la lb e mx cp my cq of' og
    go_enter Try.func40, Try.ntmps40
    go_wp2
    go_ret
    exact ⟨rfl, 0, rfl⟩
end Go.Proofs.Ytfnidehbibfclaa
/- The document's own answers for layer 5 (ext): what is found; fields' bytes. -/
namespace Go.Proofs.Ytfnidehbibfclaa
open Go.ChangeShapes Go.WideShapes Go.ChangeAt Go.RowKit OctM

theorem bytesF_len (x : Nat × List Nat) : (bytesF x).length = 4 + x.2.length := by unfold bytesF; rw [List.length_append]; rfl
theorem bytesX_nil : bytesX [] = [] := rfl
theorem bytesX_snoc (l : Says) (x : Nat × List Nat) : bytesX (l ++ [x]) = bytesX l ++ bytesF x := by unfold bytesX; rw [List.flatMap_append]; simp
theorem bytesX_byt {l : Says} (h : ∀ x ∈ l, x.1 < 65536 ∧ Byt x.2 ∧ x.2.length ≤ 464) : Byt (bytesX l) := by
  intro d hd
  unfold bytesX at hd
  obtain ⟨x, hx, hd⟩ := List.mem_flatMap.1 hd
  obtain ⟨h1, h2, h3⟩ := h x hx
  unfold bytesF at hd
  rcases List.mem_append.1 hd with h | h
  · simp only [List.mem_cons, List.not_mem_nil, or_false] at h
    omega
  · exact h2 d h
theorem bytesX_le {l : Says} (h : ∀ x ∈ l, longN x.2.length) : (bytesX l).length ≤ 468 * l.length := by
  induction l with
  | nil => exact Nat.zero_le _
  | cons x l ih =>
    have a := h x (List.mem_cons.2 (.inl rfl))
    have b := ih (fun y hy => h y (List.mem_cons.2 (.inr hy)))
    unfold longN at a
    show (bytesF x ++ bytesX l).length ≤ _
    rw [List.length_append, bytesF_len, List.length_cons]
    omega

/-- Fields' bytes so far, in a row of the call's own. -/
structure PutRel (w wr : World) (l : Says) (v : Value) (k : Nat) : Prop where
  own : wr.ownsRow w.heap.size 5 1 v (bytesX (l.take k)).length (valsN .u8 (bytesX (l.take k)))
  low : Below w.heap.size w wr

set_option maxRecDepth 100000 in
set_option maxHeartbeats 8000000 in
theorem rput5_ok (w : World) (p : Option Addr) (n c : Nat) (fs : List Fld) (hx : HoldsX w p n c fs) (ok : FldsOk fs) (my : mayX (says fs)) :
    Calls Try.prog 61 #[.slice p n c] w (RowPost w (bytesX (says fs)).length (bytesX (says fs))) := by
  obtain ⟨i0, hi, hz0, hz1, hz2⟩ := info_of info8
  have ln := hx.len
  have n8 : n ≤ 8 := by have := my.2; rw [says_len] at this; omega
  have nb : (n : Int) ≤ 8 := by omega
  have HX := Lib.hid hx
  have LN := Lib.hid ln
  have OK := Lib.hid ok
  have MY := Lib.hid my
  have N8 := Lib.hid n8
  have RM := Lib.hid (rmay5_any w p n c fs hx)
  rw [decide_eq_true my] at RM
  clear hx ok my ln n8
  go_enter Try.func61, Try.ntmps61
  go_wp2_with fail
  refine RM.out.mono ?_; rintro e w' ⟨rfl, rfl⟩
  go_wp2_with fail
  go_loopw [4, 5] (fun v i wr => ∃ k : Nat, i = .int .i64 k ∧ Hid (k ≤ n) ∧ Hid (PutRel w wr (says fs) v k)) (fun _ i _ => 100 - (intOf i).toNat)
  case atStart => exact ⟨0, rfl, Nat.zero_le _, ⟨World.ownsRow_nil w _ _ 1, Below.refl _ _⟩⟩
  case round =>
    obtain ⟨k, rfl, hk, h⟩ := hrel
    by_cases g : k < n
    · have g' : (k : Int) < (n : Int) := by omega
      have G := Lib.hid g
      obtain ⟨a, f, rfl, hf, c0, c1, hh⟩ := (HX.out.below h.out.low).at g
      have lf : f.ds.length = f.n := by have := hh.len; rwa [valsN_len] at this
      have SF := says_get hf
      have lg := MY.out.1 _ (List.mem_of_getElem? SF)
      simp only at lg
      rw [lf] at lg
      have tf := (OK.out f (List.mem_of_getElem? hf)).1
      obtain ⟨t, ht⟩ : ∃ t, t = f.ty := ⟨_, rfl⟩
      obtain ⟨th, hth⟩ : ∃ x, x = t / 256 := ⟨_, rfl⟩
      obtain ⟨tl, htl⟩ : ∃ x, x = t % 256 := ⟨_, rfl⟩
      obtain ⟨m, hm⟩ : ∃ x, x = f.n + 4 := ⟨_, rfl⟩
      obtain ⟨nh, hnh⟩ : ∃ x, x = m / 256 := ⟨_, rfl⟩
      obtain ⟨nl, hnl⟩ : ∃ x, x = m % 256 := ⟨_, rfl⟩
      unfold longN at lg
      have fn : (f.n : Int) ≤ 464 := by omega
      have e1 : (f.n : Int) + 4 = (m : Int) := by omega
      have e2 : (t : Int) / 256 = (th : Int) := by omega
      have e3 : (t : Int) % 256 = (tl : Int) := by omega
      have e4 : (m : Int) / 256 = (nh : Int) := by omega
      have e5 : (m : Int) % 256 = (nl : Int) := by omega
      have e6 : (m : Int).tmod 256 = (nl : Int) := by rw [Int.tmod_eq_emod_of_nonneg (by omega)]; exact e5
      have e7 : (t : Int).tmod 256 = (tl : Int) := by rw [Int.tmod_eq_emod_of_nonneg (by omega)]; exact e3
      have w1 : IntKind.u16.wrap (th : Int) = (th : Int) := by rw [IntKind.wrap_u16]; omega
      have w2 : IntKind.u8.wrap (th : Int) = (th : Int) := by rw [IntKind.wrap_u8]; omega
      have w3 : IntKind.u8.wrap (tl : Int) = (tl : Int) := by rw [IntKind.wrap_u8]; omega
      have w4 : IntKind.i64.wrap (nh : Int) = (nh : Int) := by rw [IntKind.wrap_i64]; omega
      have w5 : IntKind.u8.wrap (nh : Int) = (nh : Int) := by rw [IntKind.wrap_u8]; omega
      have w6 : IntKind.u8.wrap (nl : Int) = (nl : Int) := by rw [IntKind.wrap_u8]; omega
      have w7 : IntKind.i64.wrap ((f.n : Int) + 4) = (m : Int) := by rw [IntKind.wrap_i64]; omega
      have mb : (m : Int) ≤ 468 := by omega
      obtain ⟨L, hL⟩ : ∃ L, L = (bytesX ((says fs).take k)).length := ⟨_, rfl⟩
      have Lb : L ≤ 468 * 8 := by
        have a := bytesX_le (l := (says fs).take k) (fun x hx => MY.out.1 x (List.mem_of_mem_take hx))
        rw [List.length_take, says_len, LN.out] at a
        have := N8.out
        omega
      have BM : Hid (L + 4 ≤ maxLen) := by unfold Hid maxLen; omega
      have BY : Hid ((L + 4) * 1 ≤ 140737488355328) := by unfold Hid; omega
      have BM2 : Hid (L + 4 + f.n ≤ maxLen) := by unfold Hid maxLen; omega
      have BY2 : Hid ((L + 4 + f.n) * 1 ≤ 140737488355328) := by unfold Hid; omega
      have OW := h.out.own
      rw [← hL] at OW
      have NXT : Hid (∀ v w2, w2.ownsRow w.heap.size 5 1 v (L + 4 + f.n) (valsN .u8 (bytesX ((says fs).take k)) ++ [.int .u8 (th : Int), .int .u8 (tl : Int), .int .u8 (nh : Int), .int .u8 (nl : Int)] ++ valsN .u8 f.ds) → Below w.heap.size w w2 → PutRel w w2 (says fs) v (k + 1)) := fun v w2 o l => by
        refine ⟨?_, l⟩
        rw [take_snoc SF, bytesX_snoc, List.length_append, bytesF_len, ← hL, lf, ← Nat.add_assoc, valsN_append]
        have e : valsN .u8 (bytesF (f.ty, f.ds)) = [.int .u8 (th : Int), .int .u8 (tl : Int), .int .u8 (nh : Int), .int .u8 (nl : Int)] ++ valsN .u8 f.ds := by
          unfold bytesF
          rw [valsN_append]
          simp only [lf]
          rw [hth, htl, hnh, hnl, hm, ht]
          rfl
        rw [e, ← List.append_assoc]
        exact o
      rw [← ht] at c0
      have HT := Lib.hid ht
      have LOW := Lib.hid h.out.low
      have HF := Lib.hid hh
      replace OW := Lib.hid OW
      have HFK := Lib.hid hf
      clear h hk hf SF lf lg tf ht hth htl hm hnh hnl hL Lb g hh
      go_wp2_with fail
      have KC : Hid (∀ w', Below w.heap.size w w' → w'.cell? (a.add (k * 2)) = some (.int .u16 (t : Int))) := fun w' b => by
        obtain ⟨a', f', ea, hf', c2, -, -⟩ := (HX.out.below b).at G.out
        cases ea
        have ef := HFK.out
        rw [hf'] at ef
        injection ef with ef
        subst ef
        rw [HT.out]
        exact c2
      have HB0 : Below w.heap.size w wr.drew := LOW.out.drew
      have HB1 : Below w.heap.size w (wr.drew.alloc (.cells #[.int .u8 (th : Int), .int .u8 (tl : Int), .int .u8 (nh : Int), .int .u8 (nl : Int)] 5)) := HB0.alloc HB0.size _
      have LR : Below wr.heap.size wr (wr.drew.alloc (.cells #[.int .u8 (th : Int), .int .u8 (tl : Int), .int .u8 (nh : Int), .int .u8 (nl : Int)] 5)) := (Below.refl _ _).drew.alloc (Nat.le_refl _) _
      have O1 : Hid ((wr.drew.alloc (.cells #[.int .u8 (th : Int), .int .u8 (tl : Int), .int .u8 (nh : Int), .int .u8 (nl : Int)] 5)).ownsRow w.heap.size 5 1 u4 L (valsN .u8 (bytesX ((says fs).take k)))) := own_keep OW.out LR
      have NW : Hid (∀ (j : Nat) (u : Value), ([.int .u8 (th : Int), .int .u8 (tl : Int), .int .u8 (nh : Int), .int .u8 (nl : Int)] : List Value)[j]? = some u → (wr.drew.alloc (.cells #[.int .u8 (th : Int), .int .u8 (tl : Int), .int .u8 (nh : Int), .int .u8 (nl : Int)] 5)).cell? ((⟨wr.heap.size, 0, none⟩ : Addr).add j) = some u) := World.news_of_block (cs := #[.int .u8 (th : Int), .int .u8 (tl : Int), .int .u8 (nh : Int), .int .u8 (nl : Int)]) (heap_alloc_new wr.drew _)
      have B1 : Hid (w.heap.size ≤ (wr.drew.alloc (.cells #[.int .u8 (th : Int), .int .u8 (tl : Int), .int .u8 (nh : Int), .int .u8 (nl : Int)] 5)).heap.size) := HB1.size
      have ONE : Hid (∀ u ∈ ([.int .u8 (th : Int), .int .u8 (tl : Int), .int .u8 (nh : Int), .int .u8 (nl : Int)] : List Value), u.oneCell' = true) := by
        intro u hu
        simp only [List.mem_cons, List.not_mem_nil, or_false] at hu
        rcases hu with rfl | rfl | rfl | rfl <;> rfl
      have ST : Hid (∀ v' w2, w2.ownsRow w.heap.size 5 1 v' (L + 4) (valsN .u8 (bytesX ((says fs).take k)) ++ [.int .u8 (th : Int), .int .u8 (tl : Int), .int .u8 (nh : Int), .int .u8 (nl : Int)]) → (wr.drew.alloc (.cells #[.int .u8 (th : Int), .int .u8 (tl : Int), .int .u8 (nh : Int), .int .u8 (nl : Int)] 5)).grownBy w2 u4.ownBlock → Below w.heap.size w w2) := fun v' w2 _ g => HB1.grown g HB1.size (fun j hj => (World.ownsRow.lt OW.out j hj).1)
      clear LR
      go_region_held3 (fun w' => w'.cell? (a.add (k * 2)) = some (.int .u16 (t : Int)))
        (first | exact KC.out _ HB2 | exact KC.out _ HB1 | exact KC.out _ HB0)
        ((refine step_append_lies _ (by rfl) _ _ _ (by rfl) w.heap.size 5 i0 (.int .u8 0) 1 1 Try.underlying31 hi hz0 hz1 hz2 rfl (by omega) u4 L _ (by rfl) O1.out ⟨wr.heap.size, 0, none⟩ 4 4 [.int .u8 (th : Int), .int .u8 (tl : Int), .int .u8 (nh : Int), .int .u8 (nl : Int)] (by rfl) (by rfl) NW.out ONE.out (by omega) BM.out BY.out B1.out _ rfl ?_; intro gg cap w2 o2 g2 _ _; have HB2 := ST.out _ _ o2 g2))
      have L2 := Lib.hid HB2
      have O2 := Lib.hid o2
      have HD2 : Hid (HoldsX w2 (some a) n c fs) := HX.out.below L2.out
      clear o2 g2
      obtain ⟨a', f', ea, hf', -, c2, hh2⟩ := HD2.out.at G.out
      cases ea
      have ef := HFK.out
      rw [hf'] at ef
      injection ef with ef
      subst ef
      have H2 := Lib.hid hh2
      clear hh2 hf' HD2
      go_wp2_with (at_builtin; refine append_more rfl _ _ 31 rfl w.heap.size 5 i0 (.int .u8 0) 1 Try.underlying31 hi hz0 hz1 hz2 rfl _ (L + 4) _ rfl O2.out f'.p f'.n f'.c (valsN .u8 f'.ds) rfl H2.out (valsN_one _ _) BM2.out BY2.out L2.out.size ?_)
      intro v3 w3 o3 g3 _
      have L3 : Below w.heap.size w w3 := L2.out.grown g3 L2.out.size (fun j hj => (World.ownsRow.lt O2.out j hj).1)
      have NX := Lib.hid (NXT.out v3 w3 (by rw [List.append_assoc]; exact o3) L3)
      clear o3 g3 L3
      go_wp2
      go_roundw
      case rel => exact ⟨k + 1, by go_num, G.out, NX⟩
      case measure => simp [intOf]; omega
    · have g' : (n : Int) ≤ (k : Int) := by omega
      have FIN : Hid (RowPost w (bytesX (says fs)).length (bytesX (says fs)) (.returned (.tuple #[u4, .int .i64 0])) wr) := by
        have e : (says fs).take k = says fs := List.take_of_length_le (by rw [says_len, LN.out]; omega)
        have o := h.out.own
        rw [e] at o
        exact ⟨u4, rfl, o, h.out.low⟩
      clear g hk h
      go_wp2
      go_ret2
      exact FIN.out
end Go.Proofs.Ytfnidehbibfclaa
/- Layer 5 (ext): what fields' bytes say when they are read, as functions of lists; there and back; cut anywhere; what a law makes of any fields. -/
namespace Go.Proofs.Ytfnidehbibfclaa
open Go.ChangeShapes Go.WideShapes Go.ChangeAt Go.RowKit OctM

def doneX (bs : List Nat) : Prop := bs.length = 0 ∨ bs.length = 12
instance (bs : List Nat) : Decidable (doneX bs) := by unfold doneX; exact inferInstance
def lenX (bs : List Nat) : Nat := bs.getD 2 0 * 256 + bs.getD 3 0
def tyX (bs : List Nat) : Nat := bs.getD 0 0 * 256 + bs.getD 1 0
def fldX (bs : List Nat) : Nat × List Nat := (tyX bs, (bs.drop 4).take (lenX bs - 4))
/-- 0: a field stands there; else the error's number. -/
def errX (bs : List Nat) : Nat := if bs.length < 16 then 4 else if ¬ longN (lenX bs - 4) then 5 else if bs.length < lenX bs then 4 else 0
abbrev ParO := Says × List Nat × Nat
def parF : Nat → Says → List Nat → ParO
  | 0, l, bs => if doneX bs then (l, bs, 0) else if errX bs = 0 then ([], [], 7) else ([], [], errX bs)
  | r + 1, l, bs => if doneX bs then (l, bs, 0) else if errX bs = 0 then parF r (l ++ [fldX bs]) (bs.drop (lenX bs)) else ([], [], errX bs)
def parX (bs : List Nat) : ParO := parF 8 [] bs

theorem parF_done {r : Nat} {l : Says} {bs : List Nat} (h : doneX bs) : parF r l bs = (l, bs, 0) := by cases r <;> rw [parF, if_pos h]
theorem parF_err {r : Nat} {l : Says} {bs : List Nat} {e : Nat} (h : ¬ doneX bs) (he : errX bs = e) (e0 : e ≠ 0) : parF r l bs = ([], [], e) := by
  cases r <;> rw [parF, if_neg h, if_neg (by rw [he]; exact e0), he]
theorem parF_full {l : Says} {bs : List Nat} (h : ¬ doneX bs) (he : errX bs = 0) : parF 0 l bs = ([], [], 7) := by rw [parF, if_neg h, if_pos he]
theorem parF_next {r : Nat} {l : Says} {bs : List Nat} (h : ¬ doneX bs) (he : errX bs = 0) : parF (r + 1) l bs = parF r (l ++ [fldX bs]) (bs.drop (lenX bs)) := by rw [parF, if_neg h, if_pos he]

theorem bytesF_cons (x : Nat × List Nat) (t : List Nat) : bytesF x ++ t = (x.1 / 256) :: (x.1 % 256) :: ((x.2.length + 4) / 256) :: ((x.2.length + 4) % 256) :: (x.2 ++ t) := by
  unfold bytesF; rw [List.append_assoc]; rfl
theorem lenX_F (x : Nat × List Nat) (t : List Nat) : lenX (bytesF x ++ t) = x.2.length + 4 := by
  rw [bytesF_cons]
  show (x.2.length + 4) / 256 * 256 + (x.2.length + 4) % 256 = _
  omega
theorem tyX_F (x : Nat × List Nat) (t : List Nat) : tyX (bytesF x ++ t) = x.1 := by
  rw [bytesF_cons]
  show x.1 / 256 * 256 + x.1 % 256 = _
  omega
theorem fldX_F (x : Nat × List Nat) (t : List Nat) : fldX (bytesF x ++ t) = x := by
  unfold fldX
  rw [tyX_F, lenX_F, bytesF_cons, Nat.add_sub_cancel]
  show (x.1, (x.2 ++ t).take x.2.length) = x
  rw [List.take_left]
theorem drop_F (x : Nat × List Nat) (t : List Nat) : (bytesF x ++ t).drop (lenX (bytesF x ++ t)) = t := by
  rw [lenX_F, Nat.add_comm, ← bytesF_len, List.drop_left]
theorem errX_F {x : Nat × List Nat} (t : List Nat) (h : longN x.2.length) : errX (bytesF x ++ t) = 0 := by
  unfold errX
  have a := h
  unfold longN at a
  rw [lenX_F, Nat.add_sub_cancel, List.length_append, bytesF_len, if_neg (by omega), if_neg (fun g => g h), if_neg (by omega)]
theorem done_F {x : Nat × List Nat} (t : List Nat) (h : longN x.2.length) : ¬ doneX (bytesF x ++ t) := by
  unfold doneX
  unfold longN at h
  rw [List.length_append, bytesF_len]
  omega
theorem bytesX_cons (x : Nat × List Nat) (m : Says) : bytesX (x :: m) = bytesF x ++ bytesX m := by unfold bytesX; rw [List.flatMap_cons]

theorem parF_back : ∀ (m : Says) (r : Nat) (l : Says) (t : List Nat), m.length ≤ r → (∀ x ∈ m, longN x.2.length) → parF r l (bytesX m ++ t) = parF (r - m.length) (l ++ m) t
  | [], r, l, t, _, _ => by rw [List.append_nil]; rfl
  | x :: m, 0, l, t, h, _ => by simp at h
  | x :: m, r + 1, l, t, h, g => by
    have gx := g x (List.mem_cons.2 (.inl rfl))
    rw [bytesX_cons, List.append_assoc, parF_next (done_F _ gx) (errX_F _ gx), fldX_F, drop_F, parF_back m r _ t (by simpa using h) (fun y hy => g y (List.mem_cons.2 (.inr hy)))]
    rw [List.append_assoc, List.length_cons, Nat.add_sub_add_right]
    rfl
theorem parX_back {m : Says} {t : List Nat} (h : mayX m) (d : doneX t) : parX (bytesX m ++ t) = (m, t, 0) := by
  unfold parX
  rw [parF_back m 8 [] t h.2 h.1, parF_done d]
  rfl

theorem four_of {bs : List Nat} (h : 4 ≤ bs.length) : ∃ a b c d t, bs = a :: b :: c :: d :: t := by
  match bs, h with
  | a :: b :: c :: d :: t, _ => exact ⟨a, b, c, d, t, rfl⟩

theorem errX_zero {bs : List Nat} (h : errX bs = 0) : 16 ≤ bs.length ∧ longN (lenX bs - 4) ∧ lenX bs ≤ bs.length := by
  unfold errX at h
  by_cases a : bs.length < 16
  · rw [if_pos a] at h; omega
  rw [if_neg a] at h
  by_cases b : longN (lenX bs - 4)
  · rw [if_neg (fun g => g b)] at h
    by_cases c : bs.length < lenX bs
    · rw [if_pos c] at h; omega
    · exact ⟨by omega, b, by omega⟩
  · rw [if_pos b] at h; omega

/-- A field that may be. -/
def goodF (x : Nat × List Nat) : Prop := longN x.2.length ∧ x.1 < 65536 ∧ Byt x.2
theorem F_of {bs : List Nat} (hy : Byt bs) (he : errX bs = 0) : goodF (fldX bs) ∧ bs = bytesF (fldX bs) ++ bs.drop (lenX bs) := by
  obtain ⟨h16, hl, hle⟩ := errX_zero he
  obtain ⟨a, b, c, d, t, rfl⟩ := four_of (bs := bs) (by omega)
  have ya := hy a (by simp)
  have yb := hy b (by simp)
  have yc := hy c (by simp)
  have yd := hy d (by simp)
  have e : lenX (a :: b :: c :: d :: t) = c * 256 + d := rfl
  have f : fldX (a :: b :: c :: d :: t) = (a * 256 + b, t.take (c * 256 + d - 4)) := rfl
  rw [e] at hl hle
  rw [e, f]
  obtain ⟨n, hn⟩ : ∃ n, c * 256 + d = n + 4 := ⟨c * 256 + d - 4, by unfold longN at hl; omega⟩
  rw [hn, Nat.add_sub_cancel] at hl
  rw [hn] at hle
  rw [hn, Nat.add_sub_cancel]
  simp only [List.length_cons] at hle
  have tl : (t.take n).length = n := by rw [List.length_take]; omega
  refine ⟨⟨by show longN (t.take n).length; rw [tl]; exact hl, by show a * 256 + b < 65536; omega, byt_take (fun x hx => hy x (by simp [hx])) n⟩, ?_⟩
  rw [bytesF_cons]
  show _ = (a * 256 + b) / 256 :: (a * 256 + b) % 256 :: ((t.take n).length + 4) / 256 :: ((t.take n).length + 4) % 256 :: (t.take n ++ t.drop n)
  rw [tl, List.take_append_drop, ← hn]
  congr 1
  · omega
  congr 1
  · omega
  congr 1
  · omega
  congr 1
  · omega

theorem parF_spec : ∀ (r : Nat) (l : Says) (bs : List Nat) (o : Says) (t : List Nat), Byt bs → parF r l bs = (o, t, 0) →
    doneX t ∧ ∃ m, o = l ++ m ∧ m.length ≤ r ∧ (∀ x ∈ m, goodF x) ∧ bs = bytesX m ++ t := by
  intro r
  induction r with
  | zero =>
    intro l bs o t hy h
    by_cases d : doneX bs
    · rw [parF_done d] at h
      injection h with h1 h2
      injection h2 with h2 _
      subst h1 h2
      exact ⟨d, [], (List.append_nil _).symm, Nat.le_refl _, (fun x hx => by cases hx), rfl⟩
    · by_cases e : errX bs = 0
      · rw [parF_full d e] at h
        injection h with _ h2
        injection h2 with _ h3
        cases h3
      · rw [parF_err d rfl e] at h
        injection h with _ h2
        injection h2 with _ h3
        exact absurd h3 e
  | succ r ih =>
    intro l bs o t hy h
    by_cases d : doneX bs
    · rw [parF_done d] at h
      injection h with h1 h2
      injection h2 with h2 _
      subst h1 h2
      exact ⟨d, [], (List.append_nil _).symm, Nat.zero_le _, (fun x hx => by cases hx), rfl⟩
    · by_cases e : errX bs = 0
      · rw [parF_next d e] at h
        obtain ⟨g, eb⟩ := F_of hy e
        obtain ⟨dt, m, rfl, hm, hg, hb⟩ := ih _ _ _ _ (byt_drop hy _) h
        refine ⟨dt, fldX bs :: m, by rw [List.append_assoc]; rfl, by rw [List.length_cons]; omega, fun x hx => ?_, ?_⟩
        · rcases List.mem_cons.1 hx with rfl | hx
          · exact g
          · exact hg x hx
        · rw [bytesX_cons, List.append_assoc, ← hb]
          exact eb
      · rw [parF_err d rfl e] at h
        injection h with _ h2
        injection h2 with _ h3
        exact absurd h3 e
theorem parF_bad : ∀ (r : Nat) (l : Says) (bs : List Nat), (parF r l bs).2.2 ≠ 0 → (parF r l bs).1 = [] ∧ (parF r l bs).2.1 = [] := by
  intro r
  induction r with
  | zero =>
    intro l bs h
    by_cases d : doneX bs
    · rw [parF_done d] at h; exact absurd rfl h
    · by_cases e : errX bs = 0
      · rw [parF_full d e]; exact ⟨rfl, rfl⟩
      · rw [parF_err d rfl e]; exact ⟨rfl, rfl⟩
  | succ r ih =>
    intro l bs h
    by_cases d : doneX bs
    · rw [parF_done d] at h; exact absurd rfl h
    · by_cases e : errX bs = 0
      · rw [parF_next d e] at h ⊢; exact ih _ _ h
      · rw [parF_err d rfl e]; exact ⟨rfl, rfl⟩
theorem parX_spec {bs : List Nat} (hy : Byt bs) (h : (parX bs).2.2 = 0) : doneX (parX bs).2.1 ∧ mayX (parX bs).1 ∧ (∀ x ∈ (parX bs).1, goodF x) ∧ bs = bytesX (parX bs).1 ++ (parX bs).2.1 := by
  obtain ⟨d, m, e, hm, hg, hb⟩ := parF_spec 8 [] bs (parX bs).1 (parX bs).2.1 hy (by show parX bs = _; rw [← h])
  rw [List.nil_append] at e
  subst e
  exact ⟨d, ⟨fun x hx => (hg x hx).1, hm⟩, hg, hb⟩
theorem parX_good {bs : List Nat} (hy : Byt bs) : ∀ x ∈ (parX bs).1, goodF x := by
  by_cases h : (parX bs).2.2 = 0
  · exact (parX_spec hy h).2.2.1
  · intro x hx
    have e : (parX bs).1 = [] := (parF_bad 8 [] bs h).1
    rw [e] at hx
    cases hx
theorem parX_byt {bs : List Nat} (hy : Byt bs) : Byt (parX bs).2.1 := by
  by_cases h : (parX bs).2.2 = 0
  · have e := (parX_spec hy h).2.2.2
    intro d hd
    exact hy d (by rw [e]; exact List.mem_append_right _ hd)
  · have e : (parX bs).2.1 = [] := (parF_bad 8 [] bs h).2
    rw [e]
    intro d hd
    cases hd

theorem parF_cut : ∀ (m : Says) (r : Nat) (l : Says) (k : Nat), m.length ≤ r → (∀ x ∈ m, longN x.2.length) → k ≤ (bytesX m).length →
    (∃ j t, j ≤ m.length ∧ parF r l ((bytesX m).take k) = (l ++ m.take j, t, 0) ∧ doneX t ∧ bytesX (m.take j) ++ t = (bytesX m).take k) ∨ parF r l ((bytesX m).take k) = ([], [], 4)
  | [], r, l, k, _, _, hk => by
    refine .inl ⟨0, [], Nat.zero_le _, ?_, .inl rfl, ?_⟩
    · rw [bytesX_nil, List.take_nil, parF_done (.inl rfl)]; simp
    · show bytesX [] ++ [] = _; rw [bytesX_nil, List.take_nil]; rfl
  | x :: m, 0, l, k, h, _, _ => by simp at h
  | x :: m, r + 1, l, k, h, g, hk => by
    have gx := g x (List.mem_cons.2 (.inl rfl))
    have gx' := gx
    unfold longN at gx'
    have fl := bytesF_len x
    by_cases hL : (bytesF x).length ≤ k
    · have e : (bytesX (x :: m)).take k = bytesF x ++ (bytesX m).take (k - (bytesF x).length) := by
        rw [bytesX_cons, List.take_append, List.take_of_length_le hL]
      have hk' : k - (bytesF x).length ≤ (bytesX m).length := by
        rw [bytesX_cons, List.length_append] at hk; omega
      have p : parF (r + 1) l ((bytesX (x :: m)).take k) = parF r (l ++ [x]) ((bytesX m).take (k - (bytesF x).length)) := by
        rw [e, parF_next (done_F _ gx) (errX_F _ gx), fldX_F, drop_F]
      rcases parF_cut m r (l ++ [x]) (k - (bytesF x).length) (by simpa using h) (fun y hy => g y (List.mem_cons.2 (.inr hy))) hk' with ⟨j, t, hj, h1, h2, h3⟩ | h1
      · refine .inl ⟨j + 1, t, by rw [List.length_cons]; omega, ?_, h2, ?_⟩
        · rw [p, h1, List.take_succ_cons, List.append_assoc]; rfl
        · rw [e, List.take_succ_cons, bytesX_cons, List.append_assoc, h3]
      · exact .inr (p.trans h1)
    · have e : (bytesX (x :: m)).take k = (bytesF x ++ []).take k := by
        rw [bytesX_cons, List.take_append_of_le_length (by omega), List.append_nil]
      have el : ((bytesX (x :: m)).take k).length = k := by rw [List.length_take]; omega
      by_cases d : doneX ((bytesX (x :: m)).take k)
      · refine .inl ⟨0, _, Nat.zero_le _, ?_, d, ?_⟩
        · rw [parF_done d]; simp
        · rw [List.take_zero, bytesX_nil]; rfl
      · refine .inr (parF_err d ?_ (by decide))
        unfold errX
        by_cases h16 : k < 16
        · rw [el, if_pos h16]
        · have e2 : lenX ((bytesX (x :: m)).take k) = x.2.length + 4 := by
            obtain ⟨q, rfl⟩ : ∃ q, k = q + 4 := ⟨k - 4, by omega⟩
            rw [e, bytesF_cons]
            show (x.2.length + 4) / 256 * 256 + (x.2.length + 4) % 256 = _
            omega
          rw [el, if_neg h16, e2, Nat.add_sub_cancel, if_neg (fun g => g gx), if_pos (by omega)]

/-- The first 12 fields, of at most 600 bytes each. -/
def fewX (l : Says) : Says := (l.take 12).map fun x => (x.1, x.2.take 600)
theorem fewX_idem (l : Says) : fewX (fewX l) = fewX l := by
  unfold fewX
  rw [List.take_of_length_le (l := (l.take 12).map _) (by rw [List.length_map, List.length_take]; omega), List.map_map]
  refine List.map_congr_left fun x _ => ?_
  show (x.1, (x.2.take 600).take 600) = _
  rw [List.take_take]
  rfl
/-- How many bytes a field's data is brought to have. -/
def bringN (n : Nat) : Nat := min (max n 12) 464 / 4 * 4
theorem bringN_long (n : Nat) : longN (bringN n) := by unfold longN bringN; omega
def bringF (x : Nat × List Nat) : Nat × List Nat := (x.1, x.2.take (bringN x.2.length) ++ List.replicate (bringN x.2.length - x.2.length) 0)
theorem bringF_len (x : Nat × List Nat) : (bringF x).2.length = bringN x.2.length := by
  show (x.2.take _ ++ List.replicate _ 0).length = _
  rw [List.length_append, List.length_take, List.length_replicate]
  omega
/-- Fields, brought to be some that may be. -/
def propX (l : Says) : Says := (l.take 8).map bringF
theorem propX_may (l : Says) : mayX (propX l) := by
  refine ⟨fun x hx => ?_, by unfold propX; rw [List.length_map, List.length_take]; omega⟩
  unfold propX at hx
  obtain ⟨y, _, rfl⟩ := List.mem_map.1 hx
  rw [bringF_len]
  exact bringN_long _
end Go.Proofs.Ytfnidehbibfclaa
/- Fields in new memory; what a Parse tells; loads and stores of one field by value: for layers 5, 7 and on. -/
namespace Go.Proofs.Ytfnidehbibfclaa
open Go.ChangeShapes Go.WideShapes Go.ChangeAt Go.RowKit OctM

/-- Fields' cells, two each. -/
def cellsX (fs : List Fld) : List Value := fs.flatMap fun f => [.int .u16 (f.ty : Nat), .slice f.p f.n f.c]
theorem cellsX_nil : cellsX [] = [] := rfl
theorem cellsX_cons (f : Fld) (fs : List Fld) : cellsX (f :: fs) = .int .u16 (f.ty : Nat) :: .slice f.p f.n f.c :: cellsX fs := by unfold cellsX; rw [List.flatMap_cons]; rfl
theorem cellsX_snoc (fs : List Fld) (f : Fld) : cellsX (fs ++ [f]) = cellsX fs ++ [.int .u16 (f.ty : Nat), .slice f.p f.n f.c] := by unfold cellsX; rw [List.flatMap_append]; simp
theorem cellsX_append (fs gs : List Fld) : cellsX (fs ++ gs) = cellsX fs ++ cellsX gs := by unfold cellsX; rw [List.flatMap_append]
theorem cellsX_len (fs : List Fld) : (cellsX fs).length = fs.length * 2 := by
  induction fs with
  | nil => rfl
  | cons f fs ih => rw [cellsX_cons, List.length_cons, List.length_cons, List.length_cons, ih]; omega
theorem cellsX_one (fs : List Fld) : ∀ u ∈ cellsX fs, u.oneCell' = true := by
  intro u hu
  unfold cellsX at hu
  obtain ⟨f, _, hf⟩ := List.mem_flatMap.1 hu
  simp only [List.mem_cons, List.not_mem_nil, or_false] at hf
  rcases hf with rfl | rfl <;> rfl
theorem cellsX_get : ∀ (fs : List Fld) (i : Nat) (f : Fld), fs[i]? = some f → (cellsX fs)[i * 2]? = some (.int .u16 (f.ty : Nat)) ∧ (cellsX fs)[i * 2 + 1]? = some (.slice f.p f.n f.c)
  | [], i, f, h => by simp at h
  | g :: fs, 0, f, h => by
    have e : g = f := by simpa using h
    subst e
    rw [cellsX_cons]; exact ⟨rfl, rfl⟩
  | g :: fs, i + 1, f, h => by
    rw [cellsX_cons, show (i + 1) * 2 = i * 2 + 1 + 1 by omega]
    exact cellsX_get fs i f (by simpa using h)

/-- Each field's bytes lie there. -/
def DataX (w : World) (fs : List Fld) : Prop := ∀ f ∈ fs, Holds w f.p f.n f.c (valsN .u8 f.ds)
/-- Each field's bytes lie in new memory. -/
def NewsX (B : Nat) (w : World) (fs : List Fld) : Prop := ∀ f ∈ fs, New B w f.p f.n f.c (valsN .u8 f.ds)
theorem New.below {B : Nat} {w w' : World} {p : Option Addr} {n c : Nat} {vs : List Value} (h : New B w p n c vs) (hb : Below w.heap.size w w') : New B w' p n c vs :=
  ⟨h.holds.below hb, h.base, fun a ha i hi => by
    obtain ⟨u, hu⟩ : ∃ u, vs[i]? = some u := ⟨_, List.getElem?_eq_getElem (by rw [h.holds.len]; exact hi)⟩
    obtain ⟨a', e, hc⟩ := h.holds.cell i u hu
    rw [ha] at e
    cases e
    have lt := World.block_lt_of_cell? w _ hc
    have := h.free a ha i hi
    rw [World.frozen?_of_block (hb.block _ lt)]
    exact this⟩
theorem New.low {B B' : Nat} {w : World} {p : Option Addr} {n c : Nat} {vs : List Value} (h : New B w p n c vs) (hb : B' ≤ B) : New B' w p n c vs := ⟨h.holds, fun a ha => Nat.le_trans hb (h.base a ha), h.free⟩
theorem NewsX.below {B : Nat} {w w' : World} {fs : List Fld} (h : NewsX B w fs) (hb : Below w.heap.size w w') : NewsX B w' fs := fun f hf => (h f hf).below hb
theorem NewsX.low {B B' : Nat} {w : World} {fs : List Fld} (h : NewsX B w fs) (hb : B' ≤ B) : NewsX B' w fs := fun f hf => (h f hf).low hb
theorem NewsX.data {B : Nat} {w : World} {fs : List Fld} (h : NewsX B w fs) : DataX w fs := fun f hf => (h f hf).holds
theorem DataX.below {w w' : World} {fs : List Fld} (h : DataX w fs) (hb : Below w.heap.size w w') : DataX w' fs := fun f hf => (h f hf).below hb
theorem newsX_nil (B : Nat) (w : World) : NewsX B w [] := fun f hf => by cases hf
theorem newsX_snoc {B : Nat} {w : World} {fs : List Fld} {f : Fld} (h : NewsX B w fs) (g : New B w f.p f.n f.c (valsN .u8 f.ds)) : NewsX B w (fs ++ [f]) := fun x hx => by
  rcases List.mem_append.1 hx with a | a
  · exact h x a
  · obtain rfl : x = f := by simpa using a
    exact g
theorem HoldsX.data {w : World} {p : Option Addr} {n c : Nat} {fs : List Fld} (h : HoldsX w p n c fs) : DataX w fs := fun f hf => by
  obtain ⟨i, hi, e⟩ := List.getElem_of_mem hf
  obtain ⟨a, _, _, _, hh⟩ := h.cell i f (by rw [List.getElem?_eq_getElem hi, e])
  exact hh
theorem holdsX_nil (w : World) (p : Option Addr) (c : Nat) (h : c ≤ maxLen) (g : p = none → c = 0) : HoldsX w p 0 c [] := ⟨rfl, Nat.zero_le _, h, g, fun i f hf => by simp at hf⟩
/-- The call's own row of fields, as what may be read. -/
theorem ownX {w : World} {B : Nat} {T : TypeId} {v : Value} {n : Nat} {fs : List Fld} (h : w.ownsRow B T 2 v n (cellsX fs)) (hd : DataX w fs) : fs.length = n ∧ ∃ p c, v = .slice p n c ∧ HoldsX w p n c fs ∧ ∀ a, p = some a → B ≤ a.block := by
  have hl := h.1
  rw [cellsX_len] at hl
  have ln : fs.length = n := by omega
  refine ⟨ln, ?_⟩
  have hc := h
  obtain ⟨-, ⟨rfl, rfl⟩ | ⟨g, cap, cur, rfl, hb, hg, h1, h2, h3, h4⟩⟩ := h
  · obtain rfl : fs = [] := List.length_eq_zero_iff.1 ln
    exact ⟨none, 0, rfl, holdsX_nil _ _ _ (Nat.zero_le _) (fun _ => rfl), fun a ha => by cases ha⟩
  · refine ⟨_, cap, rfl, ⟨ln, h1, h2, (fun e => by cases e), fun i f hf => ?_⟩, fun a ha => by cases ha; exact hb⟩
    obtain ⟨c1, c2⟩ := cellsX_get fs i f hf
    exact ⟨_, rfl, World.ownsRow.cells hc (g := g) rfl _ _ c1, World.ownsRow.cells hc (g := g) rfl _ _ c2, hd f (List.mem_of_getElem? hf)⟩

/-- What a Parse tells: fields and bytes in new memory, an error's number. -/
def ParR (w : World) (r : ParO) (e : Ending) (w' : World) : Prop :=
  ∃ p c q d fs, e = .returned (.tuple #[.slice p r.1.length c, .slice q r.2.1.length d, .int .i64 (r.2.2 : Nat)]) ∧ says fs = r.1 ∧ HoldsX w' p r.1.length c fs ∧ NewsX w.heap.size w' fs ∧ New w.heap.size w' q r.2.1.length d (valsN .u8 r.2.1) ∧ Below w.heap.size w w'
theorem parR_err {w w' : World} {x : Nat} (hb : Below w.heap.size w w') : ParR w ([], [], x) (.returned (.tuple #[.slice none 0 0, .slice none 0 0, .int .i64 (x : Nat)])) w' :=
  ⟨none, 0, none, 0, [], rfl, rfl, holdsX_nil _ _ _ (Nat.zero_le _) (fun _ => rfl), newsX_nil _ _, New.nil _ _, hb⟩

theorem says_ok {fs : List Fld} (h : ∀ x ∈ says fs, goodF x) : FldsOk fs := fun f hf => by
  have := h (f.ty, f.ds) (by unfold says; exact List.mem_map.2 ⟨f, hf, rfl⟩)
  exact ⟨this.2.1, this.2.2⟩
theorem ok_says {fs : List Fld} (h : FldsOk fs) : ∀ x ∈ says fs, x.1 < 65536 ∧ Byt x.2 := fun x hx => by
  unfold says at hx
  obtain ⟨f, hf, rfl⟩ := List.mem_map.1 hx
  exact h f hf
theorem says_snoc (fs : List Fld) (f : Fld) : says (fs ++ [f]) = says fs ++ [(f.ty, f.ds)] := by unfold says; rw [List.map_append]; rfl

end Go.Proofs.Ytfnidehbibfclaa
/- Layer 5 (ext), the program's: whether fields may be. -/
namespace Go.Proofs.Ytfnidehbibfclaa
open Go.ChangeShapes Go.WideShapes Go.ChangeAt Go.RowKit OctM

/-- longN of a number that may be below 0. -/
def longZ (z : Int) : Prop := 12 ≤ z ∧ longN z.toNat
instance (z : Int) : Decidable (longZ z) := by unfold longZ; exact inferInstance
theorem longZ_nat (n : Nat) : longZ (n : Int) ↔ longN n := by unfold longZ longN; omega

theorem pdata_any (w : World) (z : Int) (hz : I64 z) :
    Calls Try.prog 87 #[.int .i64 z] w fun e w' => e = .returned (.bool (decide (longZ z))) ∧ w = w' := by
  have FIN : ∀ b, (b = true ↔ longZ z) → decide (longZ z) = b := fun b hb => by
    rw [Bool.eq_iff_iff, decide_eq_true_iff]; exact hb.symm
  unfold I64 at hz
  by_cases h1 : 12 ≤ z
  · have g1 : decide (12 ≤ z) = true := by simp; omega
    by_cases h2 : z ≤ 464
    · have g3 : decide (z ≤ 464) = true := by simp; omega
      obtain ⟨m, hm⟩ : ∃ m : Nat, m = z.toNat % 4 := ⟨_, rfl⟩
      obtain ⟨b, hb⟩ : ∃ b, b = ((m : Int) == 0) := ⟨_, rfl⟩
      have e := FIN b (by rw [hb, beq_iff_eq]; unfold longZ longN; omega)
      rw [e]
      have e4 : z % 4 = (m : Int) := by omega
      have e6 : z.tmod 4 = (m : Int) := by rw [Int.tmod_eq_emod_of_nonneg (by omega)]; exact e4
      have hb' := hb.symm
      clear e FIN hm h1 h2 hz hb
      go_enter Try.func87, Try.ntmps87
      go_wp2
      go_ret
      exact ⟨rfl, rfl⟩
    · have g3 : decide (z ≤ 464) = false := by simp; omega
      have e := FIN false (by unfold longZ longN; simp; omega)
      rw [e]
      clear e FIN h1 h2 hz
      go_enter Try.func87, Try.ntmps87
      go_wp2
      go_ret
      exact ⟨rfl, rfl⟩
  · have g1 : decide (12 ≤ z) = false := by simp; omega
    have e := FIN false (by unfold longZ longN; simp; omega)
    rw [e]
    clear e FIN h1 hz
    go_enter Try.func87, Try.ntmps87
    go_wp2
    go_ret
    exact ⟨rfl, rfl⟩

theorem rlong5_int (w : World) (z : Int) (hz : I64 z) :
    Calls Try.prog 72 #[.int .i64 z] w fun e w' => e = .returned (.bool (decide (longZ z))) ∧ w = w' := by
  unfold I64 at hz
  by_cases h0 : 0 ≤ z
  · obtain ⟨n, rfl⟩ : ∃ n : Nat, z = (n : Int) := ⟨z.toNat, by omega⟩
    have := rlong5_any w n (by omega)
    rwa [show decide (longZ (n : Int)) = decide (longN n) by rw [decide_eq_decide]; exact longZ_nat n]
  · have g1 : decide (12 ≤ z) = false := by simp; omega
    have e : decide (longZ z) = false := by rw [decide_eq_false_iff_not]; unfold longZ; omega
    rw [e]
    clear e h0 hz
    go_enter Try.func72, Try.ntmps72
    go_wp2
    go_ret
    exact ⟨rfl, rfl⟩

/-- The test that is handed to ContainsFunc: may the field not be? -/
theorem pmayNot_any (w : World) (t : Int) (p : Option Addr) (n c : Nat) (hn : n < 9223372036854775808) :
    Calls Try.prog 86 #[.agg #[.int .u16 t, .slice p n c]] w fun e w' => e = .returned (.bool (!decide (longN n))) ∧ Below w.heap.size w w' := by
  have PD := Lib.hid (fun w => pdata_any w (n : Int) (by unfold I64; omega))
  rw [show decide (longZ (n : Int)) = decide (longN n) by rw [decide_eq_decide]; exact longZ_nat n] at PD
  generalize decide (longN n) = b at *
  have L0 : Hid (Below w.heap.size w (w.alloc (.cells #[.int .u16 t, .slice p n c] 52))) := (Below.refl _ _).alloc (Nat.le_refl _) _
  clear hn
  go_enter Try.func86, Try.ntmps86
  go_wp2_with fail
  refine (PD.out _).mono ?_; rintro e w' ⟨rfl, rfl⟩
  go_wp2
  go_ret
  exact ⟨rfl, L0.out⟩

/-- The first so many fields may be. -/
def goodN (l : Says) (k : Nat) : Prop := ∀ x ∈ l.take k, longN x.2.length

set_option maxHeartbeats 1600000 in
theorem pindex_may (w : World) (p : Option Addr) (n c : Nat) (fs : List Fld) (hx : HoldsX w p n c fs) :
    Calls Try.prog 100 #[.slice p n c, .func (.func 86) #[] #[]] w fun e w' => (∃ z : Int, e = .returned (.int .i64 z) ∧ -1 ≤ z ∧ z ≤ n ∧ (0 ≤ z ↔ ¬ ∀ x ∈ says fs, longN x.2.length)) ∧ Below w.heap.size w w' := by
  have mx := hx.max
  have cp := hx.cap
  unfold maxLen at mx
  have nb : (n : Int) ≤ 9223372036854775807 := by omega
  have ln := hx.len
  have HX := Lib.hid hx
  have LN := Lib.hid ln
  have NB : Hid (n < 9223372036854775808) := by unfold Hid; omega
  clear hx mx cp ln
  go_enter Try.func100, Try.ntmps100
  go_wp2_with fail
  go_loopw [8] (fun i wr => ∃ k : Nat, i = .int .i64 k ∧ Hid (k ≤ n) ∧ Hid (goodN (says fs) k) ∧ Hid (Below w.heap.size w wr)) (fun i _ => n - (intOf i).toNat)
  case atStart => exact ⟨0, rfl, Nat.zero_le _, (fun x hx => by simp at hx), Below.refl _ _⟩
  case round =>
    obtain ⟨k, rfl, hk, ok, low⟩ := hrel
    have kb : (k : Int) ≤ 9223372036854775807 := by have := hk.out; have := NB.out; omega
    by_cases g : k < n
    · have g' : (k : Int) < (n : Int) := by omega
      obtain ⟨a, f, rfl, hf, c0, c1, hh⟩ := (HX.out.below low.out).at g
      have lf : f.ds.length = f.n := by have := hh.len; rwa [valsN_len] at this
      have fb : f.n < 9223372036854775808 := by have := hh.cap; have := hh.max; unfold maxLen at this; omega
      have PM := Lib.hid (fun w => pmayNot_any w (f.ty : Nat) f.p f.n f.c fb)
      obtain ⟨d, hd⟩ : ∃ d, decide (longN f.n) = d := ⟨_, rfl⟩
      rw [hd] at PM
      have SX := Lib.hid (take_snoc (says_get hf))
      have G := Lib.hid g
      have LF := Lib.hid lf
      have HD := Lib.hid hd
      have HF := Lib.hid (says_get hf)
      clear g hf hh lf fb hd hk
      go_wp2_with fail
      refine (PM.out _).mono ?_; rintro e w2 ⟨rfl, l2⟩
      have L2 : Hid (Below w.heap.size w w2) := low.out.trans (l2.mono low.out.size)
      clear l2
      rcases d with _ | _
      · go_wp2
        go_ret
        refine ⟨⟨(k : Int), rfl, by omega, by have := G.out; omega, fun _ h => ?_, fun _ => by omega⟩, L2.out⟩
        have h2 := of_decide_eq_false HD.out
        rw [← LF.out] at h2
        exact h2 (h _ (List.mem_of_getElem? HF.out))
      · go_wp2
        go_roundw
        case rel =>
          refine ⟨k + 1, by go_num, by have := G.out; exact this, fun x hx => ?_, L2⟩
          rw [SX.out] at hx
          rcases List.mem_append.1 hx with h | h
          · exact ok.out x h
          · obtain rfl : x = (f.ty, f.ds) := by simpa using h
            have h2 := of_decide_eq_true HD.out
            rw [← LF.out] at h2
            exact h2
        case measure => simp [intOf]; have := G.out; omega
    · have g' : (n : Int) ≤ (k : Int) := by omega
      have FIN : Hid (∀ x ∈ says fs, longN x.2.length) := by
        have o := ok.out
        unfold goodN at o
        rwa [List.take_of_length_le (by rw [says_len, LN.out]; omega)] at o
      clear g ok hk
      go_wp2
      go_ret
      exact ⟨⟨-1, rfl, by omega, by omega, fun h => absurd h (by omega), fun h => absurd FIN.out h⟩, low.out⟩

theorem pcontains_may (w : World) (p : Option Addr) (n c : Nat) (fs : List Fld) (hx : HoldsX w p n c fs) :
    Calls Try.prog 88 #[.slice p n c, .func (.func 86) #[] #[]] w fun e w' => e = .returned (.bool (!decide (∀ x ∈ says fs, longN x.2.length))) ∧ Below w.heap.size w w' := by
  have PI := Lib.hid (pindex_may w p n c fs hx)
  clear hx
  go_enter Try.func88, Try.ntmps88
  go_wp2_with fail
  refine PI.out.mono ?_; rintro e w' ⟨⟨z, rfl, z0, z1, z2⟩, low⟩
  have E : Hid (decide (0 ≤ z) = !decide (∀ x ∈ says fs, longN x.2.length)) := by
    unfold Hid
    rw [Bool.eq_iff_iff, decide_eq_true_iff, z2]
    simp
  have LOW := Lib.hid low
  clear z2 z0 z1 low
  obtain ⟨d, hd⟩ : ∃ d, decide (0 ≤ z) = d := ⟨_, rfl⟩
  rw [hd] at E
  go_wp2
  go_ret
  exact ⟨ret_bool E.out, LOW.out⟩

theorem pmay5_any (w : World) (p : Option Addr) (n c : Nat) (fs : List Fld) (hx : HoldsX w p n c fs) :
    Calls Try.prog 58 #[.slice p n c] w fun e w' => e = .returned (.bool (decide (mayX (says fs)))) ∧ Below w.heap.size w w' := by
  have PC := Lib.hid (pcontains_may w p n c fs hx)
  have ln := hx.len
  have mx := hx.max
  have cp := hx.cap
  unfold maxLen at mx
  have nb : (n : Int) ≤ 9223372036854775807 := by omega
  obtain ⟨b, hb⟩ : ∃ b, decide (mayX (says fs)) = b := ⟨_, rfl⟩
  rw [hb]
  by_cases g : n ≤ 8
  · have g1 : decide ((n : Int) ≤ 8) = true := by simp; omega
    have g2 : (n : Int) ≤ 8 := by omega
    have E : Hid (b = decide (∀ x ∈ says fs, longN x.2.length)) := by
      unfold Hid
      rw [← hb, Bool.eq_iff_iff, decide_eq_true_iff, decide_eq_true_iff]
      unfold mayX
      rw [says_len, ln]
      exact ⟨fun h => h.1, fun h => ⟨h, g⟩⟩
    obtain ⟨d, hd⟩ : ∃ d, decide (∀ x ∈ says fs, longN x.2.length) = d := ⟨_, rfl⟩
    rw [hd] at E PC
    clear hx ln mx cp hb g hd
    go_enter Try.func58, Try.ntmps58
    go_wp2_with fail
    refine PC.out.mono ?_; rintro e w' ⟨rfl, low⟩
    have LOW := Lib.hid low
    clear low
    rcases d with _ | _
    · go_wp2
      go_ret
      exact ⟨ret_bool E.out.symm, LOW.out⟩
    · go_wp2
      go_ret
      exact ⟨ret_bool E.out.symm, LOW.out⟩
  · have g1 : decide ((n : Int) ≤ 8) = false := by simp; omega
    have g2 : ¬ (n : Int) ≤ 8 := by omega
    have E : b = false := by
      rw [← hb]
      refine decide_eq_false fun m => g ?_
      have := m.2
      rwa [says_len, ln] at this
    subst E
    clear hx ln mx cp hb g PC
    go_enter Try.func58, Try.ntmps58
    go_wp2
    go_ret
    exact ⟨rfl, Below.refl _ _⟩
end Go.Proofs.Ytfnidehbibfclaa
/- Layer 5 (ext), the program's: whether two are the same. -/
namespace Go.Proofs.Ytfnidehbibfclaa
open Go.ChangeShapes Go.WideShapes Go.ChangeAt Go.RowKit OctM

/-- The test that is handed to EqualFunc. -/
theorem peq_any (w : World) (f g : Fld) (hf : Holds w f.p f.n f.c (valsN .u8 f.ds)) (hg : Holds w g.p g.n g.c (valsN .u8 g.ds)) (yf : f.ty < 65536 ∧ Byt f.ds) (yg : g.ty < 65536 ∧ Byt g.ds) :
    Calls Try.prog 75 #[.agg #[.int .u16 (f.ty : Nat), .slice f.p f.n f.c], .agg #[.int .u16 (g.ty : Nat), .slice g.p g.n g.c]] w fun e w' => e = .returned (.bool (decide ((f.ty, f.ds) = (g.ty, g.ds)))) ∧ Below w.heap.size w w' := by
  have L0 : Hid (Below w.heap.size w ((w.alloc (.cells #[.int .u16 (f.ty : Nat), .slice f.p f.n f.c] 52)).alloc (.cells #[.int .u16 (g.ty : Nat), .slice g.p g.n g.c] 52))) := ((Below.refl _ _).alloc (Nat.le_refl _) _).alloc (by simp) _
  have BE := Lib.hid (fun w' (b : Below w.heap.size w w') => bequal_any w' f.p g.p f.n f.c g.n g.c f.ds g.ds (hf.below b) (hg.below b) yf.2 yg.2)
  by_cases te : f.ty = g.ty
  · obtain ⟨d, hd⟩ : ∃ d, decide (f.ds = g.ds) = d := ⟨_, rfl⟩
    have E : Hid (decide ((f.ty, f.ds) = (g.ty, g.ds)) = d) := by
      unfold Hid
      rw [← hd, decide_eq_decide, Prod.mk.injEq]
      exact ⟨fun h => h.2, fun h => ⟨te, h⟩⟩
    rw [E.out]
    rw [hd] at BE
    clear E hd
    generalize f.ty = t1 at *
    generalize g.ty = t2 at *
    subst te
    clear hf hg yf yg
    go_enter Try.func75, Try.ntmps75
    go_wp2_with fail
    refine (BE.out _ L0.out).mono ?_; rintro e w' ⟨rfl, rfl⟩
    go_wp2
    go_ret
    exact ⟨rfl, L0.out⟩
  · have E : decide ((f.ty, f.ds) = (g.ty, g.ds)) = false := by
      rw [decide_eq_false_iff_not, Prod.mk.injEq]
      exact fun h => te h.1
    rw [E]
    clear E BE
    generalize f.ty = t1 at *
    generalize g.ty = t2 at *
    have f1 : ((t1 : Int) == (t2 : Int)) = false := by simp; omega
    have f2 : ((t1 : Int) != (t2 : Int)) = true := by simp; omega
    have f3 : ¬ (t1 : Int) = (t2 : Int) := by omega
    clear te hf hg yf yg
    go_enter Try.func75, Try.ntmps75
    go_wp2
    go_ret
    exact ⟨rfl, L0.out⟩

set_option maxHeartbeats 4000000 in
theorem pequal5_any (w : World) (p q : Option Addr) (n c m d : Nat) (fs gs : List Fld) (hx : HoldsX w p n c fs) (hy : HoldsX w q m d gs) (of' : FldsOk fs) (og : FldsOk gs) :
    Calls Try.prog 74 #[.slice p n c, .slice q m d, .func (.func 75) #[] #[]] w fun e w' => e = .returned (.bool (decide (says fs = says gs))) ∧ Below w.heap.size w w' := by
  have mx := hx.max
  have cp := hx.cap
  unfold maxLen at mx
  have my := hy.max
  have cq := hy.cap
  unfold maxLen at my
  have nb : (n : Int) ≤ 9223372036854775807 := by omega
  have mb : (m : Int) ≤ 9223372036854775807 := by omega
  have la := hx.len
  have lb := hy.len
  by_cases e : n = m
  · subst e
    have HX := Lib.hid hx
    have HY := Lib.hid hy
    have LA := Lib.hid la
    have LB := Lib.hid lb
    have OF := Lib.hid of'
    have OG := Lib.hid og
    have e1 : ((n : Int) != (n : Int)) = false := by simp
    have NB : Hid (n ≤ 9223372036854775807) := by unfold Hid; omega
    obtain ⟨b, hb⟩ : ∃ b, decide (says fs = says gs) = b := ⟨_, rfl⟩
    rw [hb]
    have HB := Lib.hid hb
    clear hx hy la lb mx cp my cq of' og hb
    go_enter Try.func74, Try.ntmps74
    go_wp2_with fail
    go_loopw [17] (fun i wr => ∃ k : Nat, i = .int .i64 k ∧ Hid (k ≤ n) ∧ Hid ((says fs).take k = (says gs).take k) ∧ Hid (Below w.heap.size w wr)) (fun i _ => n - (intOf i).toNat)
    case atStart => exact ⟨0, rfl, Nat.zero_le _, rfl, Below.refl _ _⟩
    case round =>
      obtain ⟨k, rfl, hk, he, low⟩ := hrel
      have kb : (k : Int) ≤ 9223372036854775807 := by have := hk.out; have := NB.out; omega
      by_cases g : k < n
      · have g' : (k : Int) < (n : Int) := by omega
        have G := Lib.hid g
        obtain ⟨a1, f, rfl, hf, c0, c1, hh⟩ := (HX.out.below low.out).at g
        obtain ⟨a2, f2, rfl, hf2, c2, c3, hh2⟩ := (HY.out.below low.out).at g
        have B0 : Hid (Below wr.heap.size wr ((wr.alloc (.cells #[.int .u16 (f.ty : Nat), .slice f.p f.n f.c] 52)).alloc (.cells #[.int .u16 (f2.ty : Nat), .slice f2.p f2.n f2.c] 52))) := ((Below.refl _ _).alloc (Nat.le_refl _) _).alloc (by simp) _
        have L1 := Lib.hid (low.out.trans (B0.out.mono low.out.size))
        have PE := Lib.hid (peq_any _ f f2 (hh.below B0.out) (hh2.below B0.out) (OF.out f (List.mem_of_getElem? hf)) (OG.out f2 (List.mem_of_getElem? hf2)))
        have c20 : (wr.alloc (.cells #[.int .u16 (f.ty : Nat), .slice f.p f.n f.c] 52)).cell? (a2.add (k * 2)) = some (.int .u16 (f2.ty : Nat)) := (((Below.refl wr.heap.size wr).alloc (Nat.le_refl _) _).cell (World.block_lt_of_cell? wr _ c2)).trans c2
        have c21 : (wr.alloc (.cells #[.int .u16 (f.ty : Nat), .slice f.p f.n f.c] 52)).cell? ⟨(a2.add (k * 2)).block, (a2.add (k * 2)).off + 1, none⟩ = some (.slice f2.p f2.n f2.c) := (((Below.refl wr.heap.size wr).alloc (Nat.le_refl _) _).cell (World.block_lt_of_cell? wr _ c3)).trans c3
        have SF := Lib.hid (says_get hf)
        have SG := Lib.hid (says_get hf2)
        obtain ⟨d, hd⟩ : ∃ d, decide ((f.ty, f.ds) = (f2.ty, f2.ds)) = d := ⟨_, rfl⟩
        rw [hd] at PE
        have HD := Lib.hid hd
        clear g hf hf2 hh hh2 hd B0 hk c2 c3
        go_wp2_with fail
        refine PE.out.mono ?_; rintro e w2 ⟨rfl, l2⟩
        have L2 : Hid (Below w.heap.size w w2) := L1.out.trans (l2.mono L1.out.size)
        clear l2
        rcases d with _ | _
        · have FIN : Hid (b = false) := by
            unfold Hid
            rw [← HB.out]
            refine decide_eq_false fun h => of_decide_eq_false HD.out ?_
            have a := SF.out
            rw [h, SG.out] at a
            injection a with a
            exact a.symm
          go_wp2
          go_ret
          exact ⟨ret_bool FIN.out.symm, L2.out⟩
        · go_wp2
          go_roundw
          case rel =>
            refine ⟨k + 1, by go_num, G.out, ?_, L2⟩
            unfold Hid
            rw [take_snoc SF.out, take_snoc SG.out, he.out, of_decide_eq_true HD.out]
          case measure => simp [intOf]; have := G.out; omega
      · have g' : (n : Int) ≤ (k : Int) := by omega
        have FIN : Hid (b = true) := by
          unfold Hid
          rw [← HB.out]
          have h := he.out
          rw [List.take_of_length_le (by rw [says_len, LA.out]; omega), List.take_of_length_le (by rw [says_len, LB.out]; omega)] at h
          exact decide_eq_true h
        clear g he hk
        go_wp2
        go_ret
        exact ⟨ret_bool FIN.out.symm, low.out⟩
  · have FIN : Hid (decide (says fs = says gs) = false) := by
      unfold Hid
      rw [decide_eq_false_iff_not]
      intro h
      have := congrArg List.length h
      rw [says_len, says_len] at this
      omega
    rw [FIN.out]
    have f1 : ((n : Int) != (m : Int)) = true := by simp; omega
    have f2 : ((n : Int) == (m : Int)) = false := by simp; omega
    have f3 : ¬ (n : Int) = (m : Int) := by omega
    clear hx hy la lb e mx cp my cq of' og
    go_enter Try.func74, Try.ntmps74
    go_wp2
    go_ret
    exact ⟨rfl, Below.refl _ _⟩

theorem psame5_any (w : World) (p q : Option Addr) (n c m d : Nat) (fs gs : List Fld) (hx : HoldsX w p n c fs) (hy : HoldsX w q m d gs) (of' : FldsOk fs) (og : FldsOk gs) :
    Calls Try.prog 45 #[.slice p n c, .slice q m d] w fun e w' => e = .returned (.bool (decide (says fs = says gs))) ∧ Below w.heap.size w w' := by
  have PE := Lib.hid (pequal5_any w p q n c m d fs gs hx hy of' og)
  clear hx hy of' og
  generalize decide (says fs = says gs) = b at *
  go_enter Try.func45, Try.ntmps45
  go_wp2_with fail
  refine PE.out.mono ?_; rintro e w' ⟨rfl, low⟩
  have LOW := Lib.hid low
  clear low
  go_wp2
  go_ret
  exact ⟨rfl, LOW.out⟩
end Go.Proofs.Ytfnidehbibfclaa
/- Layer 5 (ext), the program's Put; and Put of fields that may not be, the program's and the document's. -/
namespace Go.Proofs.Ytfnidehbibfclaa
open Go.ChangeShapes Go.WideShapes Go.ChangeAt Go.RowKit OctM

theorem rput5_arg (w : World) (p : Option Addr) (n c : Nat) (fs : List Fld) (hx : HoldsX w p n c fs) (my : ¬ mayX (says fs)) :
    Calls Try.prog 61 #[.slice p n c] w (TellPost w (.returned (.tuple #[.slice none 0 0, .int .i64 1]))) := by
  have RM := Lib.hid (rmay5_any w p n c fs hx)
  rw [decide_eq_false my] at RM
  have FIN : Hid (TellPost w (.returned (.tuple #[.slice none 0 0, .int .i64 1])) (.returned (.tuple #[.slice none 0 0, .int .i64 1])) w) := ⟨rfl, Below.refl _ _⟩
  clear hx my
  go_enter Try.func61, Try.ntmps61
  go_wp2_with fail
  refine RM.out.mono ?_; rintro e w' ⟨rfl, rfl⟩
  go_wp2
  go_ret2
  exact FIN.out

theorem pput5_arg (w : World) (p : Option Addr) (n c : Nat) (fs : List Fld) (hx : HoldsX w p n c fs) (my : ¬ mayX (says fs)) :
    Calls Try.prog 29 #[.slice p n c] w (TellPost w (.returned (.tuple #[.slice none 0 0, .int .i64 1]))) := by
  have RM := Lib.hid (pmay5_any w p n c fs hx)
  rw [decide_eq_false my] at RM
  have FIN : Hid (∀ w', Below w.heap.size w w' → TellPost w (.returned (.tuple #[.slice none 0 0, .int .i64 1])) (.returned (.tuple #[.slice none 0 0, .int .i64 1])) w') := fun w' b => ⟨rfl, b⟩
  clear hx my
  go_enter Try.func29, Try.ntmps29
  go_wp2_with fail
  refine RM.out.mono ?_; rintro e w' ⟨rfl, low⟩
  have F := Lib.hid (FIN.out _ low)
  clear low
  go_wp2
  go_ret2
  exact F.out

/-- A field's front: its type, how many bytes it has. -/
theorem play_two (w : World) (p q : Option Addr) (c c' t m : Nat) (hz : Holds w p 2 c (valsI .i64 [2, 2])) (hx : Holds w q 2 c' (valsN .u64 [t, m])) (ht : t < 65536) (hm : m < 65536) :
    Calls Try.prog 56 #[.slice p 2 c, .slice q 2 c'] w (RowPost w 4 [t / 256, t % 256, m / 256, m % 256]) := by
  have h := play_any w p q 2 c c' 4 [2, 2] [t, m] hz hx (fun x hx => by
    simp only [List.mem_cons, List.not_mem_nil, or_false] at hx
    rcases hx with rfl | rfl <;> omega) (by omega) (by decide) (by decide)
  refine h.mono ?_
  have fit : fitT [2, 2] [t, m] 2 := fun i hi => by
    have : i = 0 ∨ i = 1 := by omega
    rcases this with rfl | rfl
    · exact ht
    · exact hm
  have e : layT [2, 2] [t, m] 2 = [t / 256, t % 256, m / 256, m % 256] := by
    show ([] ++ ([] ++ [t / 256 % 256] ++ [t % 256])) ++ ([] ++ [m / 256 % 256] ++ [m % 256]) = _
    rw [show t / 256 % 256 = t / 256 by omega, show m / 256 % 256 = m / 256 by omega]
    rfl
  rintro en w' (⟨-, o⟩ | ⟨no, -⟩)
  · rwa [e] at o
  · exact absurd fit no

set_option maxRecDepth 100000 in
set_option maxHeartbeats 16000000 in
theorem pput5_ok (w : World) (p : Option Addr) (n c : Nat) (fs : List Fld) (hx : HoldsX w p n c fs) (ok : FldsOk fs) (my : mayX (says fs)) :
    Calls Try.prog 29 #[.slice p n c] w (RowPost w (bytesX (says fs)).length (bytesX (says fs))) := by
  obtain ⟨i0, hi, hz0, hz1, hz2⟩ := info_of info8
  have ln := hx.len
  have n8 : n ≤ 8 := by have := my.2; rw [says_len] at this; omega
  have nb : (n : Int) ≤ 8 := by omega
  have HX := Lib.hid hx
  have LN := Lib.hid ln
  have OK := Lib.hid ok
  have MY := Lib.hid my
  have N8 := Lib.hid n8
  have RM := Lib.hid (pmay5_any w p n c fs hx)
  rw [decide_eq_true my] at RM
  clear hx ok my ln n8
  go_enter Try.func29, Try.ntmps29
  go_wp2_with fail
  refine RM.out.mono ?_; rintro e w0 ⟨rfl, low0⟩
  have LOW0 := Lib.hid low0
  clear low0
  go_wp2_with fail
  go_loopw [4, 14] (fun v i wr => ∃ k : Nat, i = .int .i64 k ∧ Hid (k ≤ n) ∧ Hid (PutRel w wr (says fs) v k)) (fun _ i _ => 100 - (intOf i).toNat)
  case atStart => exact ⟨0, rfl, Nat.zero_le _, ⟨World.ownsRow_nil w0 _ _ 1, LOW0.out⟩⟩
  case round =>
    obtain ⟨k, rfl, hk, h⟩ := hrel
    by_cases g : k < n
    · have g' : (k : Int) < (n : Int) := by omega
      have G := Lib.hid g
      obtain ⟨a, f, rfl, hf, c0, c1, hh⟩ := (HX.out.below h.out.low).at g
      have lf : f.ds.length = f.n := by have := hh.len; rwa [valsN_len] at this
      have SF := says_get hf
      have lg := MY.out.1 _ (List.mem_of_getElem? SF)
      simp only at lg
      rw [lf] at lg
      have tf := (OK.out f (List.mem_of_getElem? hf)).1
      have HD := Lib.hid (fun w' (b : Below w.heap.size w w') => (HX.out.below b).data f (List.mem_of_getElem? hf))
      obtain ⟨t, fp, fn, fc, ds⟩ := f
      simp only at c0 c1 hh lf SF lg tf HD
      rcases fp with _ | pa
      · exfalso
        have := hh.bare rfl
        have := hh.cap
        unfold longN at lg
        omega
      obtain ⟨m, hm⟩ : ∃ x, x = fn + 4 := ⟨_, rfl⟩
      have lg' := lg
      unfold longN at lg'
      have fb : (fn : Int) ≤ 464 := by omega
      have mb : (m : Int) ≤ 468 := by omega
      have t16 : (t : Int) < 65536 := by omega
      have e1 : (4 : Int) + (fn : Int) = (m : Int) := by omega
      have w7 : IntKind.i64.wrap ((4 : Int) + (fn : Int)) = (m : Int) := by rw [IntKind.wrap_i64]; omega
      have w8 : IntKind.u64.wrap (m : Int) = (m : Int) := by rw [IntKind.wrap_u64]; omega
      have w9 : IntKind.u64.wrap (t : Int) = (t : Int) := by rw [IntKind.wrap_u64]; omega
      obtain ⟨L, hL⟩ : ∃ L, L = (bytesX ((says fs).take k)).length := ⟨_, rfl⟩
      have Lb : L ≤ 468 * 8 := by
        have a := bytesX_le (l := (says fs).take k) (fun x hx => MY.out.1 x (List.mem_of_mem_take hx))
        rw [List.length_take, says_len, LN.out] at a
        have := N8.out
        omega
      have BM : Hid (L + 4 ≤ maxLen) := by unfold Hid maxLen; omega
      have BY : Hid ((L + 4) * 1 ≤ 140737488355328) := by unfold Hid; omega
      have BM2 : Hid (L + 4 + fn ≤ maxLen) := by unfold Hid maxLen; omega
      have BY2 : Hid ((L + 4 + fn) * 1 ≤ 140737488355328) := by unfold Hid; omega
      have FN0 : Hid (0 < fn) := by unfold Hid; omega
      have OW := h.out.own
      rw [← hL] at OW
      obtain ⟨D, hD⟩ : ∃ D, D = [t / 256, t % 256, m / 256, m % 256] := ⟨_, rfl⟩
      have DL : D.length = 4 := by rw [hD]; rfl
      have NXT : Hid (∀ v w2, w2.ownsRow w.heap.size 5 1 v (L + 4 + fn) (valsN .u8 (bytesX ((says fs).take k)) ++ valsN .u8 D ++ valsN .u8 ds) → Below w.heap.size w w2 → PutRel w w2 (says fs) v (k + 1)) := fun v w2 o l => by
        refine ⟨?_, l⟩
        rw [take_snoc SF, bytesX_snoc, List.length_append, bytesF_len, ← hL, lf, ← Nat.add_assoc, valsN_append]
        have e : bytesF (t, ds) = D ++ ds := by
          unfold bytesF
          simp only [lf]
          rw [hD, hm]
        rw [e, valsN_append, ← List.append_assoc]
        exact o
      have LOW := Lib.hid h.out.low
      have PT := Lib.hid (fun w p q c c' (hz : Holds w p 2 c (valsI .i64 [2, 2])) (hx : Holds w q 2 c' (valsN .u64 [t, m])) => hD ▸ play_two w p q c c' t m hz hx tf (by omega))
      replace OW := Lib.hid OW
      have LT := Lib.hid (fun j (hj : u4.ownBlock = some j) => (World.ownsRow.lt OW.out j hj))
      have DL' := Lib.hid DL
      clear h hk hf SF lf lg lg' tf hm hL Lb g hh hD DL
      go_wp2_with fail
      have S1 : (wr.alloc (.cells #[.int .u16 (t : Nat), .slice (some pa) fn fc] 52)).heap.size = wr.heap.size + 1 := by simp
      have B1 : Below wr.heap.size wr (((wr.alloc (.cells #[.int .u16 (t : Nat), .slice (some pa) fn fc] 52)).alloc (.cells #[.int .i64 2, .int .i64 2] 3)).alloc (.cells #[.int .u64 (t : Nat), .int .u64 (m : Nat)] 24)) := (((Below.refl _ _).alloc (Nat.le_refl _) _).alloc (by simp) _).alloc (by simp; omega) _
      have HA : ((((wr.alloc (.cells #[.int .u16 (t : Nat), .slice (some pa) fn fc] 52)).alloc (.cells #[.int .i64 2, .int .i64 2] 3)).alloc (.cells #[.int .u64 (t : Nat), .int .u64 (m : Nat)] 24))).heap[wr.heap.size]? = some (.cells #[.int .u16 (t : Nat), .slice (some pa) fn fc] 52 (0, 0)) :=
        (Below.heap_alloc _ _ _ (by simp; omega)).trans ((Below.heap_alloc _ _ _ (by simp)).trans (heap_alloc_new wr _))
      have HB : ((((wr.alloc (.cells #[.int .u16 (t : Nat), .slice (some pa) fn fc] 52)).alloc (.cells #[.int .i64 2, .int .i64 2] 3)).alloc (.cells #[.int .u64 (t : Nat), .int .u64 (m : Nat)] 24))).heap[wr.heap.size + 1]? = some (.cells #[.int .i64 2, .int .i64 2] 3 (0, 0)) := by
        have h := heap_alloc2_old (wr.alloc (.cells #[.int .u16 (t : Nat), .slice (some pa) fn fc] 52)) (.cells #[.int .i64 2, .int .i64 2] 3) (.cells #[.int .u64 (t : Nat), .int .u64 (m : Nat)] 24)
        rwa [S1] at h
      have HC : ((((wr.alloc (.cells #[.int .u16 (t : Nat), .slice (some pa) fn fc] 52)).alloc (.cells #[.int .i64 2, .int .i64 2] 3)).alloc (.cells #[.int .u64 (t : Nat), .int .u64 (m : Nat)] 24))).heap[wr.heap.size + 1 + 1]? = some (.cells #[.int .u64 (t : Nat), .int .u64 (m : Nat)] 24 (0, 0)) := by
        have h := heap_alloc2_new (wr.alloc (.cells #[.int .u16 (t : Nat), .slice (some pa) fn fc] 52)) (.cells #[.int .i64 2, .int .i64 2] 3) (.cells #[.int .u64 (t : Nat), .int .u64 (m : Nat)] 24)
        rwa [S1] at h
      refine (PT.out _ _ _ _ _ (blk_holds HB rfl (by decide)) (blk_holds HC rfl (by decide))).mono ?_
      rintro e w1 ⟨v8, rfl, o8, l8⟩
      have HA1 := (l8.block _ (Array.getElem?_eq_some_iff.1 HA).1).trans HA
      have B2 : Hid (Below wr.heap.size wr w1) := B1.trans (l8.mono B1.size)
      obtain ⟨p8, c8, rfl, h8⟩ := own_holds o8
      rcases p8 with _ | a8
      · exfalso
        have := h8.bare rfl
        have := h8.cap
        omega
      have L1 : Hid (Below w.heap.size w w1) := LOW.out.trans (B2.out.mono LOW.out.size)
      have O1 : Hid (w1.drew.ownsRow w.heap.size 5 1 u4 L (valsN .u8 (bytesX ((says fs).take k)))) := own_keep OW.out (B2.out.drew)
      have SZ : Hid (wr.heap.size < w1.heap.size) := (Array.getElem?_eq_some_iff.1 HA1).1
      have K0 : w1.drew.cell? ⟨wr.heap.size, 1, none⟩ = some (.slice (some pa) fn fc) := blk_cell (w := w1.drew) HA1
      have HA2 := Lib.hid HA1
      have NW : Hid (∀ (j : Nat) (u : Value), (valsN .u8 D)[j]? = some u → w1.drew.cell? (a8.add j) = some u) := fun j u hu => by
        obtain ⟨a', e, hc⟩ := (h8.below (Below.refl _ _).drew).cell j u hu
        cases e
        exact hc
      have HB1 : Hid (Below w.heap.size w w1.drew) := L1.out.drew
      have NL : Hid ((valsN .u8 D).length = 4 * 1) := by unfold Hid; rw [valsN_len]; exact DL'.out
      have ST : Hid (∀ v' w2, w2.ownsRow w.heap.size 5 1 v' (L + 4) (valsN .u8 (bytesX ((says fs).take k)) ++ valsN .u8 D) → w1.drew.grownBy w2 u4.ownBlock → Below w.heap.size w w2 ∧ w2.cell? ⟨wr.heap.size, 1, none⟩ = some (.slice (some pa) fn fc) ∧ wr.heap.size < w2.heap.size) := fun v' w2 _ g =>
        ⟨HB1.out.grown g HB1.out.size (fun j hj => (World.ownsRow.lt OW.out j hj).1), (World.grownBy.cell_far g _ SZ.out (fun e => by have := (LT.out _ e.symm).2; exact Nat.lt_irrefl _ this)).trans K0, Nat.lt_of_lt_of_le SZ.out g.size⟩
      have WH : Hid (∀ gg, u4.ownBlock = some gg ∨ gg = w1.drew.heap.size → gg ≠ wr.heap.size) := fun gg h e => by
        rcases h with h | h
        · have := (LT.out _ h).2; omega
        · have e2 : w1.drew.heap.size = w1.heap.size := rfl
          have := SZ.out
          omega
      have SZ1 : Hid (w.heap.size ≤ w1.drew.heap.size) := HB1.out.size
      clear HA HB HC HA1 B1 S1 l8 o8 h8
      go_wp2_with fail
      go_region_held3 (fun w' => w'.cell? ⟨wr.heap.size, 1, none⟩ = some (.slice (some pa) fn fc))
        (first | exact K3 | exact K2 | exact K0)
        (first
          | (refine step_append_lies _ (by rfl) _ _ _ (by rfl) w.heap.size 5 i0 (.int .u8 0) 1 1 Try.underlying31 hi hz0 hz1 hz2 rfl (by omega) u4 L _ (by rfl) O1.out a8 4 c8 (valsN .u8 D) (by rfl) NL.out NW.out (valsN_one _ _) (by omega) BM.out BY.out SZ1.out _ rfl ?_; intro gg cap w2 o2 g2 m2 lt2; obtain ⟨HB2, K2, SZ2⟩ := ST.out _ _ o2 g2)
          | (refine step_append_lies _ (by rfl) _ _ _ (by rfl) w.heap.size 5 i0 (.int .u8 0) 1 1 Try.underlying31 hi hz0 hz1 hz2 rfl (by omega) _ (L + 4) _ (by rfl) o2 pa fn fc (valsN .u8 ds) (by rfl) (by rw [Nat.mul_one]; exact (HD.out w2 HB2).len) (fun j u hu => by obtain ⟨a', e, hc⟩ := (HD.out w2 HB2).cell j u hu; cases e; exact hc) (valsN_one _ _) FN0.out BM2.out BY2.out HB2.size _ rfl ?_; intro gg3 cap3 w3 o3 g3 m3 lt3; have HB3 := HB2.grown g3 HB2.size (fun j hj => (World.ownsRow.lt o2 j hj).1); have K3 := (World.grownBy.cell_far g3 ⟨wr.heap.size, 1, none⟩ SZ2 (fun e => by have e' : gg = wr.heap.size := (Option.some.inj e).symm; exact WH.out gg m2 e')).trans K2))
      have NX := Lib.hid (NXT.out _ w3 o3 HB3)
      clear o2 g2 m2 lt2 o3 g3 m3 lt3 HB2 HB3 K0 K2 K3 SZ2
      go_wp2
      go_roundw
      case rel => exact ⟨k + 1, by go_num, G.out, NX⟩
      case measure => simp [intOf]; omega
    · have g' : (n : Int) ≤ (k : Int) := by omega
      have FIN : Hid (RowPost w (bytesX (says fs)).length (bytesX (says fs)) (.returned (.tuple #[u4, .int .i64 0])) wr) := by
        have e : (says fs).take k = says fs := List.take_of_length_le (by rw [says_len, LN.out]; omega)
        have o := h.out.own
        rw [e] at o
        exact ⟨u4, rfl, o, h.out.low⟩
      clear g hk h
      go_wp2
      go_ret2
      exact FIN.out
end Go.Proofs.Ytfnidehbibfclaa
