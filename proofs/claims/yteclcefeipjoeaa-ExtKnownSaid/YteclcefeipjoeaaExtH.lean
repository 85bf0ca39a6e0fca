/- Layer 5 (ext): what is found: the program's and the document's. -/
import Derived.Test.YteclcefeipjoeaaExtE
import Derived.Test.YteclcefeipjoeaaShelf
import Derived.RangeFuncBox
namespace Go.Proofs.Yteclcefeipjoeaa
open Go.ChangeShapes Go.WideShapes Go.ChangeAt Go.RowKit OctM

/-- bytes.Clone of any row: new bytes. -/
theorem pclone_any (w : World) (p : Option Addr) (n c : Nat) (ds : List Nat) (hh : Holds w p n c (valsN .u8 ds)) (hn : n ≤ 140737488355328) :
    Calls Try.prog 29 #[.slice p n c] w fun e w' => ∃ q d, e = .returned (.slice q n d) ∧ New w.heap.size w' q n d (valsN .u8 ds) ∧ Below w.heap.size w w' := by
  have ln : ds.length = n := by have := hh.len; rwa [valsN_len] at this
  rcases p with _ | a
  · have c0 := hh.bare rfl
    have n0 : n = 0 := by have := hh.cap; omega
    subst c0 n0
    obtain rfl := List.length_eq_zero_iff.1 ln
    refine (Try.bytes_Clone_nil 0 0 w).mono ?_
    rintro e w' ⟨rfl, rfl⟩
    exact ⟨none, 0, rfl, New.nil _ _, Below.refl _ _⟩
  · refine (Try.bytes_Clone_at a n c (ds.map fun d : Nat => (d : Int)) w (by rw [List.length_map]; exact ln) hn (fun i hi => ?_)).mono ?_
    · obtain ⟨a', e, hc⟩ := hh.atN hi
      cases e
      rw [hc, List.getD_eq_getElem?_getD, List.getD_eq_getElem?_getD, List.getElem?_map, List.getElem?_eq_getElem (by omega)]
      rfl
    · rintro e w' ⟨v, rfl, o, -, low⟩
      have e : (ds.map fun d : Nat => (d : Int)).map (Value.int .u8) = valsN .u8 ds := by unfold valsN; rw [List.map_map]; rfl
      rw [e] at o
      obtain ⟨q, d, rfl, nw⟩ := own_new o
      exact ⟨q, d, rfl, nw, low⟩

/-- Field i is the first of that type. -/
structure FirstX (fs : List Fld) (t i : Nat) (f : Fld) : Prop where
  at' : fs[i]? = some f
  ty : f.ty = t
  ahead : ∀ j, j < i → ∀ g, fs[j]? = some g → g.ty ≠ t
theorem first_or (t : Nat) : ∀ fs : List Fld, (∃ i f, FirstX fs t i f) ∨ ∀ f ∈ fs, f.ty ≠ t
  | [] => .inr fun f hf => by cases hf
  | f :: fs => by
    by_cases e : f.ty = t
    · exact .inl ⟨0, f, rfl, e, fun j hj => absurd hj (Nat.not_lt_zero _)⟩
    · rcases first_or t fs with ⟨i, g, h⟩ | h
      · refine .inl ⟨i + 1, g, by simpa using h.at', h.ty, fun j hj x hx => ?_⟩
        cases j with
        | zero =>
          obtain rfl : f = x := by simpa using hx
          exact e
        | succ j => exact h.ahead j (by omega) x (by simpa using hx)
      · refine .inr fun x hx => ?_
        rcases List.mem_cons.1 hx with rfl | hx
        · exact e
        · exact h x hx

theorem pkind_any (W : World) (B : Nat) (t s : Nat) (p : Option Addr) (n c : Nat) (b : Boxed W B 23 (.int .u16 (t : Nat))) :
    Calls Try.prog 28 #[.agg #[.int .u16 (s : Nat), .slice p n c], .pointer (some ⟨B, 0, none⟩)] W fun e w' => e = .returned (.bool (decide (s = t))) ∧ Below W.heap.size W w' := by
  have L0 : Hid (Below W.heap.size W (W.alloc (.cells #[.int .u16 (s : Nat), .slice p n c] 44))) := (Below.refl _ _).alloc (Nat.le_refl _) _
  have c0 := (b.alloc (.cells #[.int .u16 (s : Nat), .slice p n c] 44)).cell
  obtain ⟨d, hd⟩ : ∃ d, decide (s = t) = d := ⟨_, rfl⟩
  have e : ((s : Int) == (t : Int)) = d := by rw [← hd, Bool.eq_iff_iff, beq_iff_eq, decide_eq_true_iff]; omega
  rw [hd]
  clear hd b
  go_enter Try.func28, Try.ntmps28
  go_wp2
  go_ret
  exact ⟨rfl, L0.out⟩

/-- Nothing ahead of place k has that type. -/
def noneX (fs : List Fld) (t k : Nat) : Prop := ∀ j, j < k → ∀ g, fs[j]? = some g → g.ty ≠ t

set_option maxHeartbeats 1600000 in
theorem pindex_kind (w : World) (B t : Nat) (p : Option Addr) (n c : Nat) (fs : List Fld) (hx : HoldsX w p n c fs) (b : Boxed w B 23 (.int .u16 (t : Nat))) :
    Calls Try.prog 27 #[.slice p n c, .func (.func 28) #[] #[.pointer (some ⟨B, 0, none⟩)]] w fun e w' => ((∃ i f, FirstX fs t i f ∧ e = .returned (.int .i64 (i : Nat))) ∨ (∀ f ∈ fs, f.ty ≠ t) ∧ e = .returned (.int .i64 (-1))) ∧ Below w.heap.size w w' := by
  have mx := hx.max
  have cp := hx.cap
  unfold maxLen at mx
  have nb : (n : Int) ≤ 9223372036854775807 := by omega
  have ln := hx.len
  have HX := Lib.hid hx
  have LN := Lib.hid ln
  have BX := Lib.hid b
  have NB : Hid (n < 9223372036854775808) := by unfold Hid; omega
  clear hx mx cp ln b
  go_enter Try.func27, Try.ntmps27
  go_wp2_with fail
  go_loopw [8] (fun i wr => ∃ k : Nat, i = .int .i64 k ∧ Hid (k ≤ n) ∧ Hid (noneX fs t k) ∧ Hid (Below w.heap.size w wr)) (fun i _ => n - (intOf i).toNat)
  case atStart => exact ⟨0, rfl, Nat.zero_le _, (fun j hj => absurd hj (Nat.not_lt_zero _)), Below.refl _ _⟩
  case round =>
    obtain ⟨k, rfl, hk, ok, low⟩ := hrel
    have kb : (k : Int) ≤ 9223372036854775807 := by have := hk.out; have := NB.out; omega
    by_cases g : k < n
    · have g' : (k : Int) < (n : Int) := by omega
      obtain ⟨a, f, rfl, hf, c0, c1, hh⟩ := (HX.out.below low.out).at g
      have PK := Lib.hid (pkind_any wr B t f.ty f.p f.n f.c ((low.out.block _ BX.out.lt).trans BX.out))
      obtain ⟨d, hd⟩ : ∃ d, decide (f.ty = t) = d := ⟨_, rfl⟩
      rw [hd] at PK
      have G := Lib.hid g
      have HD := Lib.hid hd
      have HF := Lib.hid hf
      clear g hf hh hd hk
      go_wp2_with fail
      refine PK.out.mono ?_; rintro e w2 ⟨rfl, l2⟩
      have L2 : Hid (Below w.heap.size w w2) := low.out.trans (l2.mono low.out.size)
      clear l2
      rcases d with _ | _
      · go_wp2
        go_roundw
        case rel =>
          refine ⟨k + 1, by go_num, by have := G.out; exact this, fun j hj x hx => ?_, L2⟩
          by_cases e : j = k
          · subst e
            rw [HF.out] at hx
            injection hx with hx
            subst hx
            exact of_decide_eq_false HD.out
          · exact ok.out j (by omega) x hx
        case measure => simp [intOf]; have := G.out; omega
      · go_wp2
        go_ret
        exact ⟨.inl ⟨k, f, ⟨HF.out, of_decide_eq_true HD.out, ok.out⟩, rfl⟩, L2.out⟩
    · have g' : (n : Int) ≤ (k : Int) := by omega
      have FIN : Hid (∀ f ∈ fs, f.ty ≠ t) := by
        intro f hf
        obtain ⟨i, hi, e⟩ := List.getElem_of_mem hf
        exact ok.out i (by rw [LN.out] at hi; omega) f (by rw [List.getElem?_eq_getElem hi, e])
      clear g ok hk
      go_wp2
      go_ret
      exact ⟨.inr ⟨FIN.out, rfl⟩, low.out⟩

/-- New bytes of the first field of that type, or none. -/
def FoundP (w : World) (fs : List Fld) (t : Nat) (e : Ending) (w' : World) : Prop :=
  ((∃ i f q d, FirstX fs t i f ∧ e = .returned (.tuple #[.slice q f.n d, .bool true]) ∧ New w.heap.size w' q f.n d (valsN .u8 f.ds)) ∨ (∀ f ∈ fs, f.ty ≠ t) ∧ e = .returned (.tuple #[.slice none 0 0, .bool false])) ∧ Below w.heap.size w w'
theorem pfind5_any (w : World) (t : Nat) (p : Option Addr) (n c : Nat) (fs : List Fld) (hx : HoldsX w p n c fs) (hb : ∀ f ∈ fs, f.n ≤ 10000) :
    Calls Try.prog 12 #[.slice p n c, .int .u16 (t : Nat)] w (FoundP w fs t) := by
  have BX := Boxed.new w 23 (.int .u16 (t : Nat))
  have L0 := Lib.hid ((Below.refl w.heap.size w).alloc (Nat.le_refl _) (.cells #[.int .u16 (t : Nat)] 23))
  have PI := Lib.hid (pindex_kind _ w.heap.size t p n c fs (hx.below L0.out) BX)
  have HX := Lib.hid hx
  have HB := Lib.hid hb
  clear hx BX hb
  go_enter Try.func12, Try.ntmps12
  go_wp2_with fail
  refine PI.out.mono ?_; rintro e w2 ⟨⟨i, f, fst, rfl⟩ | ⟨no, rfl⟩, low⟩
  · have L2 : Hid (Below w.heap.size w w2) := L0.out.trans (low.mono L0.out.size)
    have il : i < n := by
      have := (List.getElem?_eq_some_iff.1 fst.at').1
      rwa [HX.out.len] at this
    have mx := HX.out.max
    have cp := HX.out.cap
    unfold maxLen at mx
    have i1 : (i : Int) < (n : Int) := by omega
    have i2 : (n : Int) ≤ 9223372036854775807 := by omega
    have i4 : (0 : Int) ≤ (i : Int) := by omega
    obtain ⟨a, g, rfl, hg, c0, c1, hh⟩ := (HX.out.below L2.out).at il
    have e : g = f := by have := fst.at'; rw [hg] at this; injection this
    subst e
    have hn := HB.out g (List.mem_of_getElem? hg)
    have PC := Lib.hid (pclone_any w2 g.p g.n g.c g.ds hh (by omega))
    have FST := Lib.hid fst
    clear hg hh fst mx cp low il hn
    go_wp2_with fail
    refine PC.out.mono ?_; rintro e w3 ⟨q, d, rfl, nw, l3⟩
    have FIN : Hid (FoundP w fs t (.returned (.tuple #[.slice q g.n d, .bool true])) w3) :=
      ⟨.inl ⟨i, g, q, d, FST.out, rfl, nw.low L2.out.size⟩, L2.out.trans (l3.mono L2.out.size)⟩
    clear nw l3
    go_wp2
    go_ret2
    exact FIN.out
  · have FIN : Hid (FoundP w fs t (.returned (.tuple #[.slice none 0 0, .bool false])) w2) :=
      ⟨.inr ⟨no, rfl⟩, L0.out.trans (low.mono L0.out.size)⟩
    clear low no
    go_wp2
    go_ret2
    exact FIN.out

set_option maxHeartbeats 1600000 in
theorem rfind5_any (w : World) (t : Nat) (p : Option Addr) (n c : Nat) (fs : List Fld) (hx : HoldsX w p n c fs) :
    Calls Try.prog 13 #[.slice p n c, .int .u16 (t : Nat)] w fun e w' => ((∃ i f, FirstX fs t i f ∧ e = .returned (.tuple #[.slice f.p f.n f.c, .bool true])) ∨ (∀ f ∈ fs, f.ty ≠ t) ∧ e = .returned (.tuple #[.slice none 0 0, .bool false])) ∧ w = w' := by
  have mx := hx.max
  have cp := hx.cap
  unfold maxLen at mx
  have nb : (n : Int) ≤ 9223372036854775807 := by omega
  have ln := hx.len
  have HX := Lib.hid hx
  have LN := Lib.hid ln
  have NB : Hid (n < 9223372036854775808) := by unfold Hid; omega
  clear hx mx cp ln
  go_enter Try.func13, Try.ntmps13
  go_wp2_with fail
  go_loop [6] (fun i => ∃ k : Nat, i = .int .i64 k ∧ Hid (k ≤ n) ∧ Hid (noneX fs t k)) (fun i => n - (intOf i).toNat)
  case atStart => exact ⟨0, rfl, Nat.zero_le _, (fun j hj => absurd hj (Nat.not_lt_zero _))⟩
  case round =>
    obtain ⟨k, rfl, hk, ok⟩ := hrel
    have kb : (k : Int) ≤ 9223372036854775807 := by have := hk.out; have := NB.out; omega
    by_cases g : k < n
    · have g' : (k : Int) < (n : Int) := by omega
      obtain ⟨a, f, rfl, hf, c0, c1, hh⟩ := HX.out.at g
      obtain ⟨s, hs⟩ : ∃ s, s = f.ty := ⟨_, rfl⟩
      rw [← hs] at c0
      have HS := Lib.hid hs
      have G := Lib.hid g
      have HF := Lib.hid hf
      by_cases te : s = t
      · subst te
        clear g hf hh hk hs
        go_wp2
        go_ret2
        exact ⟨.inl ⟨k, f, ⟨HF.out, HS.out.symm, ok.out⟩, rfl⟩, rfl⟩
      · have f1 : ((s : Int) != (t : Int)) = true := by simp; omega
        have f2 : ((s : Int) == (t : Int)) = false := by simp; omega
        have f3 : ¬ (s : Int) = (t : Int) := by omega
        have TE := Lib.hid te
        clear g hf hh hk hs te
        go_wp2
        go_round
        case rel =>
          refine ⟨k + 1, by go_num, by have := G.out; exact this, fun j hj x hx => ?_⟩
          by_cases e : j = k
          · subst e
            rw [HF.out] at hx
            injection hx with hx
            subst hx
            exact fun h => TE.out (HS.out.trans h)
          · exact ok.out j (by omega) x hx
        case measure => simp [intOf]; have := G.out; omega
    · have g' : (n : Int) ≤ (k : Int) := by omega
      have FIN : Hid (∀ f ∈ fs, f.ty ≠ t) := by
        intro f hf
        obtain ⟨i, hi, e⟩ := List.getElem_of_mem hf
        exact ok.out i (by rw [LN.out] at hi; omega) f (by rw [List.getElem?_eq_getElem hi, e])
      clear g ok hk
      go_wp2
      go_ret2
      exact ⟨.inr ⟨FIN.out, rfl⟩, rfl⟩
end Go.Proofs.Yteclcefeipjoeaa
