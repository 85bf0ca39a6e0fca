/- Layer 5's laws: any fields, brought to be some that may be. -/
import Derived.Test.YteclcefeipjoeaaExtO
import Derived.Test.YteclcefeipjoeaaAppendS
import Derived.Test.YteclcefeipjoeaaExtN
namespace Go.Proofs.Yteclcefeipjoeaa
open Go.ChangeShapes Go.WideShapes Go.ChangeAt Go.RowKit OctM

/-- Fields in a row of the call's own, their bytes in new memory apart from it. -/
structure RowX (w wr : World) (v : Value) (fs : List Fld) : Prop where
  own : wr.ownsRow w.heap.size 44 2 v fs.length (cellsX fs)
  news : NewsX w.heap.size wr fs
  apart : ∀ f ∈ fs, ∀ a, f.p = some a → a.block < wr.heap.size ∧ v.ownBlock ≠ some a.block
  low : Below w.heap.size w wr
theorem RowX.start (w : World) : RowX w w (.slice none 0 0) [] := ⟨World.ownsRow_nil w _ _ 2, newsX_nil _ _, (fun f hf => by cases hf), Below.refl _ _⟩
theorem RowX.slice {w wr : World} {v : Value} {fs : List Fld} (h : RowX w wr v fs) : ∃ p' c', v = .slice p' fs.length c' := by
  obtain ⟨-, p', c', e, -⟩ := ownX h.own h.news.data
  exact ⟨p', c', e⟩
theorem RowX.few {w wr : World} {v : Value} {fs : List Fld} (h : RowX w wr v fs) : FewR w (says fs) (.returned v) wr := by
  obtain ⟨-, p', c', e, hh, -⟩ := ownX h.own h.news.data
  exact ⟨p', _, c', fs, by rw [e], hh, rfl, h.low⟩
theorem RowX.next {w wr wm w3 : World} {v : Value} {g cap : Nat} {fs : List Fld} {f : Fld} (h : RowX w wr v fs) (f0 : 0 < f.n)
    (hb : Below wr.heap.size wr wm) (nw : New wr.heap.size wm f.p f.n f.c (valsN .u8 f.ds)) (o : w3.ownsRow w.heap.size 44 2 (.slice (some ⟨g, 0, none⟩) (fs.length + 1) cap) (fs.length + 1) (cellsX fs ++ [.int .u16 (f.ty : Nat), .slice f.p f.n f.c]))
    (gr : wm.grownBy w3 v.ownBlock) (mv : v.ownBlock = some g ∨ g = wm.heap.size) :
    RowX w w3 (.slice (some ⟨g, 0, none⟩) (fs.length + 1) cap) (fs ++ [f]) := by
  have lv : ∀ j, v.ownBlock = some j → w.heap.size ≤ j ∧ j < wr.heap.size := fun j hj => World.ownsRow.lt h.own j hj
  have fpos : ∀ a, f.p = some a → a.block < wm.heap.size := fun a ha => by
    have ln := nw.holds.len
    rw [valsN_len] at ln
    obtain ⟨a', e, hc⟩ := nw.holds.atN (i := 0) (by omega)
    rw [ha] at e
    cases e
    have := World.block_lt_of_cell? wm _ hc
    rwa [add_block] at this
  refine ⟨?_, ?_, ?_, ?_⟩
  · rw [cellsX_snoc, List.length_append]; exact o
  · refine newsX_snoc (fun x hx => ((h.news x hx).below hb).grown gr (fun a ha => (h.apart x hx a ha).2)) ((nw.low h.low.size).grown gr (fun a ha e => ?_))
    have := nw.base a ha
    have := (lv _ e).2
    omega
  · intro x hx a ha
    have sz := gr.size
    rcases List.mem_append.1 hx with hx | hx
    · obtain ⟨x1, x2⟩ := h.apart x hx a ha
      refine ⟨Nat.lt_of_lt_of_le x1 (Nat.le_trans hb.size sz), fun e => ?_⟩
      have e' : g = a.block := by simpa [Value.ownBlock] using e
      rcases mv with mv | mv
      · exact x2 (by rw [mv, e'])
      · have := hb.size; omega
    · obtain rfl : x = f := by simpa using hx
      have lt := fpos a ha
      have bs := nw.base a ha
      refine ⟨Nat.lt_of_lt_of_le lt sz, fun e => ?_⟩
      have e' : g = a.block := by simpa [Value.ownBlock] using e
      rcases mv with mv | mv
      · have := (lv _ mv).2; omega
      · omega
  · exact (h.low.trans (hb.mono h.low.size)).grown gr (Nat.le_trans h.low.size hb.size) (fun j hj => (lv j hj).1)

theorem own_nil {w : World} {B m : Nat} {T : TypeId} {v : Value} {xs : List Value} (h : w.ownsRow B T 1 v (0 + m) ([] ++ xs)) : w.ownsRow B T 1 v m xs := by
  rw [Nat.zero_add, List.nil_append] at h
  exact h
theorem own_fin {w : World} {B m k b : Nat} {T : TypeId} {v : Value} {ds : List Nat} (h : w.ownsRow B T 1 v (m + k) (valsN .u8 ds ++ List.replicate k (.int .u8 0))) (e : m + k = b) : ∃ p c, v = .slice p b c ∧ New B w p b c (valsN .u8 (ds ++ List.replicate k 0)) := by
  rw [e, valsN_zeros, ← valsN_append] at h
  exact own_new h

/-- While fields are brought: k of them are. -/
def PropRel (w wr : World) (v : Value) (fs : List Fld) (k : Nat) : Prop := ∃ gs, RowX w wr v gs ∧ says gs = ((says fs).take k).map bringF

set_option maxRecDepth 100000 in
set_option maxHeartbeats 16000000 in
theorem proper_any (w : World) (p : Option Addr) (n c : Nat) (fs : List Fld) (hx : HoldsX w p n c fs) :
    Calls Try.prog 23 #[.slice p n c] w (FewR w (propX (says fs))) := by
  obtain ⟨iX, hi, hz0, hz1, hz2⟩ := info_of infoX
  obtain ⟨i0, ji, jz0, jz1, jz2⟩ := info_of info8
  have mx := hx.max
  have cp := hx.cap
  unfold maxLen at mx
  have nb : (n : Int) ≤ 9223372036854775807 := by omega
  have ln := hx.len
  have HX := Lib.hid hx
  have LN := Lib.hid ln
  have P0 : Hid (PropRel w w (.slice none 0 0) fs 0) := ⟨[], RowX.start w, rfl⟩
  have FIN : Hid (∀ v wr k, PropRel w wr v fs k → (k = 8 ∨ (k = n ∧ n ≤ 8)) → FewR w (propX (says fs)) (.returned v) wr) := fun v wr k ⟨gs, h, e⟩ hk => by
    have hh := h.few
    have e2 : propX (says fs) = says gs := by
      rw [e]
      unfold propX
      rcases hk with rfl | ⟨rfl, h8⟩
      · rfl
      · rw [List.take_of_length_le (by rw [says_len, ln]; omega), List.take_of_length_le (by rw [says_len, ln]; exact Nat.le_refl _)]
    rw [e2]
    exact hh
  clear hx mx cp ln
  go_enter Try.func23, Try.ntmps23
  go_wp2_with fail
  go_loopw [3, 9] (fun v i wr => ∃ k : Nat, i = .int .i64 k ∧ Hid (k ≤ n) ∧ Hid (k ≤ 8) ∧ Hid (PropRel w wr v fs k)) (fun _ i _ => 100 - (intOf i).toNat)
  case atStart => exact ⟨0, rfl, Nat.zero_le _, Nat.zero_le _, P0⟩
  case round =>
    obtain ⟨k, rfl, hk, hk8, h⟩ := hrel
    have k8 : (k : Int) ≤ 8 := by have := hk8.out; omega
    by_cases g : k < n
    · have g' : (k : Int) < (n : Int) := by omega
      by_cases ke : k = 8
      · subst ke
        have F := Lib.hid (FIN.out _ _ 8 h.out (.inl rfl))
        obtain ⟨a, f, rfl, hf, c0, c1, hh⟩ := (HX.out.below h.out.choose_spec.1.low).at g
        have LL : Hid (Below wr.heap.size wr (wr.alloc (.cells #[.int .u16 (f.ty : Nat), .slice f.p f.n f.c] 44))) := (Below.refl _ _).alloc (Nat.le_refl _) _
        obtain ⟨gs, hr, e⟩ := h.out
        have F2 : Hid (FewR w (propX (says fs)) (.returned u3) (wr.alloc (.cells #[.int .u16 (f.ty : Nat), .slice f.p f.n f.c] 44))) := by
          obtain ⟨q, m, d, fs', e1, hh', e2, lo⟩ := F.out
          exact ⟨q, m, d, fs', e1, hh'.below LL.out, e2, lo.trans (LL.out.mono lo.size)⟩
        have c0' : wr.cell? ⟨a.block, a.off + 16, none⟩ = some (.int .u16 (f.ty : Nat)) := c0
        have c1' : wr.cell? ⟨a.block, a.off + 16 + 1, none⟩ = some (.slice f.p f.n f.c) := c1
        have g8 : (8 : Int) < (n : Int) := by omega
        clear g hf hh F h hr e hk c0 c1 g'
        go_wp2
        go_ret
        exact F2.out
      · have ke1 : ((k : Int) == 8) = false := by simp; omega
        have ke2 : ¬ (k : Int) = 8 := by omega
        have ke3 : ((k : Int) != 8) = true := by simp; omega
        have G := Lib.hid g
        have K7 : Hid (k + 1 ≤ 8) := by unfold Hid; omega
        obtain ⟨gs, hr, hsg⟩ := h.out
        obtain ⟨a, f, rfl, hf, c0, c1, hh⟩ := (HX.out.below hr.low).at g
        have lf : f.ds.length = f.n := by have := hh.len; rwa [valsN_len] at this
        have SF := says_get hf
        have fcp := hh.cap
        have fmx := hh.max
        unfold maxLen at fmx
        have HD := Lib.hid (fun w' (b : Below w.heap.size w w') => (HX.out.below b).data f (List.mem_of_getElem? hf))
        obtain ⟨t, fp, fn, fc, ds⟩ := f
        simp only at c0 c1 hh lf SF fcp fmx HD
        obtain ⟨b, hb⟩ : ∃ b, b = bringN fn := ⟨_, rfl⟩
        have hb' := hb
        unfold bringN at hb'
        obtain ⟨m1, hm1⟩ : ∃ m, m = max fn 12 := ⟨_, rfl⟩
        obtain ⟨m2, hm2⟩ : ∃ m, m = min m1 464 := ⟨_, rfl⟩
        obtain ⟨q, hq⟩ : ∃ q, q = m2 / 4 := ⟨_, rfl⟩
        have bq : b = q * 4 := by rw [hb', hq, hm2, hm1]
        obtain ⟨m3, hm3⟩ : ∃ m, m = min fn b := ⟨_, rfl⟩
        obtain ⟨z, hz⟩ : ∃ z, z = (b : Int) - (fn : Int) := ⟨_, rfl⟩
        obtain ⟨m4, hm4⟩ : ∃ m, m = b - fn := ⟨_, rfl⟩
        have E1 : max (fn : Int) 12 = (m1 : Int) := by omega
        have E2 : (if (fn : Int) < 12 then (12 : Int) else (fn : Int)) = (m1 : Int) := by split <;> omega
        have E3 : min (m1 : Int) 464 = (m2 : Int) := by omega
        have E4 : (if (464 : Int) < (m1 : Int) then (464 : Int) else (m1 : Int)) = (m2 : Int) := by split <;> omega
        have E5 : (m2 : Int) / 4 = (q : Int) := by omega
        have E5' : (m2 : Int).tdiv 4 = (q : Int) := by rw [Int.tdiv_eq_ediv_of_nonneg (by omega)]; exact E5
        have E6 : (q : Int) * 4 = (b : Int) := by omega
        have E7 : min (fn : Int) (b : Int) = (m3 : Int) := by omega
        have E8 : (if (b : Int) < (fn : Int) then (b : Int) else (fn : Int)) = (m3 : Int) := by split <;> omega
        have E9 : (b : Int) - (fn : Int) = z := hz.symm
        have E10 : max z 0 = (m4 : Int) := by omega
        have E11 : (if z < 0 then (0 : Int) else z) = (m4 : Int) := by split <;> omega
        have w1 : IntKind.i64.wrap (q : Int) = (q : Int) := by rw [IntKind.wrap_i64]; omega
        have w2 : IntKind.i64.wrap (b : Int) = (b : Int) := by rw [IntKind.wrap_i64]; omega
        have w3 : IntKind.i64.wrap z = z := by rw [IntKind.wrap_i64]; omega
        have m3c : (m3 : Int) ≤ (fc : Int) := by omega
        have m30 : (0 : Int) ≤ (m3 : Int) := by omega
        have fb : (fn : Int) ≤ 9223372036854775807 := by omega
        have b464 : (b : Int) ≤ 464 := by omega
        have E1' : max fn 12 = m1 := hm1.symm
        have LOW := Lib.hid hr.low
        obtain ⟨p3, c3, e3⟩ := hr.slice
        subst e3
        have glk : gs.length ≤ 8 := by
          have := congrArg List.length hsg
          rw [says_len, List.length_map, List.length_take] at this
          omega
        have OW := Lib.hid hr.own
        have BM : Hid (gs.length + 1 ≤ maxLen) := by unfold Hid maxLen; omega
        have BY : Hid ((gs.length + 1) * 32 ≤ 140737488355328) := by unfold Hid; omega
        have BM3 : Hid (0 + m3 ≤ maxLen) := by unfold Hid maxLen; omega
        have BY3 : Hid ((0 + m3) * 1 ≤ 140737488355328) := by unfold Hid; omega
        have BZ : Hid (m3 + m4 ≤ 1000000) := by unfold Hid; omega
        have m34 : Hid (m3 + m4 = b) := by unfold Hid; omega
        have B0 : Hid (0 < b) := by unfold Hid; have := bringN_long fn; unfold longN at this; omega
        have DS : Hid (bringF (t, ds) = (t, ds.take m3 ++ List.replicate m4 0)) := by
          unfold Hid bringF
          simp only [lf, ← hb, ← hm4]
          have e : ds.take b = ds.take m3 := by
            rw [hm3]
            by_cases x : b ≤ fn
            · rw [Nat.min_eq_right x]
            · rw [Nat.min_eq_left (by omega), List.take_of_length_le (by omega), List.take_of_length_le (by omega)]
          rw [e]
        have HT := Lib.hid (fun w' (b' : Below w.heap.size w w') => show Holds w' fp m3 fc (valsN .u8 (ds.take m3)) from holdsN_take (HD.out w' b') (by omega))
        have NXT := Lib.hid (fun (wm w3 : World) (g cap : Nat) (p1 : Option Addr) (c1 : Nat) hb2 nw o gr mv => show PropRel w w3 (.slice (some ⟨g, 0, none⟩) (gs.length + 1) cap) fs (k + 1) by
          have x := hr.next (wm := wm) (w3 := w3) (g := g) (cap := cap) (f := ⟨t, p1, b, c1, ds.take m3 ++ List.replicate m4 0⟩) B0.out hb2 nw o gr mv
          refine ⟨_, x, ?_⟩
          rw [says_snoc, hsg, take_snoc SF, List.map_append, List.map_singleton, DS.out])
        have HA : (wr.alloc (.cells #[.int .u16 (t : Nat), .slice fp fn fc] 44)).heap[wr.heap.size]? = some (.cells #[.int .u16 (t : Nat), .slice fp fn fc] 44 (0, 0)) := heap_alloc_new wr _
        have HRA : Below wr.heap.size wr (wr.alloc (.cells #[.int .u16 (t : Nat), .slice fp fn fc] 44)) := (Below.refl _ _).alloc (Nat.le_refl _) _
        clear hk hk8 h hb hb' hm1 hm2 hq bq hm3 hz hm4 hr hsg hf hh lf SF fcp fmx g glk
        go_wp2_with fail
        generalize (wr.alloc (.cells #[.int .u16 (t : Nat), .slice fp fn fc] 44)) = wa at *
        have HB0 : Below wa.heap.size wa wa.drew := (Below.refl _ _).drew
        have LA : Hid (Below w.heap.size w wa) := LOW.out.trans (HRA.mono LOW.out.size)
        have SZA : Hid (wr.heap.size ≤ wa.heap.size) := HRA.size
        have S0 := Lib.hid (fun (w' : World) (b' : Below wa.heap.size wa w') => show w'.cell? ⟨wr.heap.size, 0, none⟩ = some (.int .u16 (t : Nat)) ∧ w'.cell? ⟨wr.heap.size, 1, none⟩ = some (.slice fp fn fc) from ⟨blk_cell ((b'.block _ (Array.getElem?_eq_some_iff.1 HA).1).trans HA), blk_cell ((b'.block _ (Array.getElem?_eq_some_iff.1 HA).1).trans HA)⟩)
        have LT := Lib.hid (fun j (hj : (Value.slice p3 gs.length c3).ownBlock = some j) => (World.ownsRow.lt OW.out j hj))
        have SZ1 : Hid (wr.heap.size < wa.heap.size) := (Array.getElem?_eq_some_iff.1 HA).1
        have HRA2 := Lib.hid HRA
        have ONE : Hid (∀ p1 c1, ∀ u ∈ ([.int .u16 (t : Nat), .slice p1 b c1] : List Value), u.oneCell' = true) := by
          intro p1 c1 u hu
          simp only [List.mem_cons, List.not_mem_nil, or_false] at hu
          rcases hu with rfl | rfl <;> rfl
        obtain ⟨K0a, K0b⟩ := S0.out wa (Below.refl _ _)
        clear HA HRA K0a K0b
        go_region_held3 (fun w' => w'.cell? ⟨wr.heap.size, 0, none⟩ = some (.int .u16 (t : Nat)) ∧ w'.cell? ⟨wr.heap.size, 1, none⟩ = some (.slice fp fn fc))
          (first | exact S0.out _ HB0 | exact S0.out _ (HB0.alloc HB0.size _) | exact ⟨(World.grownBy.cell_far gg3 ⟨wr.heap.size, 0, none⟩ SZ3 NE3).trans (S0.out _ (HB0.alloc HB0.size _)).1, (World.grownBy.cell_far gg3 ⟨wr.heap.size, 1, none⟩ SZ3 NE3).trans (S0.out _ (HB0.alloc HB0.size _)).2⟩)
          (first
            | (refine step_append_more _ (by rfl) _ _ _ (by rfl) wa.heap.size 5 i0 (.int .u8 0) 1 Try.underlying25 ji jz0 jz1 jz2 (by rfl) (.slice (some ⟨wa.heap.size, 0, none⟩) 0 0) 0 [] (by rfl) (own_zero (heap_alloc_new wa.drew _) (Nat.le_refl _)) fp m3 fc (valsN .u8 (ds.take m3)) (by rfl) (HT.out _ (LA.out.trans ((HB0.alloc HB0.size _).mono LA.out.size))) (valsN_one _ _) BM3.out BY3.out (HB0.alloc HB0.size _).size ?_; intro v35 wc oc gc mc; have HB0 := (HB0.alloc HB0.size _).grown gc (HB0.alloc HB0.size _).size (fun j hj => by have e : wa.heap.size = j := (Option.some.inj hj); omega); have oc := own_nil oc; clear gc mc)
            | (refine step_append_zeros _ (by rfl) _ _ _ _ (by rfl) wa.heap.size 5 i0 (.int .u8 0) .i64 Try.underlying25 Try.underlying3 ji jz0 jz1 jz2 (by rfl) (by rfl) v35 m3 _ (by rfl) oc m4 (by rfl) BZ.out HB0.size ?_; intro v42 wd od gd md; have HB0 := HB0.grown gd HB0.size (fun j hj => (World.ownsRow.lt oc j hj).1); obtain ⟨p42, c42, rfl, nw⟩ := own_fin od m34.out; clear od gd md)
            | (refine step_append_lies _ (by rfl) _ _ _ (by rfl) w.heap.size 44 iX (.agg #[.int .u16 0, .slice none 0 0]) 2 32 Try.underlying22 hi hz0 hz1 hz2 rfl (by omega) (.slice p3 gs.length c3) gs.length (cellsX gs) (by rfl) (own_keep OW.out (HRA2.out.trans ((HB0.alloc HB0.size _).mono SZA.out))) ⟨wd.heap.size, 0, none⟩ 1 1 [.int .u16 (t : Nat), .slice p42 b c42] (by rfl) (by rfl) (World.news_of_block (heap_alloc_new wd _)) (ONE.out _ _) (by omega) BM.out BY.out ((LA.out.trans ((HB0.alloc HB0.size _).mono LA.out.size)).size) _ rfl ?_; intro gg cap w5 o5 gg3 m5 lt5; have SZ3 : wr.heap.size < (wd.alloc (.cells #[.int .u16 (t : Nat), .slice p42 b c42] 44)).heap.size := Nat.lt_of_lt_of_le SZ1.out (HB0.alloc HB0.size _).size; have NE3 : some wr.heap.size ≠ (Value.slice p3 gs.length c3).ownBlock := (fun e => by have := (LT.out _ e.symm).2; omega)))
        all_goals
          have NX := Lib.hid (NXT.out _ w5 gg cap p42 c42 (HRA2.out.trans ((HB0.alloc HB0.size _).mono SZA.out)) ((nw.low SZA.out).below ((Below.refl _ _).alloc (Nat.le_refl _) _)) o5 gg3 m5)
          clear o5 gg3 m5 lt5 nw oc HB0 SZ3 NE3
          go_wp2
          go_roundw
          case rel => exact ⟨k + 1, by go_num, G.out, K7, NX⟩
          case measure => simp [intOf]; omega
    · have g' : (n : Int) ≤ (k : Int) := by omega
      have F : Hid (FewR w (propX (says fs)) (.returned u3) wr) := FIN.out _ _ _ h.out (.inr ⟨by have := hk.out; omega, by have := hk.out; have := hk8.out; omega⟩)
      clear g hk h hk8
      go_wp2
      go_ret
      exact F.out
end Go.Proofs.Yteclcefeipjoeaa
