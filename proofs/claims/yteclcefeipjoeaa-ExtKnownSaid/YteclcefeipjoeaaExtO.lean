/- Layer 5's laws: the first few fields, each cut. -/
import Derived.Test.YteclcefeipjoeaaExtI
import Derived.StillTailTactics
namespace Go.Proofs.Yteclcefeipjoeaa
open Go.ChangeShapes Go.WideShapes Go.ChangeAt Go.RowKit OctM

/-- Fields are told in a row of their own; each one's bytes lie wherever. -/
def FewR (w : World) (l : Says) (e : Ending) (w' : World) : Prop :=
  ∃ q n d fs, e = .returned (.slice q n d) ∧ HoldsX w' q n d fs ∧ says fs = l ∧ Below w.heap.size w w'

theorem own_zero {w : World} {N B s : Nat} {T : TypeId} (h : w.heap[N]? = some (.cells #[] T (0, 0))) (hB : B ≤ N) : w.ownsRow B T s (.slice (some ⟨N, 0, none⟩) 0 0) 0 [] :=
  ⟨by simp, .inr ⟨N, 0, #[], rfl, hB, h, Nat.le_refl _, Nat.zero_le _, by simp, by simp⟩⟩

theorem cellsX_at : ∀ (fs : List Fld) (j : Nat) (u : Value), (cellsX fs)[j]? = some u → ∃ i f, fs[i]? = some f ∧ ((j = i * 2 ∧ u = .int .u16 (f.ty : Nat)) ∨ (j = i * 2 + 1 ∧ u = .slice f.p f.n f.c))
  | [], j, u, h => by simp [cellsX_nil] at h
  | f :: fs, j, u, h => by
    rw [cellsX_cons] at h
    rcases j with _ | _ | j
    · exact ⟨0, f, rfl, .inl ⟨rfl, by injection h with h; exact h.symm⟩⟩
    · exact ⟨0, f, rfl, .inr ⟨rfl, by injection h with h; exact h.symm⟩⟩
    · obtain ⟨i, g, hg, hh⟩ := cellsX_at fs j u h
      refine ⟨i + 1, g, hg, ?_⟩
      rcases hh with ⟨e, eu⟩ | ⟨e, eu⟩
      · exact .inl ⟨by omega, eu⟩
      · exact .inr ⟨by omega, eu⟩

/-- A field's data, cut to 600 bytes. -/
def cutF (f : Fld) : Fld := ⟨f.ty, f.p, min f.n 600, f.c, f.ds.take 600⟩

/-- While fields are cut: i of them are. -/
structure FewRel (w wr : World) (g k i : Nat) (fs : List Fld) : Prop where
  cell : ∀ j f, j < k → fs[j]? = some f → wr.cell? ⟨g, j * 2, none⟩ = some (.int .u16 (f.ty : Nat)) ∧ wr.cell? ⟨g, j * 2 + 1, none⟩ = some (.slice f.p (if j < i then min f.n 600 else f.n) f.c)
  free : ∀ o, wr.frozen? ⟨g, o, none⟩ = false
  base : w.heap.size ≤ g
  low : Below w.heap.size w wr

theorem few_start {w w1 : World} {g k cap : Nat} {fs : List Fld} (o : w1.ownsRow w.heap.size 44 2 (.slice (some ⟨g, 0, none⟩) k cap) k (cellsX (fs.take k))) (low : Below w.heap.size w w1) : FewRel w w1 g k 0 fs := by
  have oc := o
  obtain ⟨-, ⟨e, -⟩ | ⟨g', cap', cur, e, hb, hg, h1, h2, h3, h4⟩⟩ := o
  · cases e
  · obtain rfl : g = g' := by injection e with e; injection e with e; injection e
    refine ⟨fun j f hj hf => ?_, fun o => blk_free hg, hb, low⟩
    have hf' : (fs.take k)[j]? = some f := by rw [List.getElem?_take, if_pos hj]; exact hf
    obtain ⟨c1, c2⟩ := cellsX_get _ j f hf'
    have a := World.ownsRow.cells oc (g := g) rfl _ _ c1
    have b := World.ownsRow.cells oc (g := g) rfl _ _ c2
    rw [add_zero'] at a b
    rw [if_neg (Nat.not_lt_zero _)]
    exact ⟨a, b⟩

theorem few_next {w wr : World} {g k i : Nat} {fs : List Fld} {f : Fld} (h : FewRel w wr g k i fs) (hf : fs[i]? = some f) (hi : i < k) : FewRel w (wr.setCell ⟨g, i * 2 + 1, none⟩ (.slice f.p (min f.n 600) f.c)) g k (i + 1) fs := by
  refine ⟨fun j x hj hx => ?_, fun o => ?_, h.base, h.low.setCell h.base _⟩
  · obtain ⟨c0, c1⟩ := h.cell j x hj hx
    refine ⟨by rw [World.cell?_setCell_other _ _ _ _ (fun e => by injection e with _ e; omega)]; exact c0, ?_⟩
    by_cases e : j = i
    · subst e
      rw [hf] at hx
      injection hx with hx
      subst hx
      rw [if_pos (by omega)]
      exact World.cell?_setCell_same _ _ _ c1
    · rw [World.cell?_setCell_other _ _ _ _ (fun e => by injection e with _ e; omega), c1]
      by_cases l : j < i
      · rw [if_pos l, if_pos (by omega)]
      · rw [if_neg l, if_neg (by omega)]
  · rw [World.frozen?_setCell]
    exact h.free o

theorem few_drew {w wr : World} {g k i : Nat} {fs : List Fld} (h : FewRel w wr g k i fs) : FewRel w wr.drew g k i fs := ⟨h.cell, h.free, h.base, h.low.drew⟩

theorem few_end {w wr : World} {p : Option Addr} {n c g k cap : Nat} {fs : List Fld} (hx : HoldsX w p n c fs) (hk : k = min n 12) (h : FewRel w wr g k k fs) (hc : k ≤ cap) (hm : cap ≤ maxLen) : FewR w (fewX (says fs)) (.returned (.slice (some ⟨g, 0, none⟩) k cap)) wr := by
  refine ⟨_, k, cap, (fs.take k).map cutF, rfl, ⟨?_, hc, hm, (fun e => by cases e), fun i f hf => ?_⟩, ?_, h.low⟩
  · rw [List.length_map, List.length_take, hx.len]; omega
  · have il : i < k := by
      have := (List.getElem?_eq_some_iff.1 hf).1
      rw [List.length_map, List.length_take] at this
      omega
    rw [List.getElem?_map, List.getElem?_take, if_pos il] at hf
    obtain ⟨x, hx', rfl⟩ := Option.map_eq_some_iff.1 hf
    obtain ⟨c0, c1⟩ := h.cell i x il hx'
    rw [if_pos il] at c1
    refine ⟨_, rfl, by rw [add_zero']; exact c0, by rw [add_zero']; exact c1, ?_⟩
    have hd := (hx.below h.low).data x (List.mem_of_getElem? hx')
    have ln := hd.len
    rw [valsN_len] at ln
    have := holdsN_take hd (k := min x.n 600) (by omega)
    show Holds wr x.p (min x.n 600) x.c (valsN .u8 (x.ds.take 600))
    rwa [show x.ds.take (min x.n 600) = x.ds.take 600 by
      rw [← ln, Nat.min_comm, ← List.take_eq_take_min]] at this
  · unfold fewX
    rw [← says_take]
    have : fs.take k = fs.take 12 := by rw [hk, ← hx.len, Nat.min_comm, ← List.take_eq_take_min]
    rw [this]
    unfold says
    rw [List.map_map, List.map_map]
    rfl

set_option maxRecDepth 100000 in
set_option maxHeartbeats 8000000 in
theorem few_any (w : World) (p : Option Addr) (n c : Nat) (fs : List Fld) (hx : HoldsX w p n c fs) :
    Calls Try.prog 9 #[.slice p n c] w (FewR w (fewX (says fs))) := by
  obtain ⟨iX, hi, hz0, hz1, hz2⟩ := info_of infoX
  obtain ⟨k, hk⟩ : ∃ k, k = min n 12 := ⟨_, rfl⟩
  have mx := hx.max
  have cp := hx.cap
  unfold maxLen at mx
  have nb : (n : Int) ≤ 9223372036854775807 := by omega
  have EM : min (n : Int) 12 = (k : Int) := by omega
  have EI : (if (12 : Int) < (n : Int) then (12 : Int) else (n : Int)) = (k : Int) := by split <;> omega
  have kc : (k : Int) ≤ (c : Int) := by omega
  have kc' : k ≤ c := by omega
  have k12 : (k : Int) ≤ 12 := by omega
  have ln := hx.len
  have HX := Lib.hid hx
  have HK := Lib.hid hk
  have KL : Hid (k ≤ fs.length) := by unfold Hid; omega
  have L1 := Lib.hid ((Below.refl w.heap.size w).alloc (Nat.le_refl _) (.cells #[] 44))
  have O1 : Hid ((w.alloc (.cells #[] 44)).ownsRow w.heap.size 44 2 (.slice (some ⟨w.heap.size, 0, none⟩) 0 0) 0 []) := own_zero (heap_alloc_new w _) (Nat.le_refl _)
  rcases p with _ | a
  · have c0 := hx.bare rfl
    have n0 : n = 0 := by omega
    subst c0 n0
    have k0 : k = 0 := by omega
    subst k0
    have FIN : Hid (FewR w (fewX (says fs)) (.returned (.slice (some ⟨w.heap.size, 0, none⟩) 0 0)) (w.alloc (.cells #[] 44))) := by
      have f0 : fs = [] := List.length_eq_zero_iff.1 ln
      subst f0
      exact ⟨_, 0, 0, [], rfl, holdsX_nil _ _ _ (Nat.zero_le _) (fun _ => rfl), rfl, L1.out⟩
    clear hx mx cp hk ln EM EI kc kc' k12
    go_enter Try.func9, Try.ntmps9
    go_wp2_with (at_builtin; refine wpList_append_own_none rfl _ _ 22 rfl w.heap.size 44 iX 2 Try.underlying22 hi _ _ _ rfl O1.out rfl ?_)
    go_wp2_with fail
    go_loopw [14] (fun i wr => i = .int .i64 0 ∧ wr = w.alloc (.cells #[] 44)) (fun _ _ => 0)
    case atStart => exact ⟨rfl, rfl⟩
    case round =>
      obtain ⟨rfl, rfl⟩ := hrel
      go_wp2
      go_ret
      exact FIN.out
  · have cells : Hid (∀ j u, (cellsX (fs.take k))[j]? = some u → (w.alloc (.cells #[] 44)).cell? (a.add j) = some u) := fun j u hu => by
      obtain ⟨i, f, hf, h⟩ := cellsX_at _ j u hu
      have il : i < k := by
        have := (List.getElem?_eq_some_iff.1 hf).1
        rw [List.length_take] at this
        omega
      rw [List.getElem?_take, if_pos il] at hf
      obtain ⟨a', ea, c1, c2, -⟩ := (hx.below L1.out).cell i f hf
      cases ea
      rcases h with ⟨rfl, rfl⟩ | ⟨rfl, rfl⟩
      · exact c1
      · exact c2
    have hl : Hid ((cellsX (fs.take k)).length = k * 2) := by unfold Hid; rw [cellsX_len, List.length_take]; omega
    have BM : Hid (0 + k ≤ maxLen) := by unfold Hid maxLen; omega
    have BY : Hid ((0 + k) * 32 ≤ 140737488355328) := by unfold Hid; omega
    clear hx mx cp hk ln
    go_enter Try.func9, Try.ntmps9
    go_wp2_with (at_builtin; refine wpList_append_own _ rfl _ _ 22 rfl w.heap.size 44 iX (.agg #[.int .u16 0, .slice none 0 0]) 2 32 Try.underlying22 hi hz0 hz1 hz2 rfl (by decide) _ 0 [] rfl O1.out a k c (cellsX (fs.take k)) rfl hl.out cells.out (cellsX_one _) BM.out BY.out L1.out.size ?_)
    intro v1 w2 o2 g2 m2
    have LOW := (L1.out.grown g2 L1.out.size (fun j hj => (World.ownsRow.lt O1.out j hj).1))
    have SH : ∃ g cap, v1 = .slice (some ⟨g, 0, none⟩) k cap ∧ k ≤ cap ∧ cap ≤ maxLen := by
      rcases o2.2 with ⟨e, -⟩ | ⟨g, cap, cur, e, -, -, h1, h2, -⟩
      · exact (m2 e).elim
      · exact ⟨g, cap, e, h1, h2⟩
    obtain ⟨g, cap, rfl, hc, hm⟩ := SH
    have P0 := Lib.hid (few_start o2 LOW)
    have FIN := Lib.hid (fun wr h => few_end (wr := wr) (g := g) HX.out HK.out h hc hm)
    have capI : (k : Int) ≤ (cap : Int) := by omega
    clear o2 g2 m2 LOW hm hc
    go_wp2_with fail
    go_loopw [14] (fun i wr => ∃ j : Nat, i = .int .i64 j ∧ Hid (j ≤ k) ∧ Hid (FewRel w wr g k j fs)) (fun i _ => 100 - (intOf i).toNat)
    case atStart => exact ⟨0, rfl, Nat.zero_le _, P0⟩
    case round =>
      obtain ⟨j, rfl, hj, h⟩ := hrel
      by_cases g1 : j < k
      · have g' : (j : Int) < (k : Int) := by omega
        have jb : (j : Int) < 12 := by omega
        have G := Lib.hid g1
        obtain ⟨f, hf⟩ : ∃ f, fs[j]? = some f := ⟨_, List.getElem?_eq_getElem (by have := KL.out; omega)⟩
        obtain ⟨c0, c1⟩ := h.out.cell j f g1 hf
        rw [if_neg (Nat.lt_irrefl _)] at c1
        have fr := h.out.free (j * 2 + 1)
        have dd := (HX.out.data f (List.mem_of_getElem? hf))
        have fc := dd.cap
        have fm := dd.max
        unfold maxLen at fm
        have h' := few_drew h.out
        have fr' := h'.free (j * 2 + 1)
        have c1' := (h'.cell j f g1 hf).2
        rw [if_neg (Nat.lt_irrefl _)] at c1'
        have NX := Lib.hid (few_next h' hf g1)
        clear h'
        obtain ⟨t, fp, fn, fcc, ds⟩ := f
        simp only at c0 c1 c1' fc fm NX
        obtain ⟨m, hm⟩ : ∃ m, m = min fn 600 := ⟨_, rfl⟩
        rw [← hm] at NX
        have EM2 : min (fn : Int) 600 = (m : Int) := by omega
        have EI2 : (if (600 : Int) < (fn : Int) then (600 : Int) else (fn : Int)) = (m : Int) := by split <;> omega
        have m0 : (0 : Int) ≤ (m : Int) := by omega
        have mc : (m : Int) ≤ (fcc : Int) := by omega
        have fb : (fn : Int) ≤ 9223372036854775807 := by omega
        clear g1 hj h hf dd fc fm hm
        go_wp2_with fail
        go_still_tail 17, (by kernel_rfl)
        change wpList _ _ _ _ _ wr.drew
        generalize wr.drew = w3 at *
        go_wp2
        go_roundw
        case rel => exact ⟨j + 1, by go_num, G.out, NX⟩
        case measure => simp [intOf]; have := G.out; omega
      · have g' : (k : Int) ≤ (j : Int) := by omega
        have F : Hid (FewR w (fewX (says fs)) (.returned (.slice (some ⟨g, 0, none⟩) k cap)) wr) := FIN.out wr (by
          have e : j = k := by have := hj.out; omega
          have := h.out
          rwa [e] at this)
        clear g1 hj h
        go_wp2
        go_ret
        exact F.out
end Go.Proofs.Yteclcefeipjoeaa
