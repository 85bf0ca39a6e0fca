/- Layer 7 (packet): the program's fields in new memory. -/
import Derived.Test.YtfnidehbibfclaaPktD
import Derived.Test.YtfnidehbibfclaaGI
import Derived.Test.YtfnidehbibfclaaGH
import Derived.WalkSpells
set_option maxRecDepth 100000
namespace Go.Proofs.Ytfnidehbibfclaa
open Go.ChangeShapes Go.WideShapes Go.ChangeAt Go.RowKit OctM

/-- slices.Clone of few fields: a row of the call's own. -/
def CloneX (w : World) (n : Nat) (fs : List Fld) (e : Ending) (w' : World) : Prop := ∃ v, e = .returned v ∧ w'.ownsRow w.heap.size 52 2 v n (cellsX fs) ∧ Below w.heap.size w w'

set_option maxHeartbeats 4000000 in
theorem pcloneX_any (w : World) (p : Option Addr) (n c : Nat) (fs : List Fld) (hx : HoldsX w p n c fs) (hn : n ≤ 1000) :
    Calls Try.prog 65 #[.slice p n c] w (CloneX w n fs) := by
  obtain ⟨iX, hi, hz0, hz1, hz2⟩ := info_of infoX
  have cp := hx.cap
  have ln := hx.len
  have L1 := Lib.hid ((Below.refl w.heap.size w).alloc (Nat.le_refl _) (.cells #[] 52))
  have O1 : Hid ((w.alloc (.cells #[] 52)).ownsRow w.heap.size 52 2 (.slice (some ⟨w.heap.size, 0, none⟩) 0 0) 0 []) := own_zero (heap_alloc_new w _) (Nat.le_refl _)
  have NE := fun (w : World) (p : Option Addr) (n c : Nat) => Lib.run_eql_slice_nil (P := Try.prog) w 25 52 p n c 0 0 Try.underlying25
  rcases p with _ | a
  · have c0 := hx.bare rfl
    have n0 : n = 0 := by omega
    subst c0 n0
    have f0 : fs = [] := List.length_eq_zero_iff.1 ln
    subst f0
    have F : Hid (CloneX w 0 [] (.returned (.slice none 0 0)) w) := ⟨_, rfl, World.ownsRow_nil w _ _ 2, Below.refl _ _⟩
    clear hx cp ln L1 O1
    go_enter Try.func65, Try.ntmps65
    go_wp2
    go_ret
    exact F.out
  · have cells : Hid (∀ j u, (cellsX fs)[j]? = some u → (w.alloc (.cells #[] 52)).cell? (a.add j) = some u) := fun j u hu => by
      obtain ⟨i, f, hf, h⟩ := cellsX_at _ j u hu
      obtain ⟨a', ea, c1, c2, -⟩ := (hx.below L1.out).cell i f hf
      cases ea
      rcases h with ⟨rfl, rfl⟩ | ⟨rfl, rfl⟩
      · exact c1
      · exact c2
    have hl : Hid ((cellsX fs).length = n * 2) := by unfold Hid; rw [cellsX_len]; omega
    have BM : Hid (0 + n ≤ maxLen) := by unfold Hid maxLen; omega
    have BY : Hid ((0 + n) * 32 ≤ 140737488355328) := by unfold Hid; omega
    clear hx cp ln hn
    go_enter Try.func65, Try.ntmps65
    go_wp2_with (at_builtin; refine wpList_append_own _ rfl _ _ 25 rfl w.heap.size 52 iX (.agg #[.int .u16 0, .slice none 0 0]) 2 32 Try.underlying25 hi hz0 hz1 hz2 rfl (by decide) _ 0 [] rfl O1.out a n c (cellsX fs) rfl hl.out cells.out (cellsX_one _) BM.out BY.out L1.out.size ?_)
    intro v1 w2 o2 g2 _
    have F : Hid (CloneX w n fs (.returned v1) w2) := ⟨_, rfl, by simpa using o2, L1.out.grown g2 L1.out.size (fun j hj => (World.ownsRow.lt O1.out j hj).1)⟩
    clear o2 g2
    go_wp2
    go_ret
    exact F.out

theorem holds_cell_ne {W : World} {p : Option Addr} {n c : Nat} {ds : List Nat} (h : Holds W p n c (valsN .u8 ds)) {a0 : Addr} {q : Option Addr} {m d : Nat} (h0 : W.cell? a0 = some (.slice q m d)) (v : Value) : Holds (W.setCell a0 v) p n c (valsN .u8 ds) := by
  refine ⟨h.len, h.cap, h.max, h.bare, fun i u hu => ?_⟩
  obtain ⟨a, ha, hc⟩ := h.cell i u hu
  refine ⟨a, ha, ?_⟩
  rw [World.cell?_setCell_other]
  · exact hc
  · intro e
    rw [← e, h0] at hc
    injection hc with hc
    unfold valsN at hu
    rw [List.getElem?_map] at hu
    obtain ⟨z, -, ez⟩ := Option.map_eq_some_iff.1 hu
    rw [← hc] at ez
    cases ez

/-- While fields' data are copied. -/
structure CopyRel (w wr : World) (g n : Nat) (l : Says) (k : Nat) (gs : List Fld) : Prop where
  len : gs.length = n
  say : says gs = l
  cell : ∀ j f, gs[j]? = some f → wr.cell? ⟨g, j * 2, none⟩ = some (.int .u16 (f.ty : Nat)) ∧ wr.cell? ⟨g, j * 2 + 1, none⟩ = some (.slice f.p f.n f.c)
  data : DataX wr gs
  free : ∀ o, wr.frozen? ⟨g, o, none⟩ = false
  base : w.heap.size ≤ g
  news : ∀ j f, j < k → gs[j]? = some f → ∀ a, f.p = some a → w.heap.size ≤ a.block
  low : Below w.heap.size w wr
theorem copy_start {w w1 : World} {g n cap : Nat} {fs : List Fld} (o : w1.ownsRow w.heap.size 52 2 (.slice (some ⟨g, 0, none⟩) n cap) n (cellsX fs)) (dx : DataX w fs) (low : Below w.heap.size w w1) : CopyRel w w1 g n (says fs) 0 fs := by
  have oc := o
  have ln : fs.length = n := by have := o.1; rw [cellsX_len] at this; omega
  obtain ⟨-, ⟨e, -⟩ | ⟨g', cap', cur, e, hb, hg, h1, h2, h3, h4⟩⟩ := o
  · cases e
  · obtain rfl : g = g' := by injection e with e; injection e with e; injection e
    refine ⟨ln, rfl, fun j f hf => ?_, dx.below low, fun o => blk_free hg, hb, (fun j f hj => absurd hj (Nat.not_lt_zero _)), low⟩
    obtain ⟨c1, c2⟩ := cellsX_get _ j f hf
    have a := World.ownsRow.cells oc (g := g) rfl _ _ c1
    have b := World.ownsRow.cells oc (g := g) rfl _ _ c2
    rw [add_zero'] at a b
    exact ⟨a, b⟩
theorem copy_next {w wr w2 : World} {g n i : Nat} {l : Says} {gs : List Fld} {f : Fld} {q : Option Addr} {d : Nat} (h : CopyRel w wr g n l i gs) (hf : gs[i]? = some f) (l2 : Below wr.heap.size wr w2) (nq : Holds w2 q f.n d (valsN .u8 f.ds)) (nb : ∀ a, q = some a → wr.heap.size ≤ a.block) :
    CopyRel w (w2.setCell ⟨g, i * 2 + 1, none⟩ (.slice q f.n d)) g n l (i + 1) (gs.set i ⟨f.ty, q, f.n, d, f.ds⟩) := by
  have il := (List.getElem?_eq_some_iff.1 hf).1
  have cl : ∀ j f, gs[j]? = some f → w2.cell? ⟨g, j * 2, none⟩ = some (.int .u16 (f.ty : Nat)) ∧ w2.cell? ⟨g, j * 2 + 1, none⟩ = some (.slice f.p f.n f.c) := fun j f hj => by
    obtain ⟨a, b⟩ := h.cell j f hj
    exact ⟨(l2.cell (World.block_lt_of_cell? _ _ a)).trans a, (l2.cell (World.block_lt_of_cell? _ _ b)).trans b⟩
  obtain ⟨ci, ci1⟩ := cl i f hf
  refine ⟨by rw [List.length_set]; exact h.len, ?_, fun j x hx => ?_, fun x hx => ?_, fun o => ?_, h.base, fun j x hj hx a ha => ?_, (h.low.trans (l2.mono h.low.size)).setCell h.base _⟩
  · rw [← h.say]
    unfold says
    rw [List.map_set]
    apply List.ext_getElem?
    intro j
    rw [List.getElem?_set, List.getElem?_map]
    by_cases e : i = j
    · subst e
      rw [if_pos rfl, hf, List.length_map, if_pos il]
      rfl
    · rw [if_neg e]
  · rw [List.getElem?_set] at hx
    by_cases e : i = j
    · subst e
      rw [if_pos rfl, if_pos il] at hx
      injection hx with hx
      subst hx
      refine ⟨by rw [World.cell?_setCell_other _ _ _ _ (fun e => by injection e with _ e; omega)]; exact ci, World.cell?_setCell_same _ _ _ ci1⟩
    · rw [if_neg e] at hx
      obtain ⟨a, b⟩ := cl j x hx
      exact ⟨by rw [World.cell?_setCell_other _ _ _ _ (fun e => by injection e with _ e; omega)]; exact a, by rw [World.cell?_setCell_other _ _ _ _ (fun e => by injection e with _ e; omega)]; exact b⟩
  · rcases List.mem_or_eq_of_mem_set hx with hm | rfl
    · exact holds_cell_ne ((h.data x hm).below l2) ci1 _
    · exact holds_cell_ne nq ci1 _
  · rw [World.frozen?_setCell, World.frozen?_of_block (w := wr)]
    · exact h.free o
    · exact l2.block _ (World.block_lt_of_cell? wr ⟨g, i * 2, none⟩ (h.cell i f hf).1)
  · rw [List.getElem?_set] at hx
    by_cases e : i = j
    · subst e
      rw [if_pos rfl, if_pos il] at hx
      injection hx with hx
      subst hx
      exact Nat.le_trans h.low.size (nb a ha)
    · rw [if_neg e] at hx
      exact h.news j x (by omega) hx a ha
/-- Fields in new memory, row and data. -/
def FewB (w : World) (l : Says) (e : Ending) (w' : World) : Prop :=
  ∃ q n d fs, e = .returned (.slice q n d) ∧ HoldsX w' q n d fs ∧ says fs = l ∧ (∀ a, q = some a → w.heap.size ≤ a.block) ∧ (∀ f ∈ fs, ∀ a, f.p = some a → w.heap.size ≤ a.block) ∧ Below w.heap.size w w'
theorem holdsX_far {W W' : World} {B : Nat} {p : Option Addr} {n c : Nat} {fs : List Fld} (h : ∀ j, B ≤ j → W'.heap[j]? = W.heap[j]?) (hx : HoldsX W p n c fs) (hp : ∀ a, p = some a → B ≤ a.block) (hf : ∀ f ∈ fs, ∀ a, f.p = some a → B ≤ a.block) : HoldsX W' p n c fs := by
  refine ⟨hx.len, hx.cap, hx.max, hx.bare, fun i f hi => ?_⟩
  obtain ⟨a, ha, c0, c1, hd⟩ := hx.cell i f hi
  have k : ∀ o, W'.cell? (a.add o) = W.cell? (a.add o) := fun o => World.cell?_of_block (by rw [add_block]; exact h _ (hp a ha))
  refine ⟨a, ha, (k _).trans c0, (k _).trans c1, hd.len, hd.cap, hd.max, hd.bare, fun j u hu => ?_⟩
  obtain ⟨b, hb, hc⟩ := hd.cell j u hu
  exact ⟨b, hb, (World.cell?_of_block (by rw [add_block]; exact h _ (hf f (List.mem_of_getElem? hi) b hb))).trans hc⟩
theorem copy_end {w wr : World} {g n cap : Nat} {l : Says} {gs : List Fld} (h : CopyRel w wr g n l n gs) (hc : n ≤ cap) (hm : cap ≤ maxLen) : FewB w l (.returned (.slice (some ⟨g, 0, none⟩) n cap)) wr :=
  ⟨_, n, cap, gs, rfl, ⟨h.len, hc, hm, (fun e => by cases e), fun i f hf => by
    obtain ⟨a, b⟩ := h.cell i f hf
    exact ⟨_, rfl, by rw [add_zero']; exact a, by rw [add_zero']; exact b, h.data f (List.mem_of_getElem? hf)⟩⟩, h.say, (fun a ha => by injection ha with ha; subst ha; exact h.base), (fun f hf a ha => by
      obtain ⟨i, hi, e⟩ := List.getElem_of_mem hf
      exact h.news i f (by rw [← h.len]; exact hi) (by rw [List.getElem?_eq_getElem hi, e]) a ha), h.low⟩

set_option maxHeartbeats 8000000 in
theorem pcopied7_any (w : World) (p : Option Addr) (n c : Nat) (fs : List Fld) (hx : HoldsX w p n c fs) (hn : n ≤ 1000) (hs : ∀ f ∈ fs, f.n ≤ 100000) :
    Calls Try.prog 36 #[.slice p n c] w (FewB w (says fs)) := by
  have CL := Lib.hid (pcloneX_any w p n c fs hx hn)
  have DX := Lib.hid hx.data
  have nb : (n : Int) ≤ 1000 := by omega
  have HN := Lib.hid hn
  have HS := Lib.hid hs
  clear hx hn hs
  go_enter Try.func36, Try.ntmps36
  go_wp2_with fail
  refine CL.out.mono ?_; rintro e w1 ⟨v1, rfl, o1, l1⟩
  rcases o1.2 with ⟨rfl, n0⟩ | ⟨g, cap, cur, rfl, -, -, h1, h2, -⟩
  · subst n0
    have F : Hid (FewB w (says fs) (.returned (.slice none 0 0)) w1) := by
      have f0 : fs = [] := by
        have := o1.1
        rw [cellsX_len] at this
        exact List.length_eq_zero_iff.1 (by omega)
      subst f0
      exact ⟨none, 0, 0, [], rfl, holdsX_nil _ _ _ (Nat.zero_le _) (fun _ => rfl), rfl, (fun a ha => by cases ha), (fun f hf => by cases hf), l1⟩
    clear o1 l1 CL
    go_wp2_with fail
    go_loopw [8] (fun i wr => i = .int .i64 0 ∧ wr = w1) (fun _ _ => 0)
    case atStart => exact ⟨rfl, rfl⟩
    case round =>
      obtain ⟨rfl, rfl⟩ := hrel
      go_wp2
      go_ret
      exact F.out
  · have P0 := Lib.hid (copy_start o1 DX.out l1)
    have HC := Lib.hid h1
    have HM := Lib.hid h2
    have NS : Hid (∀ (gs : List Fld), says gs = says fs → gs.length = n → ∀ f ∈ gs, f.ds.length ≤ 100000) := fun gs es _ f hf => by
      have : (f.ty, f.ds) ∈ says fs := by rw [← es]; unfold says; exact List.mem_map.2 ⟨f, hf, rfl⟩
      unfold says at this
      obtain ⟨x, hx, ex⟩ := List.mem_map.1 this
      have a := HS.out x hx
      have b := (DX.out x hx).len
      rw [valsN_len] at b
      injection ex with _ ex
      rw [← ex]
      omega
    clear o1 l1 CL h1 h2
    go_wp2_with fail
    go_loopw [8] (fun i wr => ∃ j : Nat, i = .int .i64 j ∧ Hid (j ≤ n) ∧ Hid (∃ gs, CopyRel w wr g n (says fs) j gs)) (fun i _ => 2000 - (intOf i).toNat)
    case atStart => exact ⟨0, rfl, Nat.zero_le _, fs, P0.out⟩
    case round =>
      obtain ⟨j, rfl, hj, hgs⟩ := hrel
      obtain ⟨gs, h⟩ := hgs.out
      have jb : (j : Int) ≤ 1000 := by have := hj.out; have := HN.out; omega
      by_cases g1 : j < n
      · have g' : (j : Int) < (n : Int) := by omega
        have G := Lib.hid g1
        obtain ⟨f, hf⟩ : ∃ f, gs[j]? = some f := ⟨_, List.getElem?_eq_getElem (by rw [h.len]; exact g1)⟩
        obtain ⟨c0, c1⟩ := h.cell j f hf
        have fr := h.free (j * 2 + 1)
        have dd := h.data f (List.mem_of_getElem? hf)
        have fnb : f.n ≤ 100000 := by
          have a := NS.out gs h.say h.len f (List.mem_of_getElem? hf)
          have b := dd.len
          rw [valsN_len] at b
          omega
        have BC := Lib.hid (pclone_any wr f.p f.n f.c f.ds dd (by omega))
        have NX := Lib.hid (fun w2 q d (l2 : Below wr.heap.size wr w2) (nq : Holds w2 q f.n d (valsN .u8 f.ds)) (nb : ∀ a, q = some a → wr.heap.size ≤ a.block) => copy_next h hf l2 nq nb)
        have H := Lib.hid h
        have HF := Lib.hid hf
        clear h hf g1 hj hgs dd fnb c0 fr
        go_wp2_with fail
        refine BC.out.mono ?_; rintro e w2 ⟨q, d, rfl, nq, l2⟩
        have NX2 := Lib.hid (NX.out w2 q d l2 nq.holds nq.base)
        obtain ⟨a0, a1⟩ := H.out.cell j f HF.out
        have c1' : w2.cell? ⟨g, j * 2 + 1, none⟩ = some (.slice f.p f.n f.c) := (l2.cell (World.block_lt_of_cell? _ _ a1)).trans a1
        have fr' : w2.frozen? ⟨g, j * 2 + 1, none⟩ = false := by
          rw [World.frozen?_of_block (w := wr)]
          · exact H.out.free _
          · exact l2.block _ (World.block_lt_of_cell? _ _ a1)
        clear a0 a1 nq l2 c1 NX BC
        go_wp2
        go_roundw
        case rel => exact ⟨j + 1, by go_num, G.out, _, NX2.out⟩
        case measure => simp [intOf]; omega
      · have g' : (n : Int) ≤ (j : Int) := by omega
        have F := Lib.hid (copy_end (show CopyRel w wr g n (says fs) n gs from (show j = n by have := hj.out; omega) ▸ h) HC.out HM.out)
        clear h g1 hj hgs
        go_wp2
        go_ret
        exact F.out
end Go.Proofs.Ytfnidehbibfclaa
