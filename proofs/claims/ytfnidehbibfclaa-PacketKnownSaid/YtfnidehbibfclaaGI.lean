/- Texts of earlier layers, laid together: XExtN XExtO. -/
import Derived.Test.YtfnidehbibfclaaGH
import Derived.Test.YtfnidehbibfclaaGA
import Derived.StillTailTactics
set_option maxRecDepth 100000
/- Layer 5's laws: so many zero bytes behind some; what the examples say. -/
namespace Go.Proofs.Ytfnidehbibfclaa
open Go.ChangeShapes Go.WideShapes Go.ChangeAt Go.RowKit OctM

theorem valsN_zeros (k : Nat) : List.replicate k (Value.int .u8 0) = valsN .u8 (List.replicate k 0) := by
  unfold valsN
  rw [List.map_replicate]
  rfl
theorem byt_zeros (k : Nat) : Byt (List.replicate k 0) := fun d hd => by rw [List.eq_of_mem_replicate hd]; exact (by decide : 0 < 256)

/-- Bytes in a row of whoever calls. -/
def OfR (w : World) (B n : Nat) (ds : List Nat) (e : Ending) (w' : World) : Prop := ∃ v, e = .returned v ∧ w'.ownsRow B 5 1 v n (valsN .u8 ds) ∧ Below B w w'

/-- The examples' bytes. -/
theorem ex1 : parX ([1, 2, 0, 16] ++ List.replicate 12 0) = ([(258, List.replicate 12 0)], [], 0) := by decide +kernel
theorem ex2 (ds : List Nat) (h : ds.length = 12) : parX ds = ([], ds, 0) := by unfold parX; rw [parF_done (.inr h)]
theorem ex3 : parX ([1, 2, 0, 12] ++ List.replicate 16 0) = ([], [], 5) := by decide +kernel
theorem ex4 : parX ([1, 2, 0, 16] ++ List.replicate 9 0) = ([], [], 4) := by decide +kernel

theorem made_zeros (s : Nat) : (madeCells #[Value.int .u8 0] s).toList = valsN .u8 (List.replicate s 0) := by
  rw [← valsN_zeros]
  unfold madeCells
  apply List.ext_getElem?
  intro i
  rw [List.getElem?_replicate]
  by_cases h : i < s
  · simp [h, Nat.mod_one]
  · simp [h]
/-- so many zero bytes, made. -/
theorem makeZ (s : Nat) (hs : s ≤ 1000000) : ∃ C : Array Value, C.toList = valsN .u8 (List.replicate s 0) ∧ C.size = s ∧ ∀ w, (Instr.makeSlice 31 (.int .i64 (s : Int)) (.int .i64 (s : Int))).run Try.prog w = .ok (.slice (some ⟨w.heap.size, 0, none⟩) s s) (w.alloc (.cells C 5)) := by
  obtain ⟨i, hi, h0, h1, h2⟩ := info_of info8
  refine ⟨madeCells #[Value.int .u8 0] s, made_zeros s, size_madeCells _ _, fun w => ?_⟩
  have r := run_make (P := Try.prog) w 31 5 i (.int .u8 0) Try.underlying31 hi h0 .i64 .i64 (s : Int) (s : Int) (by omega) (by omega) (by rw [h2]; omega) (by omega)
  rw [h1, Int.toNat_natCast, Nat.mul_one] at r
  exact r

/-- Four bytes in a new block, as a row of the call's own. -/
theorem own_a (w : World) (B : Nat) (hB : B ≤ w.heap.size) : (w.alloc (.cells #[.int .u8 1, .int .u8 2, .int .u8 0, .int .u8 16] 5)).ownsRow B 5 1 (.slice (some ⟨w.heap.size, 0, none⟩) 4 4) 4 (valsN .u8 [1, 2, 0, 16]) :=
  own_of_blk (heap_alloc_new w _) rfl (by decide) hB
theorem own_b (w : World) (B : Nat) (hB : B ≤ w.heap.size) : (w.alloc (.cells #[.int .u8 1, .int .u8 2, .int .u8 0, .int .u8 12] 5)).ownsRow B 5 1 (.slice (some ⟨w.heap.size, 0, none⟩) 4 4) 4 (valsN .u8 [1, 2, 0, 12]) :=
  own_of_blk (heap_alloc_new w _) rfl (by decide) hB

theorem four_byt {a b c d k : Nat} (ha : a < 256) (hb : b < 256) (hc : c < 256) (hd : d < 256) : Byt ([a, b, c, d] ++ List.replicate k 0) := by
  intro x hx
  rcases List.mem_append.1 hx with h | h
  · simp only [List.mem_cons, List.not_mem_nil, or_false] at h
    omega
  · exact byt_zeros k x h

theorem ex_call (w1 : World) (v : Value) (n B : Nat) (ds : List Nat) (o : w1.ownsRow B 5 1 v n (valsN .u8 ds)) (hy : Byt ds) (hn : n ≤ 10000) :
    Calls Try.prog 48 #[v] w1 (ParR w1 (parX ds)) := by
  obtain ⟨p, c, rfl, hh⟩ := own_holds o
  exact pparse5_any w1 p n c ds hh hy hn

/-- What the examples' first call tells, laid open. -/
theorem par_one {w w' : World} {e : Ending} (h : ParR w ([(258, List.replicate 12 0)], [], 0) e w') : ∃ a c q d fp fc, e = .returned (.tuple #[.slice (some a) 1 c, .slice q 0 d, .int .i64 0]) ∧ w'.cell? a = some (.int .u16 258) ∧ w'.cell? ⟨a.block, a.off + 1, none⟩ = some (.slice fp 12 fc) ∧ Below w.heap.size w w' := by
  obtain ⟨p, c, q, d, fs, rfl, hs, hh, hn, hq, hb⟩ := h
  obtain ⟨a, f, ha, hf, c0, c1, hd⟩ := hh.at (i := 0) (by decide)
  subst ha
  have e := says_get hf
  rw [hs] at e
  have e2 : (258, List.replicate 12 0) = (f.ty, f.ds) := by injection e
  injection e2 with e3 e4
  have ln := hd.len
  rw [valsN_len, ← e4] at ln
  have ln' : f.n = 12 := by rw [← ln]; rfl
  refine ⟨a, c, q, d, f.p, f.c, rfl, ?_, ?_, hb⟩
  · rw [← e3] at c0; exact c0
  · rw [ln'] at c1; exact c1
theorem par_none {w w' : World} {e : Ending} {ds : List Nat} {x : Nat} (h : ParR w ([], ds, x) e w') : ∃ p c q d, e = .returned (.tuple #[.slice p 0 c, .slice q ds.length d, .int .i64 (x : Nat)]) ∧ New w.heap.size w' q ds.length d (valsN .u8 ds) ∧ Below w.heap.size w w' := by
  obtain ⟨p, c, q, d, fs, rfl, hs, hh, hn, hq, hb⟩ := h
  exact ⟨p, c, q, d, rfl, hq, hb⟩

end Go.Proofs.Ytfnidehbibfclaa
/- Layer 5's laws: the first few fields, each cut. -/
namespace Go.Proofs.Ytfnidehbibfclaa
open Go.ChangeShapes Go.WideShapes Go.ChangeAt Go.RowKit OctM

/-- Fields are told in a row of their own; each one's bytes lie wherever. -/
def FewR (w : World) (l : Says) (e : Ending) (w' : World) : Prop :=
  ∃ q n d fs, e = .returned (.slice q n d) ∧ HoldsX w' q n d fs ∧ says fs = l ∧ Below w.heap.size w w'

theorem own_zero {w : World} {N B s : Nat} {T : TypeId} (h : w.heap[N]? = some (.cells #[] T (0, 0))) (hB : B ≤ N) : w.ownsRow B T s (.slice (some ⟨N, 0, none⟩) 0 0) 0 [] :=
  ⟨by simp, .inr ⟨N, 0, #[], rfl, hB, h, Nat.le_refl _, Nat.zero_le _, by simp, by simp⟩⟩

theorem cellsX_at : ∀ (fs : List Fld) (j : Nat) (u : Value), (cellsX fs)[j]? = some u → ∃ i f, fs[i]? = some f ∧ ((j = i * 2 ∧ u = .int .u16 (f.ty : Nat)) ∨ (j = i * 2 + 1 ∧ u = .slice f.p f.n f.c))
  | [], j, u, h => by simp [cellsX_nil] at h
  | f :: fs, j, u, h => by
    rw [cellsX_cons] at h
    rcases j with _ | _ | j
    · exact ⟨0, f, rfl, .inl ⟨rfl, by injection h with h; exact h.symm⟩⟩
    · exact ⟨0, f, rfl, .inr ⟨rfl, by injection h with h; exact h.symm⟩⟩
    · obtain ⟨i, g, hg, hh⟩ := cellsX_at fs j u h
      refine ⟨i + 1, g, hg, ?_⟩
      rcases hh with ⟨e, eu⟩ | ⟨e, eu⟩
      · exact .inl ⟨by omega, eu⟩
      · exact .inr ⟨by omega, eu⟩

/-- A field's data, cut to 600 bytes. -/
def cutF (f : Fld) : Fld := ⟨f.ty, f.p, min f.n 600, f.c, f.ds.take 600⟩

/-- While fields are cut: i of them are. -/
structure FewRel (w wr : World) (g k i : Nat) (fs : List Fld) : Prop where
  cell : ∀ j f, j < k → fs[j]? = some f → wr.cell? ⟨g, j * 2, none⟩ = some (.int .u16 (f.ty : Nat)) ∧ wr.cell? ⟨g, j * 2 + 1, none⟩ = some (.slice f.p (if j < i then min f.n 600 else f.n) f.c)
  free : ∀ o, wr.frozen? ⟨g, o, none⟩ = false
  base : w.heap.size ≤ g
  low : Below w.heap.size w wr

theorem few_start {w w1 : World} {g k cap : Nat} {fs : List Fld} (o : w1.ownsRow w.heap.size 52 2 (.slice (some ⟨g, 0, none⟩) k cap) k (cellsX (fs.take k))) (low : Below w.heap.size w w1) : FewRel w w1 g k 0 fs := by
  have oc := o
  obtain ⟨-, ⟨e, -⟩ | ⟨g', cap', cur, e, hb, hg, h1, h2, h3, h4⟩⟩ := o
  · cases e
  · obtain rfl : g = g' := by injection e with e; injection e with e; injection e
    refine ⟨fun j f hj hf => ?_, fun o => blk_free hg, hb, low⟩
    have hf' : (fs.take k)[j]? = some f := by rw [List.getElem?_take, if_pos hj]; exact hf
    obtain ⟨c1, c2⟩ := cellsX_get _ j f hf'
    have a := World.ownsRow.cells oc (g := g) rfl _ _ c1
    have b := World.ownsRow.cells oc (g := g) rfl _ _ c2
    rw [add_zero'] at a b
    rw [if_neg (Nat.not_lt_zero _)]
    exact ⟨a, b⟩

theorem few_next {w wr : World} {g k i : Nat} {fs : List Fld} {f : Fld} (h : FewRel w wr g k i fs) (hf : fs[i]? = some f) (hi : i < k) : FewRel w (wr.setCell ⟨g, i * 2 + 1, none⟩ (.slice f.p (min f.n 600) f.c)) g k (i + 1) fs := by
  refine ⟨fun j x hj hx => ?_, fun o => ?_, h.base, h.low.setCell h.base _⟩
  · obtain ⟨c0, c1⟩ := h.cell j x hj hx
    refine ⟨by rw [World.cell?_setCell_other _ _ _ _ (fun e => by injection e with _ e; omega)]; exact c0, ?_⟩
    by_cases e : j = i
    · subst e
      rw [hf] at hx
      injection hx with hx
      subst hx
      rw [if_pos (by omega)]
      exact World.cell?_setCell_same _ _ _ c1
    · rw [World.cell?_setCell_other _ _ _ _ (fun e => by injection e with _ e; omega), c1]
      by_cases l : j < i
      · rw [if_pos l, if_pos (by omega)]
      · rw [if_neg l, if_neg (by omega)]
  · rw [World.frozen?_setCell]
    exact h.free o

theorem few_drew {w wr : World} {g k i : Nat} {fs : List Fld} (h : FewRel w wr g k i fs) : FewRel w wr.drew g k i fs := ⟨h.cell, h.free, h.base, h.low.drew⟩

/-- The first few fields, each cut, in a row of their own: their bytes lie where they lay. -/
def FewS (w : World) (n : Nat) (fs : List Fld) (e : Ending) (w' : World) : Prop :=
  ∃ q d, e = .returned (.slice q (min n 12) d) ∧ HoldsX w' q (min n 12) d ((fs.take (min n 12)).map cutF) ∧ (∀ a, q = some a → w.heap.size ≤ a.block) ∧ Below w.heap.size w w'
theorem few_says {n : Nat} {fs : List Fld} (ln : fs.length = n) : says ((fs.take (min n 12)).map cutF) = fewX (says fs) := by
  unfold fewX
  rw [← says_take]
  have : fs.take (min n 12) = fs.take 12 := by rw [← ln, Nat.min_comm, ← List.take_eq_take_min]
  rw [this]
  unfold says
  rw [List.map_map, List.map_map]
  rfl
theorem few_end {w wr : World} {p : Option Addr} {n c g k cap : Nat} {fs : List Fld} (hx : HoldsX w p n c fs) (hk : k = min n 12) (h : FewRel w wr g k k fs) (hc : k ≤ cap) (hm : cap ≤ maxLen) : FewS w n fs (.returned (.slice (some ⟨g, 0, none⟩) k cap)) wr := by
  subst hk
  refine ⟨_, cap, rfl, ⟨?_, hc, hm, (fun e => by cases e), fun i f hf => ?_⟩, (fun a ha => by injection ha with ha; subst ha; exact h.base), h.low⟩
  · rw [List.length_map, List.length_take, hx.len]; omega
  · have il : i < min n 12 := by
      have := (List.getElem?_eq_some_iff.1 hf).1
      rw [List.length_map, List.length_take] at this
      omega
    rw [List.getElem?_map, List.getElem?_take, if_pos il] at hf
    obtain ⟨x, hx', rfl⟩ := Option.map_eq_some_iff.1 hf
    obtain ⟨c0, c1⟩ := h.cell i x il hx'
    rw [if_pos il] at c1
    refine ⟨_, rfl, by rw [add_zero']; exact c0, by rw [add_zero']; exact c1, ?_⟩
    have hd := (hx.below h.low).data x (List.mem_of_getElem? hx')
    have ln := hd.len
    rw [valsN_len] at ln
    have := holdsN_take hd (k := min x.n 600) (by omega)
    show Holds wr x.p (min x.n 600) x.c (valsN .u8 (x.ds.take 600))
    rwa [show x.ds.take (min x.n 600) = x.ds.take 600 by
      rw [← ln, Nat.min_comm, ← List.take_eq_take_min]] at this
theorem cut_data {W : World} {fs : List Fld} (h : DataX W fs) (k : Nat) : DataX W ((fs.take k).map cutF) := fun f hf => by
  obtain ⟨x, hx, rfl⟩ := List.mem_map.1 hf
  have hd := h x (List.mem_of_mem_take hx)
  have ln := hd.len
  rw [valsN_len] at ln
  have := holdsN_take hd (k := min x.n 600) (by omega)
  show Holds W x.p (min x.n 600) x.c (valsN .u8 (x.ds.take 600))
  rwa [show x.ds.take (min x.n 600) = x.ds.take 600 by
    rw [← ln, Nat.min_comm, ← List.take_eq_take_min]] at this

set_option maxRecDepth 100000 in
set_option maxHeartbeats 8000000 in
theorem few_all (w : World) (p : Option Addr) (n c : Nat) (fs : List Fld) (hx : HoldsX w p n c fs) :
    Calls Try.prog 27 #[.slice p n c] w (FewS w n fs) := by
  obtain ⟨iX, hi, hz0, hz1, hz2⟩ := info_of infoX
  obtain ⟨k, hk⟩ : ∃ k, k = min n 12 := ⟨_, rfl⟩
  have mx := hx.max
  have cp := hx.cap
  unfold maxLen at mx
  have nb : (n : Int) ≤ 9223372036854775807 := by omega
  have EM : min (n : Int) 12 = (k : Int) := by omega
  have EI : (if (12 : Int) < (n : Int) then (12 : Int) else (n : Int)) = (k : Int) := by split <;> omega
  have kc : (k : Int) ≤ (c : Int) := by omega
  have kc' : k ≤ c := by omega
  have k12 : (k : Int) ≤ 12 := by omega
  have ln := hx.len
  have HX := Lib.hid hx
  have HK := Lib.hid hk
  have KL : Hid (k ≤ fs.length) := by unfold Hid; omega
  have L1 := Lib.hid ((Below.refl w.heap.size w).alloc (Nat.le_refl _) (.cells #[] 52))
  have O1 : Hid ((w.alloc (.cells #[] 52)).ownsRow w.heap.size 52 2 (.slice (some ⟨w.heap.size, 0, none⟩) 0 0) 0 []) := own_zero (heap_alloc_new w _) (Nat.le_refl _)
  rcases p with _ | a
  · have c0 := hx.bare rfl
    have n0 : n = 0 := by omega
    subst c0 n0
    have k0 : k = 0 := by omega
    subst k0
    have FIN : Hid (FewS w 0 fs (.returned (.slice (some ⟨w.heap.size, 0, none⟩) 0 0)) (w.alloc (.cells #[] 52))) := by
      have f0 : fs = [] := List.length_eq_zero_iff.1 ln
      subst f0
      exact ⟨_, 0, rfl, holdsX_nil _ _ _ (Nat.zero_le _) (fun e => by cases e), (fun a ha => by injection ha with ha; subst ha; exact Nat.le_refl _), L1.out⟩
    clear hx mx cp hk ln EM EI kc kc' k12
    go_enter Try.func27, Try.ntmps27
    go_wp2_with (at_builtin; refine wpList_append_own_none rfl _ _ 25 rfl w.heap.size 52 iX 2 Try.underlying25 hi _ _ _ rfl O1.out rfl ?_)
    go_wp2_with fail
    go_loopw [14] (fun i wr => i = .int .i64 0 ∧ wr = w.alloc (.cells #[] 52)) (fun _ _ => 0)
    case atStart => exact ⟨rfl, rfl⟩
    case round =>
      obtain ⟨rfl, rfl⟩ := hrel
      go_wp2
      go_ret
      exact FIN.out
  · have cells : Hid (∀ j u, (cellsX (fs.take k))[j]? = some u → (w.alloc (.cells #[] 52)).cell? (a.add j) = some u) := fun j u hu => by
      obtain ⟨i, f, hf, h⟩ := cellsX_at _ j u hu
      have il : i < k := by
        have := (List.getElem?_eq_some_iff.1 hf).1
        rw [List.length_take] at this
        omega
      rw [List.getElem?_take, if_pos il] at hf
      obtain ⟨a', ea, c1, c2, -⟩ := (hx.below L1.out).cell i f hf
      cases ea
      rcases h with ⟨rfl, rfl⟩ | ⟨rfl, rfl⟩
      · exact c1
      · exact c2
    have hl : Hid ((cellsX (fs.take k)).length = k * 2) := by unfold Hid; rw [cellsX_len, List.length_take]; omega
    have BM : Hid (0 + k ≤ maxLen) := by unfold Hid maxLen; omega
    have BY : Hid ((0 + k) * 32 ≤ 140737488355328) := by unfold Hid; omega
    clear hx mx cp hk ln
    go_enter Try.func27, Try.ntmps27
    go_wp2_with (at_builtin; refine wpList_append_own _ rfl _ _ 25 rfl w.heap.size 52 iX (.agg #[.int .u16 0, .slice none 0 0]) 2 32 Try.underlying25 hi hz0 hz1 hz2 rfl (by decide) _ 0 [] rfl O1.out a k c (cellsX (fs.take k)) rfl hl.out cells.out (cellsX_one _) BM.out BY.out L1.out.size ?_)
    intro v1 w2 o2 g2 m2
    have LOW := (L1.out.grown g2 L1.out.size (fun j hj => (World.ownsRow.lt O1.out j hj).1))
    have SH : ∃ g cap, v1 = .slice (some ⟨g, 0, none⟩) k cap ∧ k ≤ cap ∧ cap ≤ maxLen := by
      rcases o2.2 with ⟨e, -⟩ | ⟨g, cap, cur, e, -, -, h1, h2, -⟩
      · exact (m2 e).elim
      · exact ⟨g, cap, e, h1, h2⟩
    obtain ⟨g, cap, rfl, hc, hm⟩ := SH
    have P0 := Lib.hid (few_start o2 LOW)
    have FIN := Lib.hid (fun wr h => few_end (wr := wr) (g := g) HX.out HK.out h hc hm)
    have capI : (k : Int) ≤ (cap : Int) := by omega
    clear o2 g2 m2 LOW hm hc
    go_wp2_with fail
    go_loopw [14] (fun i wr => ∃ j : Nat, i = .int .i64 j ∧ Hid (j ≤ k) ∧ Hid (FewRel w wr g k j fs)) (fun i _ => 100 - (intOf i).toNat)
    case atStart => exact ⟨0, rfl, Nat.zero_le _, P0⟩
    case round =>
      obtain ⟨j, rfl, hj, h⟩ := hrel
      by_cases g1 : j < k
      · have g' : (j : Int) < (k : Int) := by omega
        have jb : (j : Int) < 12 := by omega
        have G := Lib.hid g1
        obtain ⟨f, hf⟩ : ∃ f, fs[j]? = some f := ⟨_, List.getElem?_eq_getElem (by have := KL.out; omega)⟩
        obtain ⟨c0, c1⟩ := h.out.cell j f g1 hf
        rw [if_neg (Nat.lt_irrefl _)] at c1
        have fr := h.out.free (j * 2 + 1)
        have dd := (HX.out.data f (List.mem_of_getElem? hf))
        have fc := dd.cap
        have fm := dd.max
        unfold maxLen at fm
        have h' := few_drew h.out
        have fr' := h'.free (j * 2 + 1)
        have c1' := (h'.cell j f g1 hf).2
        rw [if_neg (Nat.lt_irrefl _)] at c1'
        have NX := Lib.hid (few_next h' hf g1)
        clear h'
        obtain ⟨t, fp, fn, fcc, ds⟩ := f
        simp only at c0 c1 c1' fc fm NX
        obtain ⟨m, hm⟩ : ∃ m, m = min fn 600 := ⟨_, rfl⟩
        rw [← hm] at NX
        have EM2 : min (fn : Int) 600 = (m : Int) := by omega
        have EI2 : (if (600 : Int) < (fn : Int) then (600 : Int) else (fn : Int)) = (m : Int) := by split <;> omega
        have m0 : (0 : Int) ≤ (m : Int) := by omega
        have mc : (m : Int) ≤ (fcc : Int) := by omega
        have fb : (fn : Int) ≤ 9223372036854775807 := by omega
        clear g1 hj h hf dd fc fm hm
        go_wp2_with fail
        go_still_tail 17, (by kernel_rfl)
        change wpList _ _ _ _ _ wr.drew
        generalize wr.drew = w3 at *
        go_wp2
        go_roundw
        case rel => exact ⟨j + 1, by go_num, G.out, NX⟩
        case measure => simp [intOf]; have := G.out; omega
      · have g' : (k : Int) ≤ (j : Int) := by omega
        have F : Hid (FewS w n fs (.returned (.slice (some ⟨g, 0, none⟩) k cap)) wr) := FIN.out wr (by
          have e : j = k := by have := hj.out; omega
          have := h.out
          rwa [e] at this)
        clear g1 hj h
        go_wp2
        go_ret
        exact F.out
theorem few_any (w : World) (p : Option Addr) (n c : Nat) (fs : List Fld) (hx : HoldsX w p n c fs) :
    Calls Try.prog 27 #[.slice p n c] w (FewR w (fewX (says fs))) := (few_all w p n c fs hx).mono (by
  rintro e w' ⟨q, d, rfl, h, -, l⟩
  exact ⟨q, _, d, _, rfl, h, few_says hx.len, l⟩)
end Go.Proofs.Ytfnidehbibfclaa
