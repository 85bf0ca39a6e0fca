/- Texts of earlier layers, laid together: XExtH XExtI XExtJ XExtK XExtL. -/
import Derived.Test.YtfnidehbibfclaaGG
import Derived.Test.YtfnidehbibfclaaShelf
import Derived.RangeFuncBox
import Derived.Test.YtfnidehbibfclaaGB
import Derived.Deep.RegionHeld3
import Derived.Deep.AppendLies
import Derived.Test.YtfnidehbibfclaaGC
import Derived.ScopeJumps
import Derived.WalkMore
set_option maxRecDepth 100000
/- Layer 5 (ext): what is found: the program's and the document's. -/
namespace Go.Proofs.Ytfnidehbibfclaa
open Go.ChangeShapes Go.WideShapes Go.ChangeAt Go.RowKit OctM

/-- bytes.Clone of any row: new bytes. -/
theorem pclone_any (w : World) (p : Option Addr) (n c : Nat) (ds : List Nat) (hh : Holds w p n c (valsN .u8 ds)) (hn : n ≤ 140737488355328) :
    Calls Try.prog 25 #[.slice p n c] w fun e w' => ∃ q d, e = .returned (.slice q n d) ∧ New w.heap.size w' q n d (valsN .u8 ds) ∧ Below w.heap.size w w' := by
  have ln : ds.length = n := by have := hh.len; rwa [valsN_len] at this
  rcases p with _ | a
  · have c0 := hh.bare rfl
    have n0 : n = 0 := by have := hh.cap; omega
    subst c0 n0
    obtain rfl := List.length_eq_zero_iff.1 ln
    refine (Try.bytes_Clone_nil 0 0 w).mono ?_
    rintro e w' ⟨rfl, rfl⟩
    exact ⟨none, 0, rfl, New.nil _ _, Below.refl _ _⟩
  · refine (Try.bytes_Clone_at a n c (ds.map fun d : Nat => (d : Int)) w (by rw [List.length_map]; exact ln) hn (fun i hi => ?_)).mono ?_
    · obtain ⟨a', e, hc⟩ := hh.atN hi
      cases e
      rw [hc, List.getD_eq_getElem?_getD, List.getD_eq_getElem?_getD, List.getElem?_map, List.getElem?_eq_getElem (by omega)]
      rfl
    · rintro e w' ⟨v, rfl, o, -, low⟩
      have e : (ds.map fun d : Nat => (d : Int)).map (Value.int .u8) = valsN .u8 ds := by unfold valsN; rw [List.map_map]; rfl
      rw [e] at o
      obtain ⟨q, d, rfl, nw⟩ := own_new o
      exact ⟨q, d, rfl, nw, low⟩

/-- Field i is the first of that type. -/
structure FirstX (fs : List Fld) (t i : Nat) (f : Fld) : Prop where
  at' : fs[i]? = some f
  ty : f.ty = t
  ahead : ∀ j, j < i → ∀ g, fs[j]? = some g → g.ty ≠ t
theorem first_or (t : Nat) : ∀ fs : List Fld, (∃ i f, FirstX fs t i f) ∨ ∀ f ∈ fs, f.ty ≠ t
  | [] => .inr fun f hf => by cases hf
  | f :: fs => by
    by_cases e : f.ty = t
    · exact .inl ⟨0, f, rfl, e, fun j hj => absurd hj (Nat.not_lt_zero _)⟩
    · rcases first_or t fs with ⟨i, g, h⟩ | h
      · refine .inl ⟨i + 1, g, by simpa using h.at', h.ty, fun j hj x hx => ?_⟩
        cases j with
        | zero =>
          obtain rfl : f = x := by simpa using hx
          exact e
        | succ j => exact h.ahead j (by omega) x (by simpa using hx)
      · refine .inr fun x hx => ?_
        rcases List.mem_cons.1 hx with rfl | hx
        · exact e
        · exact h x hx

/-- Nothing ahead of place k has that type. -/
def noneX (fs : List Fld) (t k : Nat) : Prop := ∀ j, j < k → ∀ g, fs[j]? = some g → g.ty ≠ t

/-- New bytes of the first field of that type, or none. -/
def FoundP (w : World) (fs : List Fld) (t : Nat) (e : Ending) (w' : World) : Prop :=
  ((∃ i f q d, FirstX fs t i f ∧ e = .returned (.tuple #[.slice q f.n d, .bool true]) ∧ New w.heap.size w' q f.n d (valsN .u8 f.ds)) ∨ (∀ f ∈ fs, f.ty ≠ t) ∧ e = .returned (.tuple #[.slice none 0 0, .bool false])) ∧ Below w.heap.size w w'
end Go.Proofs.Ytfnidehbibfclaa
/- Layer 5 (ext): while fields are read: one more. -/
namespace Go.Proofs.Ytfnidehbibfclaa
open Go.ChangeShapes Go.WideShapes Go.ChangeAt Go.RowKit OctM

theorem infoX : (Try.prog.info? 52).map (fun i => (i.zero, i.size, i.bytes)) = some (some (.agg #[.int .u16 0, .slice none 0 0]), 2, 32) := by kernel_rfl

theorem New.grown {B : Nat} {w w' : World} {p : Option Addr} {n c : Nat} {vs : List Value} {row : Option Nat} (h : New B w p n c vs) (g : w.grownBy w' row) (ap : ∀ a, p = some a → row ≠ some a.block) : New B w' p n c vs := by
  have far : ∀ i a u, p = some a → w.cell? (a.add i) = some u → w'.cell? (a.add i) = some u ∧ w'.frozen? (a.add i) = w.frozen? (a.add i) := fun i a u ha hc => by
    have lt := World.block_lt_of_cell? w _ hc
    have ne : some (a.add i).block ≠ row := by rw [add_block]; exact (ap a ha).symm
    exact ⟨(World.grownBy.cell_far g _ lt ne).trans hc, World.grownBy.frozen_far g _ lt ne⟩
  refine ⟨⟨h.holds.len, h.holds.cap, h.holds.max, h.holds.bare, fun i u hu => ?_⟩, h.base, fun a ha i hi => ?_⟩
  · obtain ⟨a, ha, hc⟩ := h.holds.cell i u hu
    exact ⟨a, ha, (far i a u ha hc).1⟩
  · obtain ⟨u, hu⟩ : ∃ u, vs[i]? = some u := ⟨_, List.getElem?_eq_getElem (by rw [h.holds.len]; exact hi)⟩
    obtain ⟨a', e, hc⟩ := h.holds.cell i u hu
    rw [ha] at e
    cases e
    rw [(far i a u ha hc).2]
    exact h.free a ha i hi

/-- While fields are read: fields so far in rows of the call's own, what is left to read, and what all of it comes to. -/
structure ParRel (w wr : World) (v : Value) (p : Option Addr) (n c : Nat) (r : Nat) (fs : List Fld) (left : List Nat) (all : ParO) : Prop where
  own : wr.ownsRow w.heap.size 52 2 v fs.length (cellsX fs)
  news : NewsX w.heap.size wr fs
  apart : ∀ f ∈ fs, ∀ a, f.p = some a → a.block < wr.heap.size ∧ v.ownBlock ≠ some a.block
  count : r + fs.length = 8
  holds : Holds w p n c (valsN .u8 left)
  byt : Byt left
  goes : parF r (says fs) left = all
  low : Below w.heap.size w wr
theorem ParRel.start {w : World} {p : Option Addr} {n c : Nat} {ds : List Nat} (h : Holds w p n c (valsN .u8 ds)) (hy : Byt ds) : ParRel w w (.slice none 0 0) p n c 8 [] ds (parX ds) :=
  ⟨World.ownsRow_nil w _ _ 2, newsX_nil _ _, (fun f hf => by cases hf), rfl, h, hy, rfl, Below.refl _ _⟩
theorem ParRel.len {w wr : World} {v : Value} {p : Option Addr} {n c r : Nat} {fs : List Fld} {left : List Nat} {all : ParO} (h : ParRel w wr v p n c r fs left all) : left.length = n := by have := h.holds.len; rwa [valsN_len] at this
theorem ParRel.slice {w wr : World} {v : Value} {p : Option Addr} {n c r : Nat} {fs : List Fld} {left : List Nat} {all : ParO} (h : ParRel w wr v p n c r fs left all) : ∃ p' c', v = .slice p' fs.length c' := by
  obtain ⟨-, p', c', e, -⟩ := ownX h.own h.news.data
  exact ⟨p', c', e⟩
theorem ParRel.done {w wr w' : World} {v : Value} {p q : Option Addr} {n c r d : Nat} {fs : List Fld} {left : List Nat} {all : ParO} (h : ParRel w wr v p n c r fs left all) (hd : doneX left) (hb : Below wr.heap.size wr w') (hn : New wr.heap.size w' q n d (valsN .u8 left)) :
    ParR w all (.returned (.tuple #[v, .slice q n d, .int .i64 0])) w' := by
  have e := h.goes
  rw [parF_done hd] at e
  subst e
  obtain ⟨l1, p', c', rfl, hh, hbase⟩ := ownX (own_keep h.own hb) ((h.news.below hb).data)
  refine ⟨p', c', q, d, fs, ?_, rfl, ?_, h.news.below hb, ?_, h.low.trans (hb.mono h.low.size)⟩
  · show _ = Ending.returned (.tuple #[.slice p' (says fs).length c', .slice q left.length d, .int .i64 0])
    rw [says_len, h.len]
  · show HoldsX w' p' (says fs).length c' fs
    rw [says_len]; exact hh
  · show New w.heap.size w' q left.length d (valsN .u8 left)
    rw [h.len]; exact hn.low h.low.size
theorem ParRel.bad {w wr w' : World} {v : Value} {p : Option Addr} {n c r x : Nat} {fs : List Fld} {left : List Nat} {all : ParO} (h : ParRel w wr v p n c r fs left all) (hd : ¬ doneX left) (he : errX left = x) (x0 : x ≠ 0) (hb : Below wr.heap.size wr w') :
    ParR w all (.returned (.tuple #[.slice none 0 0, .slice none 0 0, .int .i64 (x : Nat)])) w' := by
  have e := h.goes
  rw [parF_err hd he x0] at e
  subst e
  exact parR_err (h.low.trans (hb.mono h.low.size))
theorem ParRel.full {w wr w' : World} {v : Value} {p : Option Addr} {n c : Nat} {fs : List Fld} {left : List Nat} {all : ParO} (h : ParRel w wr v p n c 0 fs left all) (hd : ¬ doneX left) (he : errX left = 0) (hb : Below wr.heap.size wr w') :
    ParR w all (.returned (.tuple #[.slice none 0 0, .slice none 0 0, .int .i64 7])) w' := by
  have e := h.goes
  rw [parF_full hd he] at e
  subst e
  exact parR_err (x := 7) (h.low.trans (hb.mono h.low.size))
theorem ParRel.next {w wr wm w3 : World} {v : Value} {p : Option Addr} {n c r g cap s : Nat} {fs : List Fld} {f : Fld} {left : List Nat} {all : ParO} (h : ParRel w wr v p n c (r + 1) fs left all) (hd : ¬ doneX left) (he : errX left = 0) (hs : lenX left = s) (hf : fldX left = (f.ty, f.ds))
    (hb : Below wr.heap.size wr wm) (nw : New wr.heap.size wm f.p f.n f.c (valsN .u8 f.ds)) (o : w3.ownsRow w.heap.size 52 2 (.slice (some ⟨g, 0, none⟩) (fs.length + 1) cap) (fs.length + 1) (cellsX fs ++ [.int .u16 (f.ty : Nat), .slice f.p f.n f.c]))
    (gr : wm.grownBy w3 v.ownBlock) (mv : v.ownBlock = some g ∨ g = wm.heap.size) :
    ParRel w w3 (.slice (some ⟨g, 0, none⟩) (fs.length + 1) cap) (if c = s then p else p.map (·.add (s * 1))) (n - s) (c - s) r (fs ++ [f]) (left.drop s) all := by
  subst hs
  obtain ⟨h16, hl, hle⟩ := errX_zero he
  have lv : ∀ j, v.ownBlock = some j → w.heap.size ≤ j ∧ j < wr.heap.size := fun j hj => World.ownsRow.lt h.own j hj
  have fpos : ∀ a, f.p = some a → a.block < wm.heap.size := fun a ha => by
    have dl : f.ds.length = lenX left - 4 := by
      have e : f.ds = (left.drop 4).take (lenX left - 4) := by
        have := congrArg Prod.snd hf
        exact this.symm
      rw [e, List.length_take, List.length_drop]
      omega
    have := nw.holds.len
    rw [valsN_len] at this
    unfold longN at hl
    obtain ⟨a', e, hc⟩ := nw.holds.atN (i := 0) (by omega)
    rw [ha] at e
    cases e
    have := World.block_lt_of_cell? wm _ hc
    rwa [add_block] at this
  refine ⟨?_, ?_, ?_, ?_, ?_, byt_drop h.byt _, ?_, ?_⟩
  · rw [cellsX_snoc, List.length_append]; exact o
  · refine newsX_snoc (fun x hx => ((h.news x hx).below hb).grown gr (fun a ha => (h.apart x hx a ha).2)) ((nw.low h.low.size).grown gr (fun a ha e => ?_))
    have := nw.base a ha
    have := (lv _ e).2
    omega
  · intro x hx a ha
    have sz := gr.size
    rcases List.mem_append.1 hx with hx | hx
    · obtain ⟨x1, x2⟩ := h.apart x hx a ha
      refine ⟨Nat.lt_of_lt_of_le x1 (Nat.le_trans hb.size sz), fun e => ?_⟩
      have e' : g = a.block := by simpa [Value.ownBlock] using e
      rcases mv with mv | mv
      · exact x2 (by rw [mv, e'])
      · have := hb.size; omega
    · obtain rfl : x = f := by simpa using hx
      have lt := fpos a ha
      have bs := nw.base a ha
      refine ⟨Nat.lt_of_lt_of_le lt sz, fun e => ?_⟩
      have e' : g = a.block := by simpa [Value.ownBlock] using e
      rcases mv with mv | mv
      · have := (lv _ mv).2; omega
      · omega
  · rw [List.length_append]
    have := h.count
    simp only [List.length_cons, List.length_nil]
    omega
  · exact drop_own h.holds (by rw [← h.len]; exact hle)
  · rw [says_snoc, ← hf, ← parF_next hd he]
    exact h.goes
  · exact (h.low.trans (hb.mono h.low.size)).grown gr (Nat.le_trans h.low.size hb.size) (fun j hj => (lv j hj).1)

/-- What is asked ahead of a field, of the bytes that are left. -/
theorem errX_short {bs : List Nat} (h : bs.length < 16) : errX bs = 4 := by unfold errX; rw [if_pos h]
theorem errX_form {bs : List Nat} (h : 16 ≤ bs.length) (g : ¬ longN (lenX bs - 4)) : errX bs = 5 := by unfold errX; rw [if_neg (by omega), if_pos g]
theorem errX_more {bs : List Nat} (h : 16 ≤ bs.length) (g : longN (lenX bs - 4)) (l : bs.length < lenX bs) : errX bs = 4 := by unfold errX; rw [if_neg (by omega), if_neg (fun k => k g), if_pos l]
theorem errX_ok {bs : List Nat} (h : 16 ≤ bs.length) (g : longN (lenX bs - 4)) (l : lenX bs ≤ bs.length) : errX bs = 0 := by unfold errX; rw [if_neg (by omega), if_neg (fun k => k g), if_neg (by omega)]

def lenV : Value → Nat
  | .slice _ n _ => n
  | _ => 0
end Go.Proofs.Ytfnidehbibfclaa
/- Layer 5 (ext): the document's own Parse. -/
namespace Go.Proofs.Ytfnidehbibfclaa
open Go.ChangeShapes Go.WideShapes Go.ChangeAt Go.RowKit OctM

set_option maxRecDepth 100000 in
set_option maxHeartbeats 16000000 in
theorem rparse5_any (w : World) (p : Option Addr) (n c : Nat) (ds : List Nat) (hd : Holds w p n c (valsN .u8 ds)) (hy : Byt ds) (hn : n ≤ 100000) :
    Calls Try.prog 52 #[.slice p n c] w (ParR w (parX ds)) := by
  obtain ⟨iX, hi, hz0, hz1, hz2⟩ := info_of infoX
  have P0 := Lib.hid (ParRel.start hd hy)
  obtain ⟨all, hall⟩ : ∃ all, parX ds = all := ⟨_, rfl⟩
  rw [hall] at P0
  rw [hall]
  have HN := Lib.hid hn
  clear hd hy hall hn
  go_enter Try.func52, Try.ntmps52
  go_wp2_with fail
  go_loopw [0, 5] (fun b v wr => ∃ p n c r fs left, b = .slice p n c ∧ Hid (n ≤ 100000) ∧ Hid (ParRel w wr v p n c r fs left all)) (fun b _ _ => lenV b)
  case atStart => exact ⟨p, n, c, _, _, _, rfl, HN, P0⟩
  case round =>
    obtain ⟨p, n, c, r, fs, left, rfl, hN, h⟩ := hrel
    have ln := h.out.len
    have nb : (n : Int) ≤ 100000 := by have := hN.out; omega
    by_cases d : doneX left
    · have d' := d
      unfold doneX at d'
      rw [ln] at d'
      have RO := Lib.hid (rown_any wr p n c left (h.out.holds.below h.out.low) (by omega))
      have FIN : Hid (∀ e w', OwnPost wr n left e w' → ∃ q dd, e = .returned (.slice q n dd) ∧ ParR w all (.returned (.tuple #[u5, .slice q n dd, .int .i64 0])) w') := fun e w' ho => by
        obtain ⟨v, rfl, o, l⟩ := ho.out
        obtain ⟨q, dd, rfl, nw⟩ := own_new o
        exact ⟨q, dd, rfl, h.out.done d l nw⟩
      clear h d ln hN
      rcases d' with rfl | rfl
      · go_wp2_with fail
        refine RO.out.mono ?_; intro e w2 ho
        obtain ⟨q, dd, rfl, fin⟩ := FIN.out e w2 ho
        have F := Lib.hid fin
        clear fin ho
        go_wp2
        go_ret3
        exact F.out
      · go_wp2_with fail
        refine RO.out.mono ?_; intro e w2 ho
        obtain ⟨q, dd, rfl, fin⟩ := FIN.out e w2 ho
        have F := Lib.hid fin
        clear fin ho
        go_wp2
        go_ret3
        exact F.out
    · have d' := d
      unfold doneX at d'
      rw [ln] at d'
      have t1 : ((n : Int) != 0) = true := by simp; omega
      have t2 : ((n : Int) != 12) = true := by simp; omega
      have t1' : ((n : Int) == 0) = false := by simp; omega
      have t2' : ((n : Int) == 12) = false := by simp; omega
      have t3 : ¬ (n : Int) = 0 := by omega
      have t4 : ¬ (n : Int) = 12 := by omega
      have t5 : ¬ n = 0 := by omega
      have t6 : ¬ n = 12 := by omega
      by_cases s16 : n < 16
      · have FIN := Lib.hid (h.out.bad d (errX_short (by rw [ln]; exact s16)) (by decide) (Below.refl _ _))
        have s1 : decide ((n : Int) < 16) = true := by simp; omega
        have s2 : decide (n < 16) = true := by simp; omega
        clear h d d' ln hN s16
        go_wp2
        go_ret3
        exact FIN.out
      have s1 : decide ((n : Int) < 16) = false := by simp; omega
      have s2 : decide (n < 16) = false := by simp; omega
      have L16 : 16 ≤ left.length := by omega
      have i0 : (0 : Int) < (n : Int) := by omega
      have i0' : 0 < n := by omega
      have i1 : (1 : Int) < (n : Int) := by omega
      have i2 : (2 : Int) < (n : Int) := by omega
      have i3 : (3 : Int) < (n : Int) := by omega
      have HW := Lib.hid (fun w' (b : Below w.heap.size w w') => h.out.holds.below b)
      obtain ⟨a, rfl, -⟩ := h.out.holds.atN (i := 0) (by omega)
      obtain ⟨b0, hb0⟩ : ∃ b, b = left.getD 0 0 := ⟨_, rfl⟩
      obtain ⟨b1, hb1⟩ : ∃ b, b = left.getD 1 0 := ⟨_, rfl⟩
      obtain ⟨b2, hb2⟩ : ∃ b, b = left.getD 2 0 := ⟨_, rfl⟩
      obtain ⟨b3, hb3⟩ : ∃ b, b = left.getD 3 0 := ⟨_, rfl⟩
      have by' : ∀ i, left.getD i 0 < 256 := fun i => by
        rw [List.getD_eq_getElem?_getD]
        by_cases g : i < left.length
        · rw [List.getElem?_eq_getElem g]; exact h.out.byt _ (List.getElem_mem _)
        · rw [List.getElem?_eq_none (by omega)]; exact (by decide : 0 < 256)
      have y0 : b0 < 256 := hb0 ▸ by' 0
      have y1 : b1 < 256 := hb1 ▸ by' 1
      have y2 : b2 < 256 := hb2 ▸ by' 2
      have y3 : b3 < 256 := hb3 ▸ by' 3
      have CE := Lib.hid (fun (w' : World) (b : Below w.heap.size w w') => show w'.cell? a = some (.int .u8 (b0 : Nat)) ∧ w'.cell? ⟨a.block, a.off + 1, none⟩ = some (.int .u8 (b1 : Nat)) ∧ w'.cell? ⟨a.block, a.off + 2, none⟩ = some (.int .u8 (b2 : Nat)) ∧ w'.cell? ⟨a.block, a.off + 3, none⟩ = some (.int .u8 (b3 : Nat)) by
        refine ⟨?_, ?_, ?_, ?_⟩
        · obtain ⟨a', e, hc⟩ := (HW.out w' b).atN (i := 0) (by omega)
          cases e
          rw [hb0]
          exact hc
        · obtain ⟨a', e, hc⟩ := (HW.out w' b).atN (i := 1) (by omega)
          cases e
          rw [hb1]
          exact hc
        · obtain ⟨a', e, hc⟩ := (HW.out w' b).atN (i := 2) (by omega)
          cases e
          rw [hb2]
          exact hc
        · obtain ⟨a', e, hc⟩ := (HW.out w' b).atN (i := 3) (by omega)
          cases e
          rw [hb3]
          exact hc)
      obtain ⟨c0, c1, c2, c3⟩ := CE.out wr h.out.low
      obtain ⟨q, hq⟩ : ∃ q, q = b2 * 256 := ⟨_, rfl⟩
      obtain ⟨s, hs⟩ : ∃ s, s = q + b3 := ⟨_, rfl⟩
      obtain ⟨z, hz⟩ : ∃ z, z = (s : Int) - 4 := ⟨_, rfl⟩
      have lx : lenX left = s := by unfold lenX; rw [← hb2, ← hb3, hs, hq]
      have e1 : (b2 : Int) * 256 = (q : Int) := by omega
      have e2 : (q : Int) + (b3 : Int) = (s : Int) := by omega
      have e3 : (s : Int) - 4 = z := by omega
      have w1 : IntKind.i64.wrap (q : Int) = (q : Int) := by rw [IntKind.wrap_i64]; omega
      have w2 : IntKind.i64.wrap (s : Int) = (s : Int) := by rw [IntKind.wrap_i64]; omega
      have w3 : IntKind.i64.wrap z = z := by rw [IntKind.wrap_i64]; omega
      have w4 : IntKind.i64.wrap (b2 : Int) = (b2 : Int) := by rw [IntKind.wrap_i64]; omega
      have w5 : IntKind.i64.wrap (b3 : Int) = (b3 : Int) := by rw [IntKind.wrap_i64]; omega
      have RL := Lib.hid (fun w => rlong5_int w z (by unfold I64; omega))
      have lz : longZ z ↔ longN (lenX left - 4) := by rw [lx]; unfold longZ longN; omega
      by_cases nlo : ¬ longZ z
      · have lo := nlo
        rw [decide_eq_false lo] at RL
        have FIN := Lib.hid (fun j => h.out.bad d (errX_form L16 (fun g => lo (lz.2 g))) (by decide) (below_drewN (Below.refl _ _) j))
        clear h d d' ln hN s16 L16 by' y0 y1 y2 y3 hq hs hz lx lz lo nlo hb0 hb1 hb2 hb3
        go_wp2_with fail
        go_quiet (fail)
        go_wp2_with fail
        refine (RL.out _).mono ?_; rintro e w' ⟨rfl, rfl⟩
        go_wp2
        go_ret3
        exact FIN.out _
      have lo : longZ z := Decidable.not_not.1 nlo
      clear nlo
      rw [decide_eq_true lo] at RL
      have lN := lz.1 lo
      obtain ⟨m, rfl⟩ : ∃ m : Nat, z = (m : Int) := ⟨z.toNat, by unfold longZ at lo; omega⟩
      have e4 : (m : Int) + 4 = (s : Int) := by omega
      have w6 : IntKind.i64.wrap ((m : Int) + 4) = (s : Int) := by rw [IntKind.wrap_i64]; omega
      by_cases more : n < s
      · have FIN := Lib.hid (fun j => h.out.bad d (errX_more L16 lN (by rw [ln, lx]; exact more)) (by decide) (below_drewN (Below.refl _ _) j))
        have g1 : decide ((n : Int) < (s : Int)) = true := by simp; omega
        have g2 : decide (n < s) = true := by simp; omega
        clear h d d' ln hN s16 L16 by' y0 y1 y2 y3 hq hs hz lx lz lo hb0 hb1 hb2 hb3 lN more
        go_wp2_with fail
        go_quiet (fail)
        go_wp2_with fail
        refine (RL.out _).mono ?_; rintro e w' ⟨rfl, rfl⟩
        go_wp2
        go_ret3
        exact FIN.out _
      have g1 : decide ((n : Int) < (s : Int)) = false := by simp; omega
      have g2 : decide (n < s) = false := by simp; omega
      have eX := errX_ok L16 lN (by rw [ln, lx]; omega)
      obtain ⟨p', c', rfl⟩ := h.out.slice
      obtain ⟨k, hk⟩ : ∃ k, k = fs.length := ⟨_, rfl⟩
      rcases r with _ | r
      · have FIN := Lib.hid (fun j => h.out.full d eX (below_drewN (Below.refl _ _) j))
        have k8 : fs.length = 8 := by have := h.out.count; omega
        rw [k8]
        clear h d d' ln hN s16 L16 by' y0 y1 y2 y3 hq hs hz lx lz lo hb0 hb1 hb2 hb3 lN more eX hk k8
        go_wp2_with fail
        go_quiet (fail)
        go_wp2_with fail
        refine (RL.out _).mono ?_; rintro e w' ⟨rfl, rfl⟩
        go_wp2
        go_ret3
        exact FIN.out _
      have k7 : fs.length < 8 := by have := h.out.count; omega
      obtain ⟨t, ht⟩ : ∃ t, t = tyX left := ⟨_, rfl⟩
      obtain ⟨q0, hq0⟩ : ∃ q, q = b0 * 256 := ⟨_, rfl⟩
      have te : t = q0 + b1 := by rw [ht]; unfold tyX; rw [← hb0, ← hb1, hq0]
      obtain ⟨D, hD⟩ : ∃ D, D = (left.drop 4).take (s - 4) := ⟨_, rfl⟩
      have fx : fldX left = (t, D) := by unfold fldX; rw [lx, ← hD, ← ht]
      have sm : s - 4 = m := by omega
      have cn := h.out.holds.cap
      have c4 : ¬ c = 4 := by omega
      have c4' : (c = 4) = False := eq_false c4
      have sc : (s : Int) ≤ (c : Int) := by omega
      have s4 : (4 : Int) ≤ (s : Int) := by omega
      have u1 : (b0 : Int) * 256 = (q0 : Int) := by omega
      have u2 : (q0 : Int) + (b1 : Int) = (t : Int) := by omega
      have v1 : IntKind.u16.wrap (q0 : Int) = (q0 : Int) := by rw [IntKind.wrap_u16]; omega
      have v2 : IntKind.u16.wrap (t : Int) = (t : Int) := by rw [IntKind.wrap_u16]; omega
      have v3 : IntKind.u16.wrap (b0 : Int) = (b0 : Int) := by rw [IntKind.wrap_u16]; omega
      have v4 : IntKind.u16.wrap (b1 : Int) = (b1 : Int) := by rw [IntKind.wrap_u16]; omega
      have k1 : decide (8 ≤ (fs.length : Int)) = false := by simp; omega
      have k2 : decide (8 ≤ fs.length) = false := by simp; omega
      have k3 : (fs.length : Int) < 8 := by omega
      have PC := Lib.hid (fun w' (b : Below w.heap.size w w') => show Holds w' (some ⟨a.block, a.off + 4, none⟩) m (c - 4) (valsN .u8 D) by
        have h := (HW.out w' b).piece 4 s (by omega) (by omega)
        rw [if_neg c4, sm] at h
        unfold valsN at h ⊢
        rw [hD, sm, List.map_take, List.map_drop]
        exact h)
      have RO := Lib.hid (fun w' (b : Below w.heap.size w w') => rown_any w' _ m (c - 4) D (PC.out w' b) (by omega))
      have BM : Hid (fs.length + 1 ≤ maxLen) := by unfold Hid maxLen; omega
      have BY : Hid ((fs.length + 1) * 32 ≤ 140737488355328) := by unfold Hid; omega
      obtain ⟨pq, hpq⟩ : ∃ pq : Option Addr, (if c = s then some a else some (a.add s)) = pq := ⟨_, rfl⟩
      have NXT := Lib.hid (fun (wm w3 : World) (g cap : Nat) (p1 : Option Addr) (c1 : Nat) b nw o gr mv => show ∃ r fs' left', Hid (ParRel w w3 (.slice (some ⟨g, 0, none⟩) (fs.length + 1) cap) pq (n - s) (c - s) r fs' left' all) by
        have x := h.out.next (wm := wm) (w3 := w3) (g := g) (cap := cap) (s := s) (f := ⟨t, p1, m, c1, D⟩) d eX lx fx b nw o gr mv
        rw [Nat.mul_one, Option.map_some, hpq] at x
        exact ⟨_, _, _, x⟩)
      have LM : Hid (n - s < n) := by unfold Hid; omega
      have LM' : Hid (n - s ≤ 100000) := by unfold Hid; omega
      have OW := Lib.hid h.out.own
      have LOW := Lib.hid h.out.low
      have sn : (s : Int) ≤ (n : Int) := by omega
      have cN : (n : Int) ≤ (c : Int) := by omega
      have LN : (lenV (.slice (some a) n c)) = n := rfl
      clear h d d' ln s16 L16 by' y0 y1 y2 y3 hq hs hz lx lz lo hb0 hb1 hb2 hb3 lN more eX k7 ht hq0 te hD fx cn hk
      go_wp2_with fail
      go_quiet (fail)
      go_wp2_with fail
      refine (RL.out _).mono ?_; rintro e w' ⟨rfl, rfl⟩
      go_wp2_with fail
      have HR0 : Below wr.heap.size wr (wr.drewN nq).drew := (below_drewN (Below.refl _ _) nq).drew
      have HB0 : Below w.heap.size w (wr.drewN nq).drew := LOW.out.trans (HR0.mono LOW.out.size)
      have SK := Lib.hid (fun w' (b : Below w.heap.size w w') => show w'.cell? a = some (.int .u8 (b0 : Nat)) ∧ w'.cell? ⟨a.block, a.off + 1, none⟩ = some (.int .u8 (b1 : Nat)) from ⟨(CE.out w' b).1, (CE.out w' b).2.1⟩)
      have ONE : Hid (∀ p1 c1, ∀ u ∈ ([.int .u16 (t : Nat), .slice p1 m c1] : List Value), u.oneCell' = true) := by
        intro p1 c1 u hu
        simp only [List.mem_cons, List.not_mem_nil, or_false] at hu
        rcases hu with rfl | rfl <;> rfl
      clear c0 c1 c2 c3
      go_region_held3 (fun w' => w'.cell? a = some (.int .u8 (b0 : Nat)) ∧ w'.cell? ⟨a.block, a.off + 1, none⟩ = some (.int .u8 (b1 : Nat)))
        (first | exact SK.out _ HB0 | exact SK.out _ (HB0.alloc HB0.size _))
        (first
          | (go_at_call 22; refine (RO.out _ HB0).mono ?_; intro e w1 ho; obtain ⟨v1, rfl, o1, l1⟩ := ho.out; obtain ⟨p1, c1', rfl, n1⟩ := own_new o1; have n2 := n1.low HR0.size; have HR0 := HR0.trans (l1.mono HR0.size); have HB0 := LOW.out.trans (HR0.mono LOW.out.size); clear ho o1 n1 l1)
          | (refine step_append_lies _ (by rfl) _ _ _ (by rfl) w.heap.size 52 iX (.agg #[.int .u16 0, .slice none 0 0]) 2 32 Try.underlying25 hi hz0 hz1 hz2 rfl (by omega) (.slice p' fs.length c') fs.length (cellsX fs) (by rfl) (own_keep OW.out (HR0.alloc HR0.size _)) ⟨w1.heap.size, 0, none⟩ 1 1 [.int .u16 (t : Nat), .slice p1 m c1'] (by rfl) (by rfl) (World.news_of_block (heap_alloc_new w1 _)) (ONE.out _ _) (by omega) BM.out BY.out ((HB0.alloc HB0.size _).size) _ rfl ?_; intro gg cap w3 o3 g3 m3 lt3; have HB0 := (HB0.alloc HB0.size _).grown g3 ((HB0.alloc HB0.size _).size) (fun j hj => (World.ownsRow.lt OW.out j hj).1)))
      obtain ⟨r3, fs3, left3, N3⟩ := NXT.out _ w3 gg cap p1 c1' (HR0.alloc HR0.size _) (n2.below ((Below.refl _ _).alloc (Nat.le_refl _) _)) o3 g3 m3
      clear o3 g3 m3 lt3 n2
      go_wp2
      go_roundw
      case rel => exact ⟨pq, n - s, c - s, r3, fs3, left3, by go_num, LM', N3⟩
      case measure => exact LM.out
end Go.Proofs.Ytfnidehbibfclaa
/- Layer 5 (ext), the program's: how many bytes a field has; the field that has these. -/
namespace Go.Proofs.Ytfnidehbibfclaa
open Go.ChangeShapes Go.WideShapes Go.ChangeAt Go.RowKit OctM

theorem numN_two {ds : List Nat} {i : Nat} (h : i + 2 ≤ ds.length) : numN ((ds.drop i).take 2) = ds.getD i 0 * 256 + ds.getD (i + 1) 0 := by
  have e : (ds.drop i).take 2 = [ds.getD i 0, ds.getD (i + 1) 0] := by
    apply List.ext_getElem?
    intro j
    rw [List.getElem?_take]
    rcases j with _ | _ | j
    · rw [if_pos (by omega), List.getElem?_drop, Nat.add_zero, List.getD_eq_getElem?_getD, List.getElem?_eq_getElem (by omega)]
      rfl
    · rw [if_pos (by omega), List.getElem?_drop, List.getD_eq_getElem?_getD, List.getD_eq_getElem?_getD]
      show ds[i + 1]? = some ((ds[i + 1]?).getD 0)
      rw [List.getElem?_eq_getElem (by omega)]
      rfl
    · rw [if_neg (by omega)]
      rfl
  rw [e]
  show (0 * 256 + ds.getD i 0) * 256 + ds.getD (i + 1) 0 = _
  omega
theorem at_two {ds : List Nat} {i : Nat} (h : i + 2 ≤ ds.length) : atV ds (i : Int) 2 = ds.getD i 0 * 256 + ds.getD (i + 1) 0 := by
  unfold atV
  rw [if_pos (by unfold inP okS; omega)]
  exact numN_two h

theorem getD_lt {ds : List Nat} (hy : Byt ds) (i : Nat) : ds.getD i 0 < 256 := by
  rw [List.getD_eq_getElem?_getD]
  by_cases g : i < ds.length
  · rw [List.getElem?_eq_getElem g]; exact hy _ (List.getElem_mem _)
  · rw [List.getElem?_eq_none (by omega)]; exact (by decide : 0 < 256)

/-- What is measured: the field's bytes, or 0 and an error. -/
def meaV (bs : List Nat) : Nat := if errX bs = 0 then lenX bs else 0

theorem pmeasure_any (w : World) (p : Option Addr) (n c : Nat) (ds : List Nat) (hd : Holds w p n c (valsN .u8 ds)) (hy : Byt ds) (hn : n ≤ 10000) :
    Calls Try.prog 78 #[.slice p n c] w (TellPost w (.returned (.tuple #[.int .i64 (meaV ds : Nat), .int .i64 (errX ds : Nat)]))) := by
  have ln : ds.length = n := by have := hd.len; rwa [valsN_len] at this
  by_cases s16 : n < 16
  · have e := errX_short (bs := ds) (by omega)
    have FIN : Hid (TellPost w (.returned (.tuple #[.int .i64 (meaV ds : Nat), .int .i64 (errX ds : Nat)])) (.returned (.tuple #[.int .i64 0, .int .i64 4])) w) := by
      unfold meaV
      rw [e, if_neg (by decide)]
      exact ⟨rfl, Below.refl _ _⟩
    have s1 : decide ((n : Int) < 16) = true := by simp; omega
    have s2 : decide (n < 16) = true := by simp; omega
    clear hd hy hn ln s16 e
    go_enter Try.func78, Try.ntmps78
    go_wp2
    go_ret2
    exact FIN.out
  have s1 : decide ((n : Int) < 16) = false := by simp; omega
  have s2 : decide (n < 16) = false := by simp; omega
  have L16 : 16 ≤ ds.length := by omega
  obtain ⟨s, hs⟩ : ∃ s, s = lenX ds := ⟨_, rfl⟩
  have PA := pat_any w p n c ds 2 2 hd hy (by unfold I64; omega) hn
  have ev : atV ds (2 : Int) 2 = s := by
    have := at_two (ds := ds) (i := 2) (by omega)
    rw [hs]
    exact this
  rw [ev] at PA
  have y2 := getD_lt hy 2
  have y3 := getD_lt hy 3
  have sb : s < 65536 := by rw [hs]; unfold lenX; omega
  replace PA := Lib.hid PA
  obtain ⟨z, hz⟩ : ∃ z, z = (s : Int) - 4 := ⟨_, rfl⟩
  have e3 : (s : Int) - 4 = z := by omega
  have w1 : IntKind.i64.wrap (s : Int) = (s : Int) := by rw [IntKind.wrap_i64]; omega
  have w2 : IntKind.i64.wrap z = z := by rw [IntKind.wrap_i64]; omega
  have PD := Lib.hid (fun w => pdata_any w z (by unfold I64; omega))
  have lz : longZ z ↔ longN (lenX ds - 4) := by rw [← hs]; unfold longZ longN; omega
  have s64 : (s : Int) < 65536 := by omega
  by_cases nlo : ¬ longZ z
  · rw [decide_eq_false nlo] at PD
    have e := errX_form (bs := ds) L16 (fun g => nlo (lz.2 g))
    have FIN : Hid (∀ w', Below w.heap.size w w' → TellPost w (.returned (.tuple #[.int .i64 (meaV ds : Nat), .int .i64 (errX ds : Nat)])) (.returned (.tuple #[.int .i64 0, .int .i64 5])) w') := fun w' b => by
      unfold meaV
      rw [e, if_neg (by decide)]
      exact ⟨rfl, b⟩
    clear hd hy ln s16 e L16 hs ev y2 y3 sb hz lz nlo
    go_enter Try.func78, Try.ntmps78
    go_wp2_with fail
    refine PA.out.mono ?_; rintro e w' ⟨rfl, low⟩
    have F := Lib.hid (FIN.out w' low)
    clear low
    go_wp2_with fail
    refine (PD.out _).mono ?_; rintro e w' ⟨rfl, rfl⟩
    go_wp2
    go_ret2
    exact F.out
  have lo : longZ z := Decidable.not_not.1 nlo
  rw [decide_eq_true lo] at PD
  by_cases more : n < s
  · have e := errX_more L16 (lz.1 lo) (by omega)
    have FIN : Hid (∀ w', Below w.heap.size w w' → TellPost w (.returned (.tuple #[.int .i64 (meaV ds : Nat), .int .i64 (errX ds : Nat)])) (.returned (.tuple #[.int .i64 0, .int .i64 4])) w') := fun w' b => by
      unfold meaV
      rw [e, if_neg (by decide)]
      exact ⟨rfl, b⟩
    have g1 : decide ((n : Int) < (s : Int)) = true := by simp; omega
    have g2 : decide (n < s) = true := by simp; omega
    clear hd hy ln s16 e L16 hs ev y2 y3 sb hz lz nlo lo more
    go_enter Try.func78, Try.ntmps78
    go_wp2_with fail
    refine PA.out.mono ?_; rintro e w' ⟨rfl, low⟩
    have F := Lib.hid (FIN.out w' low)
    clear low
    go_wp2_with fail
    refine (PD.out _).mono ?_; rintro e w' ⟨rfl, rfl⟩
    go_wp2
    go_ret2
    exact F.out
  · have e := errX_ok L16 (lz.1 lo) (by omega)
    have FIN : Hid (∀ w', Below w.heap.size w w' → TellPost w (.returned (.tuple #[.int .i64 (meaV ds : Nat), .int .i64 (errX ds : Nat)])) (.returned (.tuple #[.int .i64 (s : Nat), .int .i64 0])) w') := fun w' b => by
      unfold meaV
      rw [if_pos e, e, ← hs]
      exact ⟨rfl, b⟩
    have g1 : decide ((n : Int) < (s : Int)) = false := by simp; omega
    have g2 : decide (n < s) = false := by simp; omega
    clear hd hy ln s16 e L16 hs ev y2 y3 sb hz lz nlo lo more
    go_enter Try.func78, Try.ntmps78
    go_wp2_with fail
    refine PA.out.mono ?_; rintro e w' ⟨rfl, low⟩
    have F := Lib.hid (FIN.out w' low)
    clear low
    go_wp2_with fail
    refine (PD.out _).mono ?_; rintro e w' ⟨rfl, rfl⟩
    go_wp2
    go_ret2
    exact F.out

theorem New.setCell {B : Nat} {w : World} {p : Option Addr} {n c : Nat} {vs : List Value} (h : New B w p n c vs) {a : Addr} (hb : a.block < B) (v : Value) : New B (w.setCell a v) p n c vs := by
  have ne : ∀ b, p = some b → ∀ i, a ≠ b.add i := fun b hp i e => by
    have := h.base b hp
    rw [e, add_block] at hb
    omega
  refine ⟨⟨h.holds.len, h.holds.cap, h.holds.max, h.holds.bare, fun i u hu => ?_⟩, h.base, fun b hp i hi => ?_⟩
  · obtain ⟨b, hp, hc⟩ := h.holds.cell i u hu
    exact ⟨b, hp, by rw [World.cell?_setCell_other _ _ _ _ (ne b hp i)]; exact hc⟩
  · rw [World.frozen?_setCell]
    exact h.free b hp i hi

/-- A field is told: its type and its bytes in new memory. -/
def FldR (w : World) (t : Nat) (D : List Nat) (m : Nat) (e : Ending) (w' : World) : Prop :=
  ∃ q d, e = .returned (.agg #[.int .u16 (t : Nat), .slice q m d]) ∧ New w.heap.size w' q m d (valsN .u8 D) ∧ Below w.heap.size w w'

theorem pread5_any (w : World) (p : Option Addr) (n c m : Nat) (ds : List Nat) (hd : Holds w p n c (valsN .u8 ds)) (hy : Byt ds) (hn : n ≤ 10000) (hm : n = m + 4) :
    Calls Try.prog 79 #[.slice p n c] w (FldR w (tyX ds) (ds.drop 4) m) := by
  have ln : ds.length = n := by have := hd.len; rwa [valsN_len] at this
  obtain ⟨a, rfl, -⟩ := hd.atN (i := 0) (by omega)
  have cn := hd.cap
  obtain ⟨t, ht⟩ : ∃ t, t = tyX ds := ⟨_, rfl⟩
  have B0 : Below w.heap.size w (w.alloc (.cells #[.int .u16 0, .slice none 0 0] 52)) := (Below.refl _ _).alloc (Nat.le_refl _) _
  have PA := fun w' (b : Below w.heap.size w w') => pat_any w' (some a) n c ds 0 2 (hd.below b) hy (by unfold I64; omega) hn
  have ev : atV ds (0 : Int) 2 = t := by
    have := at_two (ds := ds) (i := 0) (by omega)
    rw [ht]
    exact this
  simp only [ev] at PA
  have y0 := getD_lt hy 0
  have y1 := getD_lt hy 1
  have tb : t < 65536 := by rw [ht]; unfold tyX; omega
  replace PA := Lib.hid PA
  have w1 : IntKind.u16.wrap (t : Int) = (t : Int) := by rw [IntKind.wrap_u16]; omega
  have t16 : (t : Int) < 65536 := by omega
  rw [← ht]
  obtain ⟨pq, hpq⟩ : ∃ pq : Option Addr, (if c = 4 then some a else some ⟨a.block, a.off + 4, none⟩) = pq := ⟨_, rfl⟩
  have PC := Lib.hid (fun w' (b : Below w.heap.size w w') => show Calls Try.prog 25 #[.slice pq m (c - 4)] w' _ from pclone_any w' pq m (c - 4) (ds.drop 4) (by
    have h := (hd.below b).piece 4 n (by omega) (by omega)
    have e : (some a : Option Addr).map (·.add (4 * 1)) = some ⟨a.block, a.off + 4, none⟩ := rfl
    rw [e, hpq, show n - 4 = m by omega] at h
    unfold valsN at h ⊢
    rw [List.take_of_length_le (by rw [List.length_drop, List.length_map]; omega)] at h
    rw [List.map_drop]
    exact h) (by omega))
  have BB := Lib.hid B0
  have HE : (w.alloc (.cells #[.int .u16 0, .slice none 0 0] 52)).heap[w.heap.size]? = some (.cells #[.int .u16 0, .slice none 0 0] 52 (0, 0)) := heap_alloc_new w _
  replace HE := Lib.hid HE
  have nm : (n : Int) - 4 = (m : Int) := by omega
  have nn : (4 : Int) ≤ (n : Int) := by omega
  have nc : (n : Int) ≤ (c : Int) := by omega
  have nm' : n - 4 = m := by omega
  clear hd hy hn hm ln cn ht B0 ev y0 y1 tb
  go_enter Try.func79, Try.ntmps79
  go_wp2_with fail
  refine (PA.out _ BB.out).mono ?_; rintro e w1 ⟨rfl, l1⟩
  have L1 := Lib.hid (BB.out.trans (l1.mono BB.out.size))
  have HE1 := Lib.hid ((l1.block _ (Array.getElem?_eq_some_iff.1 HE.out).1).trans HE.out)
  clear l1
  go_wp2_with fail
  refine (PC.out _ L1.out).mono ?_; rintro e w2 ⟨q, d, rfl, nw, l2⟩
  have HE2 := (l2.block _ (Array.getElem?_eq_some_iff.1 HE1.out).1).trans HE1.out
  have f0 := blk_free (o := 0) HE2
  have f1 := blk_free (o := 1) HE2
  have k0 := blk_cell (o := 0) HE2
  have k1 := blk_cell (o := 1) HE2
  have lt : w.heap.size < w1.heap.size := (Array.getElem?_eq_some_iff.1 HE1.out).1
  have S1 := blk_set (o := 0) (u := .int .u16 (t : Nat)) HE2
  have S2 := blk_set (o := 1) (u := .slice q m d) S1
  have NW := Lib.hid (((nw.setCell (a := ⟨w.heap.size, 0, none⟩) lt (.int .u16 (t : Nat))).setCell (a := ⟨w.heap.size, 1, none⟩) lt (.slice q m d)).low L1.out.size)
  have LW := Lib.hid (((L1.out.trans (l2.mono L1.out.size)).setCell (p := ⟨w.heap.size, 0, none⟩) (Nat.le_refl _) (.int .u16 (t : Nat))).setCell (p := ⟨w.heap.size, 1, none⟩) (Nat.le_refl _) (.slice q m d))
  replace S2 := Lib.hid S2
  clear nw l2 lt S1 HE2
  go_wp2
  (try simp only [Exit.inBlock, Exit.then])
  refine bodyPost_ret (results_cell_row rfl _ _ w.heap.size _ _ (0, 0) _ rfl S2.out Try.underlying52 rfl (by kernel_rfl)) rfl ?_
  exact ⟨q, d, rfl, NW.out, LW.out⟩
end Go.Proofs.Ytfnidehbibfclaa
/- Layer 5 (ext), the program's Parse. -/
namespace Go.Proofs.Ytfnidehbibfclaa
open Go.ChangeShapes Go.WideShapes Go.ChangeAt Go.RowKit OctM

theorem jump_mono {l : Nat} {J J' : Act → World → Prop} {Q : Exit → Act → World → Prop} (h : ∀ a w, J a w → J' a w) : ∀ e a w, Exit.jump l J Q e a w → Exit.jump l J' Q e a w := fun e a w g => by
  cases e with
  | goto l' => exact ⟨g.1, h _ _ g.2⟩
  | _ => exact g
/-- A scope that jumps back to one label: the way ahead of the label may use what holds behind it. -/
theorem wp_scope_back {P : Program} {a : Act} {w : World} {Q : Exit → Act → World → Prop} {c rest : Code} (l : Nat) (J : Act → World → Prop) (μ : Act → World → Nat) (hf : findLabel c l = some (Code.skip.seq rest))
    (pass : ∀ a w, J a w → rest.wp P (Exit.jump l (fun a' w' => J a' w' ∧ μ a' w' < μ a w) Q) a w)
    (first : (∀ a w, J a w → rest.wp P (Exit.jump l J Q) a w) → c.wp P (Exit.jump l J Q) a w) : (Code.scope c).wp P Q a w :=
  wp_scope_jumps l J μ hf (first fun a w hJ => Code.wp_mono (jump_mono fun _ _ h => h.1) (pass a w hJ)) fun a w hJ => wp_seq (wp_skip (pass a w hJ))

set_option maxRecDepth 100000 in
set_option maxHeartbeats 16000000 in
theorem pparse5_any (w : World) (p : Option Addr) (n c : Nat) (ds : List Nat) (hd : Holds w p n c (valsN .u8 ds)) (hy : Byt ds) (hn : n ≤ 10000) :
    Calls Try.prog 48 #[.slice p n c] w (ParR w (parX ds)) := by
  obtain ⟨iX, hi, hz0, hz1, hz2⟩ := info_of infoX
  have P0 := Lib.hid (ParRel.start hd hy)
  obtain ⟨all, hall⟩ : ∃ all, parX ds = all := ⟨_, rfl⟩
  rw [hall] at P0
  rw [hall]
  have HN := Lib.hid hn
  clear hd hy hall hn
  go_enter Try.func48, Try.ntmps48
  go_wp2
  refine wp_scope_back 0 (fun a' wr => ∃ (u1 v5 v6 u7 u8 u9 u10 u11 u12 u13 u14 u15 u16 u17 u18 u19 u20 u21 u22 u23 u24 u25 u26 u27 u28 u29 u30 u31 u32 u33 u34 u35 u36 u37 u38 u39 u40 u41 : Value) (p' : Option Addr) (n' c' r : Nat) (fs : List Fld) (left : List Nat), a' = { tmps := #[.slice p n c, u1, .slice none 0 0, .slice none 0 0, .int .i64 0, v5, v6, u7, u8, u9, u10, u11, u12, u13, u14, u15, u16, u17, u18, u19, u20, u21, u22, u23, u24, u25, u26, u27, u28, u29, u30, u31, u32, u33, u34, u35, u36, u37, u38, u39, u40, u41], defers := [] } ∧ v6 = .slice p' n' c' ∧ Hid (n' ≤ 10000) ∧ Hid (ParRel w wr v5 p' n' c' r fs left all)) (fun a' _ => lenV (a'.tmps.getD 6 undef)) rfl ?_ ?_
  case refine_2 =>
    intro REST
    replace REST := Lib.hid REST
    go_wp2
    go_step3
    rename_i K hK
    exact hK _ _ (REST.out _ _ ⟨_, _, _, _, _, _, _, _, _, _, _, _, _, _, _, _, _, _, _, _, _, _, _, _, _, _, _, _, _, _, _, _, _, _, _, _, _, _, p, n, c, 8, [], _, rfl, rfl, HN, P0⟩)
  rintro a' wr ⟨u1, v5, v6, u7, u8, u9, u10, u11, u12, u13, u14, u15, u16, u17, u18, u19, u20, u21, u22, u23, u24, u25, u26, u27, u28, u29, u30, u31, u32, u33, u34, u35, u36, u37, u38, u39, u40, u41, p', n', c', r, fs, left, rfl, rfl, hN, h⟩
  have ln := h.out.len
  have nb : (n' : Int) ≤ 10000 := by have := hN.out; omega
  by_cases d : doneX left
  · have d' := d
    unfold doneX at d'
    rw [ln] at d'
    have RO := Lib.hid (pclone_any wr p' n' c' left (h.out.holds.below h.out.low) (by omega))
    have FIN : Hid (∀ q dd w', New wr.heap.size w' q n' dd (valsN .u8 left) → Below wr.heap.size wr w' → ParR w all (.returned (.tuple #[v5, .slice q n' dd, .int .i64 0])) w') := fun q dd w' nw l => h.out.done d l nw
    clear h d ln hN
    rcases d' with rfl | rfl
    · go_wp2_with fail
      refine RO.out.mono ?_; rintro e w2 ⟨q, dd, rfl, nw, l⟩
      have F := Lib.hid (FIN.out _ _ _ nw l)
      clear nw l
      go_wp2
      (try simp only [Exit.jump])
      go_ret3
      exact F.out
    · go_wp2_with fail
      refine RO.out.mono ?_; rintro e w2 ⟨q, dd, rfl, nw, l⟩
      have F := Lib.hid (FIN.out _ _ _ nw l)
      clear nw l
      go_wp2
      (try simp only [Exit.jump])
      go_ret3
      exact F.out
  have d' := d
  unfold doneX at d'
  rw [ln] at d'
  have t1 : ((n' : Int) != 0) = true := by simp; omega
  have t2 : ((n' : Int) != 12) = true := by simp; omega
  have t1' : ((n' : Int) == 0) = false := by simp; omega
  have t2' : ((n' : Int) == 12) = false := by simp; omega
  have t3 : ¬ (n' : Int) = 0 := by omega
  have t4 : ¬ (n' : Int) = 12 := by omega
  have t5 : ¬ n' = 0 := by omega
  have t6 : ¬ n' = 12 := by omega
  have PM := pmeasure_any wr p' n' c' left (h.out.holds.below h.out.low) h.out.byt hN.out
  by_cases ne0 : ¬ errX left = 0
  · have e0 := ne0
    obtain ⟨x, hx⟩ : ∃ x, errX left = x := ⟨_, rfl⟩
    rw [hx] at PM e0
    have e1 : ((x : Int) != 0) = true := by simp; omega
    have e2 : ((x : Int) == 0) = false := by simp; omega
    have e3 : ¬ (x : Int) = 0 := by omega
    have e4 : ¬ x = 0 := e0
    have FIN := Lib.hid (fun w' => h.out.bad (w' := w') d hx e0)
    generalize meaV left = mv at *
    replace PM := Lib.hid PM
    clear h d d' ln hN hx e0 ne0
    go_wp2_with fail
    refine PM.out.mono ?_; rintro e w2 ⟨rfl, l⟩
    have F := Lib.hid (FIN.out _ l)
    clear l
    go_wp2
    (try simp only [Exit.jump])
    go_ret3
    exact F.out
  have e0 : errX left = 0 := Decidable.not_not.1 ne0
  clear ne0
  obtain ⟨s, hs⟩ : ∃ s, lenX left = s := ⟨_, rfl⟩
  unfold meaV at PM
  rw [if_pos e0, e0, hs] at PM
  replace PM := Lib.hid PM
  obtain ⟨L16, lN, hle⟩ := errX_zero e0
  rw [hs] at lN hle
  obtain ⟨p5, c5, rfl⟩ := h.out.slice
  rcases r with _ | r
  · have FIN := Lib.hid (fun w' => h.out.full (w' := w') d e0)
    have k8 : fs.length = 8 := by have := h.out.count; omega
    rw [k8]
    clear h d d' ln hN e0 hs L16 lN hle k8
    go_wp2_with fail
    refine PM.out.mono ?_; rintro e w2 ⟨rfl, l⟩
    have F := Lib.hid (FIN.out _ l)
    clear l
    go_wp2
    (try simp only [Exit.jump])
    go_ret3
    exact F.out
  have k7 : fs.length < 8 := by have := h.out.count; omega
  have lN' := lN
  unfold longN at lN'
  obtain ⟨m, hm⟩ : ∃ m, s = m + 4 := ⟨s - 4, by omega⟩
  obtain ⟨a, rfl, -⟩ := h.out.holds.atN (i := 0) (by omega)
  have cn := h.out.holds.cap
  obtain ⟨t, ht⟩ : ∃ t, t = tyX left := ⟨_, rfl⟩
  obtain ⟨D, hD⟩ : ∃ D, D = (left.drop 4).take m := ⟨_, rfl⟩
  have fx : fldX left = (t, D) := by unfold fldX; rw [hs, ht, hD, hm, Nat.add_sub_cancel]
  have RD := Lib.hid (fun w' (b : Below w.heap.size w w') => show Calls Try.prog 79 #[.slice (some a) s c'] w' (FldR w' t D m) by
    have h := pread5_any w' (some a) s c' m (left.take s) (holdsN_take (h.out.holds.below b) (by omega)) (byt_take h.out.byt _) (by omega) hm
    have et : tyX (left.take s) = t := by
      obtain ⟨b0, b1, b2, b3, q, rfl⟩ := four_of (bs := left) (by omega)
      rw [ht, hm]
      rfl
    have ed : (left.take s).drop 4 = D := by rw [hD, hm, List.drop_take, Nat.add_sub_cancel]
    rwa [et, ed] at h)
  have sc : (s : Int) ≤ (c' : Int) := by omega
  have sn : (s : Int) ≤ (n' : Int) := by omega
  have s0 : (0 : Int) ≤ (s : Int) := by omega
  have cN : (n' : Int) ≤ (c' : Int) := by omega
  have k1 : ((fs.length : Int) == 8) = false := by simp; omega
  have k1' : ((fs.length : Int) != 8) = true := by simp; omega
  have k2 : ¬ (fs.length : Int) = 8 := by omega
  have k3 : ¬ fs.length = 8 := by omega
  have BM : Hid (fs.length + 1 ≤ maxLen) := by unfold Hid maxLen; omega
  have BY : Hid ((fs.length + 1) * 32 ≤ 140737488355328) := by unfold Hid; omega
  obtain ⟨pq, hpq⟩ : ∃ pq : Option Addr, (if c' = s then some a else some (a.add s)) = pq := ⟨_, rfl⟩
  have NXT := Lib.hid (fun (wm w3 : World) (g cap : Nat) (p1 : Option Addr) (c1 : Nat) b nw o gr mv => show ∃ r fs' left', Hid (ParRel w w3 (.slice (some ⟨g, 0, none⟩) (fs.length + 1) cap) pq (n' - s) (c' - s) r fs' left' all) by
    have x := h.out.next (wm := wm) (w3 := w3) (g := g) (cap := cap) (s := s) (f := ⟨t, p1, m, c1, D⟩) d e0 hs fx b nw o gr mv
    rw [Nat.mul_one, Option.map_some, hpq] at x
    exact ⟨_, _, _, x⟩)
  have LM : Hid (n' - s < n') := by unfold Hid; omega
  have LM' : Hid (n' - s ≤ 10000) := by unfold Hid; have := hN.out; omega
  have OW := Lib.hid h.out.own
  have LOW := Lib.hid h.out.low
  have ONE : Hid (∀ p1 c1, ∀ u ∈ ([.int .u16 (t : Nat), .slice p1 m c1] : List Value), u.oneCell' = true) := by
    intro p1 c1 u hu
    simp only [List.mem_cons, List.not_mem_nil, or_false] at hu
    rcases hu with rfl | rfl <;> rfl
  clear h d d' ln hN e0 hs L16 lN hle k7 lN' hm cn ht hD fx
  go_wp2_with fail
  refine PM.out.mono ?_; rintro e w2 ⟨rfl, l⟩
  have HR2 := Lib.hid l
  have HB2 : Hid (Below w.heap.size w w2) := LOW.out.trans (l.mono LOW.out.size)
  clear l
  go_wp2_with fail
  refine (RD.out _ HB2.out).mono ?_; rintro e w3 ⟨p1, c1, rfl, nw, l⟩
  have HR3 := Lib.hid (HR2.out.trans (l.mono HR2.out.size))
  have HB3 : Hid (Below w.heap.size w w3) := LOW.out.trans (HR3.out.mono LOW.out.size)
  have NW := Lib.hid (nw.low HR2.out.size)
  clear l nw
  go_wp2_with (at_builtin; (refine wpList_append_lies _ rfl _ _ _ rfl w.heap.size 52 iX (.agg #[.int .u16 0, .slice none 0 0]) 2 32 Try.underlying25 hi hz0 hz1 hz2 rfl (by omega) (.slice p5 fs.length c5) fs.length (cellsX fs) rfl (own_keep OW.out (HR3.out.alloc HR3.out.size _)) ⟨w3.heap.size, 0, none⟩ 1 1 [.int .u16 (t : Nat), .slice p1 m c1] rfl rfl (World.news_of_block (heap_alloc_new w3 _)) (ONE.out _ _) (by omega) BM.out BY.out ((HB3.out.alloc HB3.out.size _).size) _ rfl ?_))
  intro gg cap w4 o4 g4 m4 lt4
  obtain ⟨r4, fs4, left4, N4⟩ := NXT.out _ w4 gg cap p1 c1 (HR3.out.alloc HR3.out.size _) (NW.out.below ((Below.refl _ _).alloc (Nat.le_refl _) _)) o4 g4 (by rw [World.size_alloc]; exact m4)
  clear o4 g4 m4 lt4
  go_wp2
  go_step3
  refine ⟨rfl, ⟨_, _, _, _, _, _, _, _, _, _, _, _, _, _, _, _, _, _, _, _, _, _, _, _, _, _, _, _, _, _, _, _, _, _, _, _, _, _, pq, n' - s, c' - s, r4, fs4, left4, rfl, by go_num, LM', N4⟩, ?_⟩
  exact LM.out
end Go.Proofs.Ytfnidehbibfclaa
