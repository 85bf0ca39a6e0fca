/- Layer 5 (ext): while fields are read: one more. -/
import Derived.Test.YteclcefeipjoeaaExtH
import Derived.Test.YteclcefeipjoeaaOctT
namespace Go.Proofs.Yteclcefeipjoeaa
open Go.ChangeShapes Go.WideShapes Go.ChangeAt Go.RowKit OctM

theorem infoX : (Try.prog.info? 44).map (fun i => (i.zero, i.size, i.bytes)) = some (some (.agg #[.int .u16 0, .slice none 0 0]), 2, 32) := by kernel_rfl

theorem New.grown {B : Nat} {w w' : World} {p : Option Addr} {n c : Nat} {vs : List Value} {row : Option Nat} (h : New B w p n c vs) (g : w.grownBy w' row) (ap : ∀ a, p = some a → row ≠ some a.block) : New B w' p n c vs := by
  have far : ∀ i a u, p = some a → w.cell? (a.add i) = some u → w'.cell? (a.add i) = some u ∧ w'.frozen? (a.add i) = w.frozen? (a.add i) := fun i a u ha hc => by
    have lt := World.block_lt_of_cell? w _ hc
    have ne : some (a.add i).block ≠ row := by rw [add_block]; exact (ap a ha).symm
    exact ⟨(World.grownBy.cell_far g _ lt ne).trans hc, World.grownBy.frozen_far g _ lt ne⟩
  refine ⟨⟨h.holds.len, h.holds.cap, h.holds.max, h.holds.bare, fun i u hu => ?_⟩, h.base, fun a ha i hi => ?_⟩
  · obtain ⟨a, ha, hc⟩ := h.holds.cell i u hu
    exact ⟨a, ha, (far i a u ha hc).1⟩
  · obtain ⟨u, hu⟩ : ∃ u, vs[i]? = some u := ⟨_, List.getElem?_eq_getElem (by rw [h.holds.len]; exact hi)⟩
    obtain ⟨a', e, hc⟩ := h.holds.cell i u hu
    rw [ha] at e
    cases e
    rw [(far i a u ha hc).2]
    exact h.free a ha i hi

/-- While fields are read: fields so far in rows of the call's own, what is left to read, and what all of it comes to. -/
structure ParRel (w wr : World) (v : Value) (p : Option Addr) (n c : Nat) (r : Nat) (fs : List Fld) (left : List Nat) (all : ParO) : Prop where
  own : wr.ownsRow w.heap.size 44 2 v fs.length (cellsX fs)
  news : NewsX w.heap.size wr fs
  apart : ∀ f ∈ fs, ∀ a, f.p = some a → a.block < wr.heap.size ∧ v.ownBlock ≠ some a.block
  count : r + fs.length = 8
  holds : Holds w p n c (valsN .u8 left)
  byt : Byt left
  goes : parF r (says fs) left = all
  low : Below w.heap.size w wr
theorem ParRel.start {w : World} {p : Option Addr} {n c : Nat} {ds : List Nat} (h : Holds w p n c (valsN .u8 ds)) (hy : Byt ds) : ParRel w w (.slice none 0 0) p n c 8 [] ds (parX ds) :=
  ⟨World.ownsRow_nil w _ _ 2, newsX_nil _ _, (fun f hf => by cases hf), rfl, h, hy, rfl, Below.refl _ _⟩
theorem ParRel.len {w wr : World} {v : Value} {p : Option Addr} {n c r : Nat} {fs : List Fld} {left : List Nat} {all : ParO} (h : ParRel w wr v p n c r fs left all) : left.length = n := by have := h.holds.len; rwa [valsN_len] at this
theorem ParRel.slice {w wr : World} {v : Value} {p : Option Addr} {n c r : Nat} {fs : List Fld} {left : List Nat} {all : ParO} (h : ParRel w wr v p n c r fs left all) : ∃ p' c', v = .slice p' fs.length c' := by
  obtain ⟨-, p', c', e, -⟩ := ownX h.own h.news.data
  exact ⟨p', c', e⟩
theorem ParRel.done {w wr w' : World} {v : Value} {p q : Option Addr} {n c r d : Nat} {fs : List Fld} {left : List Nat} {all : ParO} (h : ParRel w wr v p n c r fs left all) (hd : doneX left) (hb : Below wr.heap.size wr w') (hn : New wr.heap.size w' q n d (valsN .u8 left)) :
    ParR w all (.returned (.tuple #[v, .slice q n d, .int .i64 0])) w' := by
  have e := h.goes
  rw [parF_done hd] at e
  subst e
  obtain ⟨l1, p', c', rfl, hh, hbase⟩ := ownX (own_keep h.own hb) ((h.news.below hb).data)
  refine ⟨p', c', q, d, fs, ?_, rfl, ?_, h.news.below hb, ?_, h.low.trans (hb.mono h.low.size)⟩
  · show _ = Ending.returned (.tuple #[.slice p' (says fs).length c', .slice q left.length d, .int .i64 0])
    rw [says_len, h.len]
  · show HoldsX w' p' (says fs).length c' fs
    rw [says_len]; exact hh
  · show New w.heap.size w' q left.length d (valsN .u8 left)
    rw [h.len]; exact hn.low h.low.size
theorem ParRel.bad {w wr w' : World} {v : Value} {p : Option Addr} {n c r x : Nat} {fs : List Fld} {left : List Nat} {all : ParO} (h : ParRel w wr v p n c r fs left all) (hd : ¬ doneX left) (he : errX left = x) (x0 : x ≠ 0) (hb : Below wr.heap.size wr w') :
    ParR w all (.returned (.tuple #[.slice none 0 0, .slice none 0 0, .int .i64 (x : Nat)])) w' := by
  have e := h.goes
  rw [parF_err hd he x0] at e
  subst e
  exact parR_err (h.low.trans (hb.mono h.low.size))
theorem ParRel.full {w wr w' : World} {v : Value} {p : Option Addr} {n c : Nat} {fs : List Fld} {left : List Nat} {all : ParO} (h : ParRel w wr v p n c 0 fs left all) (hd : ¬ doneX left) (he : errX left = 0) (hb : Below wr.heap.size wr w') :
    ParR w all (.returned (.tuple #[.slice none 0 0, .slice none 0 0, .int .i64 7])) w' := by
  have e := h.goes
  rw [parF_full hd he] at e
  subst e
  exact parR_err (x := 7) (h.low.trans (hb.mono h.low.size))
theorem ParRel.next {w wr wm w3 : World} {v : Value} {p : Option Addr} {n c r g cap s : Nat} {fs : List Fld} {f : Fld} {left : List Nat} {all : ParO} (h : ParRel w wr v p n c (r + 1) fs left all) (hd : ¬ doneX left) (he : errX left = 0) (hs : lenX left = s) (hf : fldX left = (f.ty, f.ds))
    (hb : Below wr.heap.size wr wm) (nw : New wr.heap.size wm f.p f.n f.c (valsN .u8 f.ds)) (o : w3.ownsRow w.heap.size 44 2 (.slice (some ⟨g, 0, none⟩) (fs.length + 1) cap) (fs.length + 1) (cellsX fs ++ [.int .u16 (f.ty : Nat), .slice f.p f.n f.c]))
    (gr : wm.grownBy w3 v.ownBlock) (mv : v.ownBlock = some g ∨ g = wm.heap.size) :
    ParRel w w3 (.slice (some ⟨g, 0, none⟩) (fs.length + 1) cap) (if c = s then p else p.map (·.add (s * 1))) (n - s) (c - s) r (fs ++ [f]) (left.drop s) all := by
  subst hs
  obtain ⟨h16, hl, hle⟩ := errX_zero he
  have lv : ∀ j, v.ownBlock = some j → w.heap.size ≤ j ∧ j < wr.heap.size := fun j hj => World.ownsRow.lt h.own j hj
  have fpos : ∀ a, f.p = some a → a.block < wm.heap.size := fun a ha => by
    have dl : f.ds.length = lenX left - 4 := by
      have e : f.ds = (left.drop 4).take (lenX left - 4) := by
        have := congrArg Prod.snd hf
        exact this.symm
      rw [e, List.length_take, List.length_drop]
      omega
    have := nw.holds.len
    rw [valsN_len] at this
    unfold longN at hl
    obtain ⟨a', e, hc⟩ := nw.holds.atN (i := 0) (by omega)
    rw [ha] at e
    cases e
    have := World.block_lt_of_cell? wm _ hc
    rwa [add_block] at this
  refine ⟨?_, ?_, ?_, ?_, ?_, byt_drop h.byt _, ?_, ?_⟩
  · rw [cellsX_snoc, List.length_append]; exact o
  · refine newsX_snoc (fun x hx => ((h.news x hx).below hb).grown gr (fun a ha => (h.apart x hx a ha).2)) ((nw.low h.low.size).grown gr (fun a ha e => ?_))
    have := nw.base a ha
    have := (lv _ e).2
    omega
  · intro x hx a ha
    have sz := gr.size
    rcases List.mem_append.1 hx with hx | hx
    · obtain ⟨x1, x2⟩ := h.apart x hx a ha
      refine ⟨Nat.lt_of_lt_of_le x1 (Nat.le_trans hb.size sz), fun e => ?_⟩
      have e' : g = a.block := by simpa [Value.ownBlock] using e
      rcases mv with mv | mv
      · exact x2 (by rw [mv, e'])
      · have := hb.size; omega
    · obtain rfl : x = f := by simpa using hx
      have lt := fpos a ha
      have bs := nw.base a ha
      refine ⟨Nat.lt_of_lt_of_le lt sz, fun e => ?_⟩
      have e' : g = a.block := by simpa [Value.ownBlock] using e
      rcases mv with mv | mv
      · have := (lv _ mv).2; omega
      · omega
  · rw [List.length_append]
    have := h.count
    simp only [List.length_cons, List.length_nil]
    omega
  · exact drop_own h.holds (by rw [← h.len]; exact hle)
  · rw [says_snoc, ← hf, ← parF_next hd he]
    exact h.goes
  · exact (h.low.trans (hb.mono h.low.size)).grown gr (Nat.le_trans h.low.size hb.size) (fun j hj => (lv j hj).1)

/-- What is asked ahead of a field, of the bytes that are left. -/
theorem errX_short {bs : List Nat} (h : bs.length < 16) : errX bs = 4 := by unfold errX; rw [if_pos h]
theorem errX_form {bs : List Nat} (h : 16 ≤ bs.length) (g : ¬ longN (lenX bs - 4)) : errX bs = 5 := by unfold errX; rw [if_neg (by omega), if_pos g]
theorem errX_more {bs : List Nat} (h : 16 ≤ bs.length) (g : longN (lenX bs - 4)) (l : bs.length < lenX bs) : errX bs = 4 := by unfold errX; rw [if_neg (by omega), if_neg (fun k => k g), if_pos l]
theorem errX_ok {bs : List Nat} (h : 16 ≤ bs.length) (g : longN (lenX bs - 4)) (l : lenX bs ≤ bs.length) : errX bs = 0 := by unfold errX; rw [if_neg (by omega), if_neg (fun k => k g), if_neg (by omega)]

def lenV : Value → Nat
  | .slice _ n _ => n
  | _ => 0
end Go.Proofs.Yteclcefeipjoeaa
