/- Contracts of the document's own answers for layer 1: products. -/
import Derived.Test.YtokhlagcflkocaaBigG
import Derived.Laws.MakeOwn
namespace Go.Proofs.Ytokhlagcflkocaa
open Go.ChangeShapes Go.WideShapes Go.ChangeAt Go.RowKit BigM

theorem made_list (v : Value) (n : Nat) : (madeCells #[v] n).toList = List.replicate n v := by
  rw [List.eq_replicate_iff]
  constructor
  · simp [madeCells]
  · intro u hu
    unfold madeCells at hu
    rw [Array.toList_map, List.mem_map] at hu
    obtain ⟨k, _, rfl⟩ := hu
    have : k % (#[v] : Array Value).size = 0 := by simp [Nat.mod_one]
    rw [this]
    rfl

theorem own_made (w : World) (i : Nat) (C : Array Value) (hC : C.toList = List.replicate i (Value.int .u32 0)) (hi : i ≤ 1000) :
    OwnAt w.heap.size (w.alloc (.cells C 69)) (.slice (some ⟨w.heap.size, 0, none⟩) i i) (List.replicate i 0) := by
  have hs : C.size = i := by rw [← Array.length_toList, hC, List.length_replicate]
  refine ⟨by simp, .inr ⟨w.heap.size, i, C, by simp, Nat.le_refl _, heap_alloc_new w _, by simp, by unfold maxLen; omega, by omega, ?_⟩⟩
  simp [hC]

structure IRel (w0 wr : World) (x : Nat) (b : List Nat) (i : Nat) (v : Value) (row : List Nat) (k c : Nat) : Prop where
  own : OwnAt w0.heap.size wr v row
  low : Below w0.heap.size w0 wr
  dig : Dig row
  len : row.length = i + k
  car : c < 65536
  sum : val row + 65536 ^ (i + k) * c = 65536 ^ i * (x * val (b.take k))
  top : k ≤ b.length + 1

theorem irel_next {w0 wr w1 : World} {x : Nat} {b row : List Nat} {i k c : Nat} {v v' : Value} {o : Obj} (hb : Dig b) (hx : x < 65536) (h : IRel w0 wr x b i v row k c) (hk : k ≤ b.length)
    (hown' : w1.ownsRow w0.heap.size 69 1 v' (row.length + 1) (row.map (fun d : Nat => Value.int .u32 (d : Int)) ++ [.int .u32 (((x * b.getD k 0 + c) % 65536 : Nat) : Int)]))
    (hgrow : (wr.alloc o).grownBy w1 v.ownBlock) :
    IRel w0 w1 x b i v' (row ++ [(x * b.getD k 0 + c) % 65536]) (k + 1) ((x * b.getD k 0 + c) / 65536) := by
  refine ⟨?_, ?_, dig_snoc h.dig (Nat.mod_lt _ (by omega)), by simp [h.len]; omega, (times_carry hx (dig_getD hb k) h.car).1, times_step h.len h.sum, by omega⟩
  · unfold OwnAt
    rw [List.length_append, List.map_append]
    exact hown'
  · exact (h.low.alloc h.low.size o).grown hgrow (by simp; have := h.low.size; omega) (fun j hj => (World.ownsRow.lt h.own j hj).1)

theorem IRel.drewN {w0 wr : World} {x : Nat} {b row : List Nat} {i k c : Nat} {v : Value} (h : IRel w0 wr x b i v row k c) (n : Nat) : IRel w0 (wr.drewN n) x b i v row k c :=
  ⟨h.own, below_drewN h.low n, h.dig, h.len, h.car, h.sum, h.top⟩

structure TRel (w wr : World) (ma mb : Bool) (va vb : Value) (a b : List Nat) (po : Option Addr) (no co : Nat) (out : List Nat) (i : Nat) : Prop where
  b0 : wr.heap[w.heap.size]? = some (.cells #[.bool ma, va] 54 (0, 0))
  b1 : wr.heap[w.heap.size + 1]? = some (.cells #[.bool mb, vb] 54 (0, 0))
  b2 : wr.heap[w.heap.size + 2]? = some (.cells #[.bool false, .slice none 0 0] 54 (0, 0))
  b3 : wr.heap[w.heap.size + 3]? = some (.cells #[.bool false, .slice po no co] 54 (0, 0))
  oo : Own wr (.slice po no co) out
  low : Below w.heap.size w wr
  dig : Dig out
  sum : val out = val (a.take i) * val b
  len : out.length ≤ b.length + 2 * i + 2
  top : i ≤ a.length

theorem trel_next {w wr wi w5 : World} {ma mb : Bool} {va vb : Value} {a b out row ds : List Nat} {po p' : Option Addr} {no co k' c' i x k : Nat} {vr : Value} (h : TRel w wr ma mb va vb a b po no co out i) (g : IRel wr wi x b i vr row k 0)
    (hx : a.getD i 0 = x) (hi : i < a.length) (hk : b.length ≤ k) (o5 : Own w5 (.slice p' k' c') ds) (d5 : Dig ds) (v5 : val ds = val out + val row) (l5 : ds.length ≤ max out.length row.length + 1) (b5 : Below wi.heap.size wi w5) :
    TRel w (w5.setCell ⟨w.heap.size + 3, 1, none⟩ (.slice p' k' c')) ma mb va vb a b p' k' c' ds (i + 1) := by
  have lt := (Array.getElem?_eq_some_iff.1 h.b3).1
  have gl := g.low.size
  have e : ∀ j, j < w.heap.size + 4 → w5.heap[j]? = wr.heap[j]? := fun j hj => (b5.block j (by omega)).trans (g.low.block j (by omega))
  have b3 := (e (w.heap.size + 3) (by omega)).trans h.b3
  refine ⟨?_, ?_, ?_, ?_, own_set o5 b3 (by decide) _, ?_, d5, ?_, ?_, by omega⟩
  · rw [Below.heap_setCell _ _ _ _ (by simp)]; exact (e _ (by omega)).trans h.b0
  · rw [Below.heap_setCell _ _ _ _ (by simp)]; exact (e _ (by omega)).trans h.b1
  · rw [Below.heap_setCell _ _ _ _ (by simp)]; exact (e _ (by omega)).trans h.b2
  · rw [set_block b3]; rfl
  · exact ((h.low.trans (g.low.mono (by omega))).trans (b5.mono (by omega))).setCell (by simp) _
  · have s := g.sum
    rw [Nat.mul_zero, Nat.add_zero, val_take_all hk] at s
    rw [v5, h.sum, s, times_row, hx]
  · have := h.len; have := g.len; have := g.top; omega

theorem trel_start (w : World) (ma mb : Bool) (va vb : Value) (a b : List Nat) : TRel w ((((w.alloc (.cells #[.bool ma, va] 54)).alloc (.cells #[.bool mb, vb] 54)).alloc (.cells #[.bool false, .slice none 0 0] 54)).alloc (.cells #[.bool false, .slice none 0 0] 54)) ma mb va vb a b none 0 0 [] 0 := by
  have K := three_held w ma va mb vb _ (Below.refl _ _)
  have tb := three_below w ma va mb vb
  have ts := three_size w ma va mb vb
  have hb0 : (three w ma va mb vb).heap[w.heap.size]? = some (.cells #[.bool ma, va] 54 (0, 0)) := by
    unfold three
    rw [Below.heap_alloc _ _ _ (by simp; omega), Below.heap_alloc _ _ _ (by simp)]
    exact heap_alloc_new w _
  have hb1 : (three w ma va mb vb).heap[w.heap.size + 1]? = some (.cells #[.bool mb, vb] 54 (0, 0)) := by
    unfold three
    rw [Below.heap_alloc _ _ _ (by simp)]
    exact (two_new w _ _).2
  have b2 := K.b2
  have b3 := heap_alloc_new (three w ma va mb vb) (.cells #[.bool false, .slice none 0 0] 54)
  rw [ts] at b3
  change TRel w ((three w ma va mb vb).alloc (.cells #[.bool false, .slice none 0 0] 54)) ma mb va vb a b none 0 0 [] 0
  refine ⟨?_, ?_, ?_, b3, own_nil _ _, tb.alloc (by rw [ts]; omega) _, ?_, ?_, by simp, by omega⟩
  · rw [Below.heap_alloc _ _ _ (by rw [ts]; omega)]; exact hb0
  · rw [Below.heap_alloc _ _ _ (by rw [ts]; omega)]; exact hb1
  · rw [Below.heap_alloc _ _ _ (by rw [ts]; omega)]; exact b2
  · intro d hd; simp at hd
  · simp [val]

/-- The cells that the rounds read. -/
structure TCells (w : World) (ma mb : Bool) (va vb vo : Value) (wr : World) : Prop where
  c0 : wr.cell? ⟨w.heap.size, 0, none⟩ = some (.bool ma)
  c1 : wr.cell? ⟨w.heap.size, 1, none⟩ = some va
  c2 : wr.cell? ⟨w.heap.size + 1, 0, none⟩ = some (.bool mb)
  c3 : wr.cell? ⟨w.heap.size + 1, 1, none⟩ = some vb
  c4 : wr.cell? ⟨w.heap.size + 1 + 1 + 1, 0, none⟩ = some (.bool false)
  c5 : wr.cell? ⟨w.heap.size + 1 + 1 + 1, 1, none⟩ = some vo
  f4 : wr.frozen? ⟨w.heap.size + 1 + 1 + 1, 0, none⟩ = false
  f5 : wr.frozen? ⟨w.heap.size + 1 + 1 + 1, 1, none⟩ = false
theorem TRel.cells {w wr wi : World} {ma mb : Bool} {va vb : Value} {a b out : List Nat} {po : Option Addr} {no co i : Nat} (h : TRel w wr ma mb va vb a b po no co out i) (g : Below wr.heap.size wr wi) : TCells w ma mb va vb (.slice po no co) wi := by
  have lt := (Array.getElem?_eq_some_iff.1 h.b3).1
  have b0 := (g.block _ (by omega : w.heap.size < wr.heap.size)).trans h.b0
  have b1 := (g.block _ (by omega : w.heap.size + 1 < wr.heap.size)).trans h.b1
  have b3 := (g.block _ (by omega : w.heap.size + 3 < wr.heap.size)).trans h.b3
  exact ⟨cell_blk b0, cell_blk b0, cell_blk b1, cell_blk b1, cell_blk b3, cell_blk b3, free_blk b3, free_blk b3⟩

set_option maxHeartbeats 4000000 in
set_option maxRecDepth 100000 in
theorem times_raw (w : World) (ma mb : Bool) (va vb : Value) (a b : List Nat) (oa : Own w va a) (ob : Own w vb b) (ha : Dig a) (hb : Dig b) (la : a.length ≤ 100) (lb : b.length ≤ 100)
    (m' : Bool) (n L : Nat) (hn : val a * val b = n) (hL : b.length + 2 * a.length + 2 = L) (s : Bool) (hs : (!(ma == mb)) = s) (hm : (s && decide (n ≠ 0)) = m') :
    Calls Try.prog 53 #[.agg #[.bool ma, va], .agg #[.bool mb, vb]] w (BigPost w m' n L) := by
  obtain ⟨i0, hi, hz0, hz1, hz2⟩ := info_parts info32
  obtain ⟨na, hna⟩ : ∃ n, n = a.length := ⟨_, rfl⟩
  obtain ⟨nb, hnb⟩ : ∃ n, n = b.length := ⟨_, rfl⟩
  obtain ⟨pa, ca, rfl⟩ := own_len oa hna
  obtain ⟨pb, cb, rfl⟩ := own_len ob hnb
  have OA := Lib.hid oa
  have OB := Lib.hid ob
  have HA := Lib.hid ha
  have HB := Lib.hid hb
  have NA := Lib.hid hna
  have NB := Lib.hid hnb
  have HN := Lib.hid hn
  have HL := Lib.hid hL
  have HM := Lib.hid hm
  have la' : na ≤ 100 := by omega
  have lb' : nb ≤ 100 := by omega
  clear oa ob ha hb hna hnb hn hL hm la lb
  go_enter Try.func53, Try.ntmps53
  go_wp2
  go_loopw [6] (fun i wr => ∃ (j : Nat) (po : Option Addr) (no co : Nat) (out : List Nat), i = .int .i64 j ∧ TRel w wr ma mb (.slice pa na ca) (.slice pb nb cb) a b po no co out j) (fun i _ => 200 - (intOf i).toNat)
  case atStart => exact ⟨0, none, 0, 0, [], rfl, trel_start w ma mb _ _ a b⟩
  case round =>
    obtain ⟨j, po, no, co, out, rfl, h⟩ := hrel
    have HT := Lib.hid h
    clear h
    have j1 : j ≤ 100 := by have := HT.out.top; have := NA.out; omega
    by_cases hj : (j : Int) < (na : Int)
    · have ja : j < a.length := by have := NA.out; omega
      obtain ⟨x, hx⟩ : ∃ x, a.getD j 0 = x := ⟨_, rfl⟩
      have x1 : x < 65536 := by rw [← hx]; exact dig_getD HA.out j
      obtain ⟨g, rfl, -⟩ := own_cell OA.out ja hx
      obtain ⟨C, hC⟩ : ∃ C, madeCells #[Value.int .u32 0] j = C := ⟨_, rfl⟩
      have hmk : ∀ w, (Instr.makeSlice 52 (.int .i64 (j : Int)) (.int .i64 (j : Int))).run Try.prog w = .ok (.slice (some ⟨w.heap.size, 0, none⟩) j j) (w.alloc (.cells C 69)) := fun w => by
        have r := run_make (P := Try.prog) w 52 69 i0 (.int .u32 0) Try.underlying52 hi hz0 .i64 .i64 (j : Int) (j : Int) (by omega) (by omega) (by rw [hz2]; omega) (by omega)
        rw [hz1, Int.toNat_natCast, Nat.mul_one] at r
        rw [← hC]
        exact r
      have OM := Lib.hid (fun w => own_made w j C (by rw [← hC]; exact made_list _ _) (by omega))
      have HX := Lib.hid hx
      have X1 := Lib.hid x1
      have JA := Lib.hid ja
      have TC := HT.out.cells (Below.refl _ _)
      have c0 := TC.c1
      clear hC hx x1 ja TC
      obtain ⟨wo, rfl⟩ : ∃ wo : World, wo = wr := ⟨_, rfl⟩
      go_wp2
      go_loopw [7, 8, 9] (fun v c k wi => ∃ (row : List Nat) (kk cc : Nat), c = .int .u64 cc ∧ k = .int .i64 kk ∧ IRel wo wi x b j v row kk cc) (fun _ _ k _ => 200 - (intOf k).toNat)
      case atStart => exact ⟨List.replicate j 0, 0, 0, rfl, rfl, ⟨OM.out wo, (Below.refl _ _).alloc (Nat.le_refl _) _, by intro d hd; rw [List.mem_replicate] at hd; omega, by simp, by omega, by rw [val_zeros]; simp [val], by omega⟩⟩
      case round =>
        obtain ⟨row, k, cc, rfl, rfl, h⟩ := hrel
        have HR := Lib.hid h
        have TC := HT.out.cells h.low
        have d1 := TC.c1
        have d3 := TC.c3
        have d5 := TC.c5
        have e5 := TC.f5
        have k1 : k ≤ 101 := by have := h.top; have := NB.out; omega
        have c1 : cc < 65536 := h.car
        have rl := h.len
        have bl := h.low.size
        obtain ⟨y, hy⟩ : ∃ y, b.getD k 0 = y := ⟨_, rfl⟩
        have y1 : y < 65536 := by rw [← hy]; exact dig_getD HB.out k
        have cb2 := (times_carry X1.out y1 c1).2
        obtain ⟨pxy, hpxy⟩ : ∃ t, t = x * y := ⟨_, rfl⟩
        obtain ⟨t, ht⟩ : ∃ t, t = pxy + cc := ⟨_, rfl⟩
        obtain ⟨d, hd⟩ : ∃ d, d = t % 65536 := ⟨_, rfl⟩
        obtain ⟨q, hq⟩ : ∃ q, q = t / 65536 := ⟨_, rfl⟩
        rw [← hpxy, ← ht] at cb2
        have x2 := X1.out
        have e1 : IntKind.u64.wrap (x : Int) = (x : Int) := by rw [IntKind.wrap_u64]; omega
        have e2 : IntKind.u64.wrap (y : Int) = (y : Int) := by rw [IntKind.wrap_u64]; omega
        have e3 : IntKind.u64.wrap ((x : Int) * (y : Int)) = (pxy : Int) := by rw [← Int.natCast_mul, ← hpxy, IntKind.wrap_u64]; omega
        have e4 : IntKind.u64.wrap ((pxy : Int) + (cc : Int)) = (t : Int) := by rw [IntKind.wrap_u64]; omega
        have e6 : (t : Int) % 65536 = (d : Int) := by omega
        have e7 : (t : Int) / 65536 = (q : Int) := by omega
        have e8 : IntKind.u32.wrap (d : Int) = (d : Int) := by rw [IntKind.wrap_u32]; omega
        have e9 : IntKind.u64.wrap (q : Int) = (q : Int) := by rw [IntKind.wrap_u64]; omega
        have e10 : (d : Int) % 4294967296 = (d : Int) := by omega
        obtain ⟨g', hg', hc⟩ := own_cell (own_below (own_below OA.out HT.out.low) h.low) JA.out HX.out
        have eg : g' = g := by injection hg' with e; injection e with e _ _; exact e.symm
        rw [eg] at hc
        have Y := Lib.hid hy
        have DD : Hid (d = (x * b.getD k 0 + cc) % 65536) := by unfold Hid; rw [hd, ht, hpxy, hy]
        have QQ : Hid (q = (x * b.getD k 0 + cc) / 65536) := by unfold Hid; rw [hq, ht, hpxy, hy]
        have BM : Hid (row.length + 1 ≤ maxLen) := by unfold Hid maxLen; omega
        have BY : Hid ((row.length + 1) * 4 ≤ 140737488355328) := by unfold Hid; omega
        have BS : Hid (wo.heap.size ≤ (wr.alloc (.cells #[.int .u32 (d : Int)] 69)).heap.size) := by unfold Hid; simp; omega
        clear h TC rl bl hy y1 cb2 hpxy ht hd hq x2 hg' eg
        by_cases ca1 : (k : Int) < (nb : Int)
        · have kk : Hid (k ≤ b.length) := by unfold Hid; have := NB.out; omega
          go_wp2
          go_quiet ((go_at_call 55; exact Calls.quiet_of_same (at_q _ _ b k y (own_drewN (own_below (own_below OB.out HT.out.low) HR.out.low) _) Y.out)))
          go_wp2_with (at_builtin; refine wpList_append_own _ rfl _ _ 52 rfl wo.heap.size 69 i0 (.int .u32 0) 1 4 Try.underlying52 hi hz0 hz1 hz2 rfl (by decide) _ _ _ rfl (World.ownsRow.alloc (own_drewN HR.out.own _) _) ⟨wr.heap.size, 0, none⟩ 1 1 [.int .u32 (d : Int)] rfl rfl (one_new (wr.drewN _) _ _) (one_cell d) BM.out BY.out BS.out ?_)
          intro v' w1 hown1 hgrow1 _
          have HN1 : Hid (IRel wo w1 x b j v' (row ++ [d]) (k + 1) q) := by
            unfold Hid
            rw [DD.out, QQ.out]
            rw [DD.out] at hown1
            exact irel_next HB.out X1.out (HR.out.drewN _) kk.out hown1 hgrow1
          clear hown1 hgrow1
          go_wp2
          go_roundw
          case rel => exact ⟨row ++ [d], k + 1, q, rfl, by go_num, HN1.out⟩
          case measure => simp [intOf]; omega
        · by_cases ca3 : 0 < (cc : Int)
          · have kk : Hid (k ≤ b.length) := by
              unfold Hid
              have h0 := HR.out.top
              rcases Nat.lt_or_ge b.length k with g | g
              · have := times_top HB.out X1.out (show k = b.length + 1 by omega) HR.out.sum
                omega
              · exact g
            go_wp2
            go_quiet ((go_at_call 55; exact Calls.quiet_of_same (at_q _ _ b k y (own_drewN (own_below (own_below OB.out HT.out.low) HR.out.low) _) Y.out)))
            go_wp2_with (at_builtin; refine wpList_append_own _ rfl _ _ 52 rfl wo.heap.size 69 i0 (.int .u32 0) 1 4 Try.underlying52 hi hz0 hz1 hz2 rfl (by decide) _ _ _ rfl (World.ownsRow.alloc (own_drewN HR.out.own _) _) ⟨wr.heap.size, 0, none⟩ 1 1 [.int .u32 (d : Int)] rfl rfl (one_new (wr.drewN _) _ _) (one_cell d) BM.out BY.out BS.out ?_)
            intro v' w1 hown1 hgrow1 _
            have HN1 : Hid (IRel wo w1 x b j v' (row ++ [d]) (k + 1) q) := by
              unfold Hid
              rw [DD.out, QQ.out]
              rw [DD.out] at hown1
              exact irel_next HB.out X1.out (HR.out.drewN _) kk.out hown1 hgrow1
            clear hown1 hgrow1
            go_wp2
            go_roundw
            case rel => exact ⟨row ++ [d], k + 1, q, rfl, by go_num, HN1.out⟩
            case measure => simp [intOf]; omega
          · have cz : cc = 0 := by omega
            subst cz
            have kb : Hid (b.length ≤ k) := by unfold Hid; have := NB.out; omega
            have PP := Lib.hid (plus_any wr (.slice po no co) u7 out row (own_below HT.out.oo HR.out.low) HR.out.own.weak HT.out.dig HR.out.dig (by have := HT.out.len; have := HT.out.top; have := NA.out; have := NB.out; omega) (by have := HR.out.len; omega))
            go_wp2_with fail
            refine PP.out.mono ?_
            rintro e w5 ⟨v5, ds, rfl, p1, p2, p3, p4, p5⟩
            obtain ⟨n5, hn5⟩ : ∃ z, z = ds.length := ⟨_, rfl⟩
            obtain ⟨q5, c5, rfl⟩ := own_len p1 hn5
            have lt3 : w.heap.size + 1 + 1 + 1 < wr.heap.size := by
              have h1 := (Array.getElem?_eq_some_iff.1 HT.out.b3).1
              have h2 := HR.out.low.size
              omega
            have g5 : w5.cell? ⟨w.heap.size + 1 + 1 + 1, 1, none⟩ = some (.slice po no co) := by rw [old_cell p5 lt3]; exact d5
            have h5 : w5.frozen? ⟨w.heap.size + 1 + 1 + 1, 1, none⟩ = false := by rw [old_mark p5 lt3]; exact e5
            have HNX : Hid (TRel w (w5.setCell ⟨w.heap.size + 1 + 1 + 1, 1, none⟩ (.slice q5 n5 c5)) ma mb (.slice (some ⟨g, 0, none⟩) na ca) (.slice pb nb cb) a b q5 n5 c5 ds (j + 1)) :=
              trel_next HT.out HR.out HX.out JA.out kb.out p1 p2 p3 p4 p5
            clear p1 p2 p3 p4 p5 hn5 lt3 PP
            go_wp2
            go_roundw
            case rel => exact ⟨j + 1, q5, n5, c5, ds, by go_num, HNX.out⟩
            case measure => simp [intOf]; omega
    · have jn : j = a.length := by have := HT.out.top; have := NA.out; omega
      have TC := HT.out.cells (Below.refl _ _)
      have c0 := TC.c0
      have c1 := TC.c1
      have c2 := TC.c2
      have c4 := TC.c4
      have c5 := TC.c5
      have f4 := TC.f4
      have hv : val out = n := by rw [HT.out.sum, jn, val_take_all (Nat.le_refl _)]; exact HN.out
      have hl : out.length ≤ L := by have := HT.out.len; have := HL.out; omega
      have L1 : L ≤ 1000 := by have := HL.out; have := NA.out; have := NB.out; omega
      have TR := Lib.hid (trim_to (wr.setCell ⟨w.heap.size + 3, 0, none⟩ (.bool s)) s m' po no co out n L (own_set HT.out.oo HT.out.b3 (by decide) _) HT.out.dig hv hl L1 HM.out)
      clear TC jn hv hl L1
      go_wp2_with fail
      refine TR.out.mono ?_
      rintro e w2 ⟨y, rfl, g, hb⟩
      obtain ⟨p', k', c', rfl⟩ := g.slice
      have lt2 : w.heap.size + 2 < wr.heap.size := by have h1 := (Array.getElem?_eq_some_iff.1 HT.out.b3).1; omega
      have b2 : w2.heap[w.heap.size + 2]? = some (.cells #[.bool false, .slice none 0 0] 54 (0, 0)) := by
        rw [hb.block _ (by simpa [World.setCell] using lt2), Below.heap_setCell _ _ _ _ (by simp)]
        exact HT.out.b2
      have D0 : w2.cell? ⟨w.heap.size + 1 + 1, 0, none⟩ = some (.bool false) := cell_blk b2
      have D1 : w2.cell? ⟨w.heap.size + 1 + 1, 1, none⟩ = some (.slice none 0 0) := cell_blk b2
      have E0 : w2.frozen? ⟨w.heap.size + 1 + 1, 0, none⟩ = false := free_blk b2
      have E1 : w2.frozen? ⟨w.heap.size + 1 + 1, 1, none⟩ = false := free_blk b2
      have lo : Below w.heap.size w w2 := (HT.out.low.setCell (by simp) _).trans (hb.mono (by simp [World.setCell]; omega))
      have fin : BigPost w m' n L (.returned (.agg #[.bool m', .slice p' k' c'])) ((w2.setCell ⟨w.heap.size + 2, 0, none⟩ (.bool m')).setCell ⟨w.heap.size + 2, 1, none⟩ (.slice p' k' c')) :=
        ⟨_, rfl, (g.set b2 (by decide) _).set (set_block b2) (by decide) _, (lo.setCell (by simp) _).setCell (by simp) _⟩
      have FIN := Lib.hid fin
      clear fin lo b2 lt2 hb g
      go_wp2
      exact bodyPost_ret (v := .agg #[.bool m', .slice p' k' c']) (by simp [results, Try.results53, go_sem, D0, D1]) rfl FIN.out

/-- A product of any two. -/
theorem Times_any (w : World) (x y : Value) (ma mb : Bool) (na nb La Lb : Nat) (hx : BigIs w x ma na La) (hy : BigIs w y mb nb Lb) (la : La ≤ 100) (lb : Lb ≤ 100) :
    Calls Try.prog 53 #[x, y] w (BigPost w ((!(ma == mb)) && decide (na * nb ≠ 0)) (na * nb) (Lb + 2 * La + 2)) := by
  obtain ⟨va, a, rfl, a1, a2, a3, rfl, a5⟩ := hx.out
  obtain ⟨vb, b, rfl, b1, b2, b3, rfl, b5⟩ := hy.out
  refine (times_raw w ma mb va vb a b a1 b1 a2 b2 (by omega) (by omega) _ _ _ rfl rfl _ rfl rfl).mono ?_
  rintro e w' ⟨z, h1, ⟨v, ds, g1, g2, g3, g4, g5, g6⟩, h3⟩
  exact ⟨z, h1, ⟨v, ds, g1, g2, g3, g4, g5, by omega⟩, h3⟩
/-- Steps that each leave alone what was there. -/
def Chain (w w' : World) : Prop := Below w.heap.size w w'
theorem Chain.nil (w : World) : Chain w w := Below.refl _ _
theorem Chain.step {w a b : World} (h : Chain w a) (k : Below a.heap.size a b) : Chain w b := Below.trans h (k.mono (Below.size h))
theorem Chain.done {w a : World} (h : Chain w a) : Below w.heap.size w a := h

end Go.Proofs.Ytokhlagcflkocaa

