/- Layer 5's laws: so many zero bytes behind some; what the examples say. -/
import Derived.Test.YteclcefeipjoeaaExtL
import Derived.Test.YteclcefeipjoeaaZeros
namespace Go.Proofs.Yteclcefeipjoeaa
open Go.ChangeShapes Go.WideShapes Go.ChangeAt Go.RowKit OctM

theorem valsN_zeros (k : Nat) : List.replicate k (Value.int .u8 0) = valsN .u8 (List.replicate k 0) := by
  unfold valsN
  rw [List.map_replicate]
  rfl
theorem byt_zeros (k : Nat) : Byt (List.replicate k 0) := fun d hd => by rw [List.eq_of_mem_replicate hd]; exact (by decide : 0 < 256)

/-- Bytes in a row of whoever calls. -/
def OfR (w : World) (B n : Nat) (ds : List Nat) (e : Ending) (w' : World) : Prop := ∃ v, e = .returned v ∧ w'.ownsRow B 5 1 v n (valsN .u8 ds) ∧ Below B w w'

theorem bytesOf_any (w : World) (B n k : Nat) (v : Value) (ds : List Nat) (hB : B ≤ w.heap.size) (ho : w.ownsRow B 5 1 v n (valsN .u8 ds)) (hn : n + k ≤ 100000) :
    Calls Try.prog 25 #[.int .i64 (k : Int), v] w (OfR w B (n + k) (ds ++ List.replicate k 0)) := by
  obtain ⟨i0, hi, hz0, hz1, hz2⟩ := info_of info8
  have HO := Lib.hid ho
  have HB := Lib.hid hB
  have HN : Hid (n + k ≤ 1000000) := by unfold Hid; omega
  clear ho hB hn
  go_enter Try.func25, Try.ntmps25
  go_wp2_with (at_builtin; refine wpList_append_zeros w rfl _ _ _ _ rfl B 5 i0 (.int .u8 0) .i64 Try.underlying25 Try.underlying3 hi hz0 hz1 hz2 rfl rfl v n _ rfl HO.out k rfl HN.out HB.out ?_)
  intro v' w1 o1 g1 _
  have FIN : Hid (OfR w B (n + k) (ds ++ List.replicate k 0) (.returned v') w1) := ⟨v', rfl, by rw [valsN_append, ← valsN_zeros]; exact o1, (Below.refl _ _).grown g1 HB.out (fun j hj => (World.ownsRow.lt HO.out j hj).1)⟩
  clear o1 g1
  go_wp2
  go_ret
  exact FIN.out

/-- The examples' bytes. -/
theorem ex1 : parX ([1, 2, 0, 16] ++ List.replicate 12 0) = ([(258, List.replicate 12 0)], [], 0) := by decide +kernel
theorem ex2 (ds : List Nat) (h : ds.length = 12) : parX ds = ([], ds, 0) := by unfold parX; rw [parF_done (.inr h)]
theorem ex3 : parX ([1, 2, 0, 12] ++ List.replicate 16 0) = ([], [], 5) := by decide +kernel
theorem ex4 : parX ([1, 2, 0, 16] ++ List.replicate 9 0) = ([], [], 4) := by decide +kernel

theorem made_zeros (s : Nat) : (madeCells #[Value.int .u8 0] s).toList = valsN .u8 (List.replicate s 0) := by
  rw [← valsN_zeros]
  unfold madeCells
  apply List.ext_getElem?
  intro i
  rw [List.getElem?_replicate]
  by_cases h : i < s
  · simp [h, Nat.mod_one]
  · simp [h]
/-- so many zero bytes, made. -/
theorem makeZ (s : Nat) (hs : s ≤ 1000000) : ∃ C : Array Value, C.toList = valsN .u8 (List.replicate s 0) ∧ C.size = s ∧ ∀ w, (Instr.makeSlice 25 (.int .i64 (s : Int)) (.int .i64 (s : Int))).run Try.prog w = .ok (.slice (some ⟨w.heap.size, 0, none⟩) s s) (w.alloc (.cells C 5)) := by
  obtain ⟨i, hi, h0, h1, h2⟩ := info_of info8
  refine ⟨madeCells #[Value.int .u8 0] s, made_zeros s, size_madeCells _ _, fun w => ?_⟩
  have r := run_make (P := Try.prog) w 25 5 i (.int .u8 0) Try.underlying25 hi h0 .i64 .i64 (s : Int) (s : Int) (by omega) (by omega) (by rw [h2]; omega) (by omega)
  rw [h1, Int.toNat_natCast, Nat.mul_one] at r
  exact r

/-- Four bytes in a new block, as a row of the call's own. -/
theorem own_a (w : World) (B : Nat) (hB : B ≤ w.heap.size) : (w.alloc (.cells #[.int .u8 1, .int .u8 2, .int .u8 0, .int .u8 16] 5)).ownsRow B 5 1 (.slice (some ⟨w.heap.size, 0, none⟩) 4 4) 4 (valsN .u8 [1, 2, 0, 16]) :=
  own_of_blk (heap_alloc_new w _) rfl (by decide) hB
theorem own_b (w : World) (B : Nat) (hB : B ≤ w.heap.size) : (w.alloc (.cells #[.int .u8 1, .int .u8 2, .int .u8 0, .int .u8 12] 5)).ownsRow B 5 1 (.slice (some ⟨w.heap.size, 0, none⟩) 4 4) 4 (valsN .u8 [1, 2, 0, 12]) :=
  own_of_blk (heap_alloc_new w _) rfl (by decide) hB

theorem four_byt {a b c d k : Nat} (ha : a < 256) (hb : b < 256) (hc : c < 256) (hd : d < 256) : Byt ([a, b, c, d] ++ List.replicate k 0) := by
  intro x hx
  rcases List.mem_append.1 hx with h | h
  · simp only [List.mem_cons, List.not_mem_nil, or_false] at h
    omega
  · exact byt_zeros k x h

theorem ex_call (w1 : World) (v : Value) (n B : Nat) (ds : List Nat) (o : w1.ownsRow B 5 1 v n (valsN .u8 ds)) (hy : Byt ds) (hn : n ≤ 10000) :
    Calls Try.prog 21 #[v] w1 (ParR w1 (parX ds)) := by
  obtain ⟨p, c, rfl, hh⟩ := own_holds o
  exact pparse5_any w1 p n c ds hh hy hn

/-- What the examples' first call tells, laid open. -/
theorem par_one {w w' : World} {e : Ending} (h : ParR w ([(258, List.replicate 12 0)], [], 0) e w') : ∃ a c q d fp fc, e = .returned (.tuple #[.slice (some a) 1 c, .slice q 0 d, .int .i64 0]) ∧ w'.cell? a = some (.int .u16 258) ∧ w'.cell? ⟨a.block, a.off + 1, none⟩ = some (.slice fp 12 fc) ∧ Below w.heap.size w w' := by
  obtain ⟨p, c, q, d, fs, rfl, hs, hh, hn, hq, hb⟩ := h
  obtain ⟨a, f, ha, hf, c0, c1, hd⟩ := hh.at (i := 0) (by decide)
  subst ha
  have e := says_get hf
  rw [hs] at e
  have e2 : (258, List.replicate 12 0) = (f.ty, f.ds) := by injection e
  injection e2 with e3 e4
  have ln := hd.len
  rw [valsN_len, ← e4] at ln
  have ln' : f.n = 12 := by rw [← ln]; rfl
  refine ⟨a, c, q, d, f.p, f.c, rfl, ?_, ?_, hb⟩
  · rw [← e3] at c0; exact c0
  · rw [ln'] at c1; exact c1
theorem par_none {w w' : World} {e : Ending} {ds : List Nat} {x : Nat} (h : ParR w ([], ds, x) e w') : ∃ p c q d, e = .returned (.tuple #[.slice p 0 c, .slice q ds.length d, .int .i64 (x : Nat)]) ∧ New w.heap.size w' q ds.length d (valsN .u8 ds) ∧ Below w.heap.size w w' := by
  obtain ⟨p, c, q, d, fs, rfl, hs, hh, hn, hq, hb⟩ := h
  exact ⟨p, c, q, d, rfl, hq, hb⟩

set_option maxRecDepth 100000 in
set_option maxHeartbeats 8000000 in
theorem awake5_any (w : World) :
    Calls Try.prog 16 #[] w fun e w' => e = .returned (.bool true) ∧ Below w.heap.size w w' := by
  obtain ⟨C, hC, hCs, mk'⟩ := makeZ 12 (by decide)
  have mk : ∀ w, (Instr.makeSlice 25 (.int .i64 12) (.int .i64 12)).run Try.prog w = .ok (.slice (some ⟨w.heap.size, 0, none⟩) 12 12) (w.alloc (.cells C 5)) := mk'
  clear mk'
  have B1 := Lib.hid (bytesOf_any _ w.heap.size 4 12 _ _ (by simp) (own_a w w.heap.size (Nat.le_refl _)) (by omega))
  have L0 := Lib.hid ((Below.refl w.heap.size w).alloc (Nat.le_refl _) (.cells #[.int .u8 1, .int .u8 2, .int .u8 0, .int .u8 16] 5))
  have HC := Lib.hid hC
  have HCS := Lib.hid hCs
  clear hC hCs
  go_enter Try.func16, Try.ntmps16
  go_wp2_with fail
  refine B1.out.mono ?_; rintro e w1 ⟨v1, rfl, o1, l1⟩
  have P1 := Lib.hid (ex_call w1 v1 _ _ _ o1 (four_byt (by decide) (by decide) (by decide) (by decide)) (by decide))
  rw [ex1] at P1
  have L1 := Lib.hid (L0.out.trans l1)
  clear o1 l1
  go_wp2_with fail
  refine P1.out.mono ?_; intro e w2 h2
  obtain ⟨a, c, q, d, fp, fc, rfl, c0, c1, l2⟩ := par_one h2
  have L2 := Lib.hid (L1.out.trans (l2.mono L1.out.size))
  have C0 := Lib.hid (fun (w' : World) (b : Below w2.heap.size w2 w') => (b.cell (World.block_lt_of_cell? w2 _ c0)).trans c0)
  have C1 := Lib.hid (fun (w' : World) (b : Below w2.heap.size w2 w') => (b.cell (World.block_lt_of_cell? w2 _ c1)).trans c1)
  have L3 := Lib.hid (L2.out.alloc L2.out.size (.cells C 5))
  have R3 := Lib.hid ((Below.refl w2.heap.size w2).alloc (Nat.le_refl _) (.cells C 5))
  have hh3 := blk_holds (heap_alloc_new w2 (.cells C 5)) HCS.out (by decide)
  rw [HC.out] at hh3
  have P2 := Lib.hid (pparse5_any _ _ 12 12 _ hh3 (byt_zeros 12) (by decide))
  rw [ex2 _ (List.length_replicate)] at P2
  clear h2 l2 c0 c1 hh3
  go_wp2_with fail
  refine P2.out.mono ?_; intro e w4 h4
  obtain ⟨p4, c4, q4, d4, rfl, -, l4⟩ := par_none h4
  have L4 := Lib.hid (L3.out.trans (l4.mono L3.out.size))
  have R4 := Lib.hid (R3.out.trans (l4.mono R3.out.size))
  have L5 := Lib.hid (L4.out.alloc L4.out.size (.cells #[.int .u8 1, .int .u8 2, .int .u8 0, .int .u8 12] 5))
  have R5 := Lib.hid (R4.out.alloc R4.out.size (.cells #[.int .u8 1, .int .u8 2, .int .u8 0, .int .u8 12] 5))
  have B5 := Lib.hid (bytesOf_any _ w4.heap.size 4 16 _ _ (by simp) (own_b w4 w4.heap.size (Nat.le_refl _)) (by omega))
  clear h4 l4
  go_wp2_with fail
  refine B5.out.mono ?_; rintro e w6 ⟨v6, rfl, o6, l6⟩
  have P6 := Lib.hid (ex_call w6 v6 _ _ _ o6 (four_byt (by decide) (by decide) (by decide) (by decide)) (by decide))
  rw [ex3] at P6
  have L6 := Lib.hid (L5.out.trans (l6.mono L4.out.size))
  have R6 := Lib.hid (R5.out.trans (l6.mono R4.out.size))
  clear o6 l6
  go_wp2_with fail
  refine P6.out.mono ?_; intro e w7 h7
  obtain ⟨p7, c7, q7, d7, rfl, -, l7⟩ := par_none h7
  have L7 := Lib.hid (L6.out.trans (l7.mono L6.out.size))
  have R7 := Lib.hid (R6.out.trans (l7.mono R6.out.size))
  have L8 := Lib.hid (L7.out.alloc L7.out.size (.cells #[.int .u8 1, .int .u8 2, .int .u8 0, .int .u8 16] 5))
  have R8 := Lib.hid (R7.out.alloc R7.out.size (.cells #[.int .u8 1, .int .u8 2, .int .u8 0, .int .u8 16] 5))
  have B8 := Lib.hid (bytesOf_any _ w7.heap.size 4 9 _ _ (by simp) (own_a w7 w7.heap.size (Nat.le_refl _)) (by omega))
  clear h7 l7
  go_wp2_with fail
  refine B8.out.mono ?_; rintro e w9 ⟨v9, rfl, o9, l9⟩
  have P9 := Lib.hid (ex_call w9 v9 _ _ _ o9 (four_byt (by decide) (by decide) (by decide) (by decide)) (by decide))
  rw [ex4] at P9
  have L9 := Lib.hid (L8.out.trans (l9.mono L7.out.size))
  have R9 := Lib.hid (R8.out.trans (l9.mono R7.out.size))
  clear o9 l9
  go_wp2_with fail
  refine P9.out.mono ?_; intro e w10 h10
  obtain ⟨p10, c10, q10, d10, rfl, -, l10⟩ := par_none h10
  have L10 := Lib.hid (L9.out.trans (l10.mono L9.out.size))
  have k0 := C0.out _ (R9.out.trans (l10.mono R9.out.size))
  have k1 := C1.out _ (R9.out.trans (l10.mono R9.out.size))
  clear h10 l10
  go_wp2
  go_ret
  exact ⟨rfl, L10.out⟩
end Go.Proofs.Yteclcefeipjoeaa
