/- Layer 6 (mac), the program's own rounds (written by genmacturn.py). -/
import Derived.Test.YtkojgegfmhoomaaMacR
import Derived.Test.YtkojgegfmhoomaaMacO
import Derived.StillTailTactics
import Derived.Deep.DeepCutAuto
namespace Go.Proofs.Ytkojgegfmhoomaa
open Go.ChangeShapes Go.WideShapes Go.ChangeAt Go.RowKit OctM

set_option maxRecDepth 100000 in
set_option maxHeartbeats 16000000 in
theorem pturn6_any (w : World) (B : Nat) (s : St) (n : Nat) (hs : s.ok) (hb : StP w B s) (hn : n ≤ 4) :
    Calls Try.prog 29 #[.pointer (some ⟨B, 0, none⟩), .int .i64 (n : Int)] w fun e w' => e = .returned (.tuple #[]) ∧ StP w' B (roundsK s n) ∧ OnlyB B w w' := by
  have OKS := Lib.hid (roundsK_ok hs)
  have HB := Lib.hid hb
  have HN := Lib.hid hn
  have nb : (n : Int) ≤ 4 := by omega
  clear hs hb hn
  go_enter Try.func29, Try.ntmps29
  go_wp2_with fail
  go_loopw [5] (fun i wr => ∃ k : Nat, i = .int .i64 k ∧ Hid (k ≤ n) ∧ Hid (StP wr B (roundsK s k)) ∧ Hid (OnlyB B w wr)) (fun i _ => 100 - (intOf i).toNat)
  case atStart => exact ⟨0, rfl, Nat.zero_le _, HB, OnlyB.refl _ _⟩
  case round =>
    obtain ⟨k, rfl, hk, hst, hon⟩ := hrel
    have kb : (k : Int) ≤ 4 := by have := hk.out; have := HN.out; omega
    by_cases g : k < n
    · have g' : (k : Int) < (n : Int) := by omega
      have G : Hid (k + 1 ≤ n) := g
      have ok := OKS.out k
      have NX : Hid (roundsK s (k + 1) = roundN (roundsK s k)) := rfl
      generalize roundsK s k = t at *
      obtain ⟨a0, b0, c0, d0⟩ := t
      obtain ⟨wa0, wb0, wc0, wd0⟩ := ok
      simp only at wa0 wb0 wc0 wd0
      have hb0 : wr.heap[B]? = some (.cells #[.int .u64 (a0 : Nat), .int .u64 (b0 : Nat), .int .u64 (c0 : Nat), .int .u64 (d0 : Nat)] 59 (0, 0)) := hst.out
      have O0 := Lib.hid hon.out
      have HA := Lib.hid wa0
      have HBB := Lib.hid wb0
      have HC := Lib.hid wc0
      have HD := Lib.hid wd0
      have H0 := Lib.hid hb0
      clear hk hst hon g wa0 wb0 wc0 wd0 hb0
      go_wp2_with fail
      -- statement 0
      obtain ⟨a1, ha1⟩ : ∃ x, x = add64 a0 b0 := ⟨_, rfl⟩
      have ev : IntKind.u64.wrap ((a0 : Int) + (b0 : Int)) = (a1 : Int) := by rw [ha1]; unfold add64; rw [IntKind.wrap_u64]; omega
      have Na1 : Hid (W64 a1) := by unfold Hid; rw [ha1]; exact add64_lt _ _
      have Ea1 := Lib.hid ha1
      clear ha1
      have c1 := blk_cell (o := 0) H0.out
      have c2 := blk_cell (o := 1) H0.out
      go_still_tail 11, (by kernel_rfl)
      change wpList _ _ _ _ _ wr.drew
      have G0 := Lib.hid (show wr.drew.heap[B]? = _ from H0.out)
      have Q0 := Lib.hid O0.out.drew
      clear c1 c2
      have c1 := blk_cell (o := 0) G0.out
      have f1 := blk_free (o := 0) G0.out
      generalize wr.drew = v0 at *
      go_upto_region 3 with fail
      have H1 := Lib.hid (show (v0.setCell ⟨B, 0, none⟩ (.int .u64 (a1 : Nat))).heap[B]? = some (.cells #[.int .u64 (a1 : Nat), .int .u64 (b0 : Nat), .int .u64 (c0 : Nat), .int .u64 (d0 : Nat)] 59 (0, 0)) from blk_set (o := 0) (u := .int .u64 (a1 : Nat)) G0.out)
      have O1 := Lib.hid (Q0.out.set 0 (.int .u64 (a1 : Nat)))
      clear c1 f1 ev
      generalize v0.setCell ⟨B, 0, none⟩ (.int .u64 (a1 : Nat)) = w1 at *
      -- statement 1
      obtain ⟨b2, hb2⟩ : ∃ x, x = rotN b0 13 := ⟨_, rfl⟩
      have RT := Lib.hid (fun v => protate_any v b0 13 HBB.out (by decide))
      rw [← hb2] at RT
      have Nb2 : Hid (W64 b2) := by unfold Hid; rw [hb2]; exact rotN_lt HBB.out _
      have Eb2 := Lib.hid hb2
      clear hb2
      obtain ⟨b3, hb3⟩ : ∃ x, x = b2 ^^^ a1 := ⟨_, rfl⟩
      have ev : bits .xor .u64 (b2 : Int) (a1 : Int) = (b3 : Int) := by rw [hb3]; exact bits_xor_u64_nat _ _ Nb2.out Na1.out
      have Nb3 : Hid (W64 b3) := by unfold Hid; rw [hb3]; exact xor_lt Nb2.out Na1.out
      have Eb3 := Lib.hid hb3
      clear hb3
      have c1 := blk_cell (o := 1) H1.out
      have c2 := blk_cell (o := 0) H1.out
      refine wp_region_still_tail 13 (by kernel_rfl) (by kernel_rfl) ?_
      simp only [List.take_succ_cons, List.take_zero, List.drop_succ_cons, List.drop_zero]
      repeat still_step
      still_call (RT.out _)
      repeat still_step
      try refine wpStill_nil ?_
      change wpList _ _ _ _ _ w1.drew
      have G1 := Lib.hid (show w1.drew.heap[B]? = _ from H1.out)
      have Q1 := Lib.hid O1.out.drew
      clear c1 c2
      have c1 := blk_cell (o := 1) G1.out
      have f1 := blk_free (o := 1) G1.out
      generalize w1.drew = v1 at *
      go_upto_region 4 with fail
      have H2 := Lib.hid (show (v1.setCell ⟨B, 1, none⟩ (.int .u64 (b3 : Nat))).heap[B]? = some (.cells #[.int .u64 (a1 : Nat), .int .u64 (b3 : Nat), .int .u64 (c0 : Nat), .int .u64 (d0 : Nat)] 59 (0, 0)) from blk_set (o := 1) (u := .int .u64 (b3 : Nat)) G1.out)
      have O2 := Lib.hid (Q1.out.set 1 (.int .u64 (b3 : Nat)))
      clear c1 f1 RT ev
      generalize v1.setCell ⟨B, 1, none⟩ (.int .u64 (b3 : Nat)) = w2 at *
      -- statement 2
      obtain ⟨a4, ha4⟩ : ∃ x, x = rotN a1 32 := ⟨_, rfl⟩
      have RT := Lib.hid (fun v => protate_any v a1 32 Na1.out (by decide))
      rw [← ha4] at RT
      have Na4 : Hid (W64 a4) := by unfold Hid; rw [ha4]; exact rotN_lt Na1.out _
      have Ea4 := Lib.hid ha4
      clear ha4
      have c1 := blk_cell (o := 0) H2.out
      refine wp_region_still_tail 8 (by kernel_rfl) (by kernel_rfl) ?_
      simp only [List.take_succ_cons, List.take_zero, List.drop_succ_cons, List.drop_zero]
      repeat still_step
      still_call (RT.out _)
      repeat still_step
      try refine wpStill_nil ?_
      change wpList _ _ _ _ _ w2.drew
      have G2 := Lib.hid (show w2.drew.heap[B]? = _ from H2.out)
      have Q2 := Lib.hid O2.out.drew
      clear c1
      have c1 := blk_cell (o := 0) G2.out
      have f1 := blk_free (o := 0) G2.out
      generalize w2.drew = v2 at *
      go_upto_region 5 with fail
      have H3 := Lib.hid (show (v2.setCell ⟨B, 0, none⟩ (.int .u64 (a4 : Nat))).heap[B]? = some (.cells #[.int .u64 (a4 : Nat), .int .u64 (b3 : Nat), .int .u64 (c0 : Nat), .int .u64 (d0 : Nat)] 59 (0, 0)) from blk_set (o := 0) (u := .int .u64 (a4 : Nat)) G2.out)
      have O3 := Lib.hid (Q2.out.set 0 (.int .u64 (a4 : Nat)))
      clear c1 f1 RT
      generalize v2.setCell ⟨B, 0, none⟩ (.int .u64 (a4 : Nat)) = w3 at *
      -- statement 3
      obtain ⟨c5, hc5⟩ : ∃ x, x = add64 c0 d0 := ⟨_, rfl⟩
      have ev : IntKind.u64.wrap ((c0 : Int) + (d0 : Int)) = (c5 : Int) := by rw [hc5]; unfold add64; rw [IntKind.wrap_u64]; omega
      have Nc5 : Hid (W64 c5) := by unfold Hid; rw [hc5]; exact add64_lt _ _
      have Ec5 := Lib.hid hc5
      clear hc5
      have c1 := blk_cell (o := 2) H3.out
      have c2 := blk_cell (o := 3) H3.out
      go_still_tail 11, (by kernel_rfl)
      change wpList _ _ _ _ _ w3.drew
      have G3 := Lib.hid (show w3.drew.heap[B]? = _ from H3.out)
      have Q3 := Lib.hid O3.out.drew
      clear c1 c2
      have c1 := blk_cell (o := 2) G3.out
      have f1 := blk_free (o := 2) G3.out
      generalize w3.drew = v3 at *
      go_upto_region 6 with fail
      have H4 := Lib.hid (show (v3.setCell ⟨B, 2, none⟩ (.int .u64 (c5 : Nat))).heap[B]? = some (.cells #[.int .u64 (a4 : Nat), .int .u64 (b3 : Nat), .int .u64 (c5 : Nat), .int .u64 (d0 : Nat)] 59 (0, 0)) from blk_set (o := 2) (u := .int .u64 (c5 : Nat)) G3.out)
      have O4 := Lib.hid (Q3.out.set 2 (.int .u64 (c5 : Nat)))
      clear c1 f1 ev
      generalize v3.setCell ⟨B, 2, none⟩ (.int .u64 (c5 : Nat)) = w4 at *
      -- statement 4
      obtain ⟨d6, hd6⟩ : ∃ x, x = rotN d0 16 := ⟨_, rfl⟩
      have RT := Lib.hid (fun v => protate_any v d0 16 HD.out (by decide))
      rw [← hd6] at RT
      have Nd6 : Hid (W64 d6) := by unfold Hid; rw [hd6]; exact rotN_lt HD.out _
      have Ed6 := Lib.hid hd6
      clear hd6
      obtain ⟨d7, hd7⟩ : ∃ x, x = d6 ^^^ c5 := ⟨_, rfl⟩
      have ev : bits .xor .u64 (d6 : Int) (c5 : Int) = (d7 : Int) := by rw [hd7]; exact bits_xor_u64_nat _ _ Nd6.out Nc5.out
      have Nd7 : Hid (W64 d7) := by unfold Hid; rw [hd7]; exact xor_lt Nd6.out Nc5.out
      have Ed7 := Lib.hid hd7
      clear hd7
      have c1 := blk_cell (o := 3) H4.out
      have c2 := blk_cell (o := 2) H4.out
      refine wp_region_still_tail 13 (by kernel_rfl) (by kernel_rfl) ?_
      simp only [List.take_succ_cons, List.take_zero, List.drop_succ_cons, List.drop_zero]
      repeat still_step
      still_call (RT.out _)
      repeat still_step
      try refine wpStill_nil ?_
      change wpList _ _ _ _ _ w4.drew
      have G4 := Lib.hid (show w4.drew.heap[B]? = _ from H4.out)
      have Q4 := Lib.hid O4.out.drew
      clear c1 c2
      have c1 := blk_cell (o := 3) G4.out
      have f1 := blk_free (o := 3) G4.out
      generalize w4.drew = v4 at *
      go_upto_region 7 with fail
      have H5 := Lib.hid (show (v4.setCell ⟨B, 3, none⟩ (.int .u64 (d7 : Nat))).heap[B]? = some (.cells #[.int .u64 (a4 : Nat), .int .u64 (b3 : Nat), .int .u64 (c5 : Nat), .int .u64 (d7 : Nat)] 59 (0, 0)) from blk_set (o := 3) (u := .int .u64 (d7 : Nat)) G4.out)
      have O5 := Lib.hid (Q4.out.set 3 (.int .u64 (d7 : Nat)))
      clear c1 f1 RT ev
      generalize v4.setCell ⟨B, 3, none⟩ (.int .u64 (d7 : Nat)) = w5 at *
      -- statement 5
      obtain ⟨a8, ha8⟩ : ∃ x, x = add64 a4 d7 := ⟨_, rfl⟩
      have ev : IntKind.u64.wrap ((a4 : Int) + (d7 : Int)) = (a8 : Int) := by rw [ha8]; unfold add64; rw [IntKind.wrap_u64]; omega
      have Na8 : Hid (W64 a8) := by unfold Hid; rw [ha8]; exact add64_lt _ _
      have Ea8 := Lib.hid ha8
      clear ha8
      have c1 := blk_cell (o := 0) H5.out
      have c2 := blk_cell (o := 3) H5.out
      go_still_tail 11, (by kernel_rfl)
      change wpList _ _ _ _ _ w5.drew
      have G5 := Lib.hid (show w5.drew.heap[B]? = _ from H5.out)
      have Q5 := Lib.hid O5.out.drew
      clear c1 c2
      have c1 := blk_cell (o := 0) G5.out
      have f1 := blk_free (o := 0) G5.out
      generalize w5.drew = v5 at *
      go_upto_region 8 with fail
      have H6 := Lib.hid (show (v5.setCell ⟨B, 0, none⟩ (.int .u64 (a8 : Nat))).heap[B]? = some (.cells #[.int .u64 (a8 : Nat), .int .u64 (b3 : Nat), .int .u64 (c5 : Nat), .int .u64 (d7 : Nat)] 59 (0, 0)) from blk_set (o := 0) (u := .int .u64 (a8 : Nat)) G5.out)
      have O6 := Lib.hid (Q5.out.set 0 (.int .u64 (a8 : Nat)))
      clear c1 f1 ev
      generalize v5.setCell ⟨B, 0, none⟩ (.int .u64 (a8 : Nat)) = w6 at *
      -- statement 6
      obtain ⟨d9, hd9⟩ : ∃ x, x = rotN d7 21 := ⟨_, rfl⟩
      have RT := Lib.hid (fun v => protate_any v d7 21 Nd7.out (by decide))
      rw [← hd9] at RT
      have Nd9 : Hid (W64 d9) := by unfold Hid; rw [hd9]; exact rotN_lt Nd7.out _
      have Ed9 := Lib.hid hd9
      clear hd9
      obtain ⟨d10, hd10⟩ : ∃ x, x = d9 ^^^ a8 := ⟨_, rfl⟩
      have ev : bits .xor .u64 (d9 : Int) (a8 : Int) = (d10 : Int) := by rw [hd10]; exact bits_xor_u64_nat _ _ Nd9.out Na8.out
      have Nd10 : Hid (W64 d10) := by unfold Hid; rw [hd10]; exact xor_lt Nd9.out Na8.out
      have Ed10 := Lib.hid hd10
      clear hd10
      have c1 := blk_cell (o := 3) H6.out
      have c2 := blk_cell (o := 0) H6.out
      refine wp_region_still_tail 13 (by kernel_rfl) (by kernel_rfl) ?_
      simp only [List.take_succ_cons, List.take_zero, List.drop_succ_cons, List.drop_zero]
      repeat still_step
      still_call (RT.out _)
      repeat still_step
      try refine wpStill_nil ?_
      change wpList _ _ _ _ _ w6.drew
      have G6 := Lib.hid (show w6.drew.heap[B]? = _ from H6.out)
      have Q6 := Lib.hid O6.out.drew
      clear c1 c2
      have c1 := blk_cell (o := 3) G6.out
      have f1 := blk_free (o := 3) G6.out
      generalize w6.drew = v6 at *
      go_upto_region 9 with fail
      have H7 := Lib.hid (show (v6.setCell ⟨B, 3, none⟩ (.int .u64 (d10 : Nat))).heap[B]? = some (.cells #[.int .u64 (a8 : Nat), .int .u64 (b3 : Nat), .int .u64 (c5 : Nat), .int .u64 (d10 : Nat)] 59 (0, 0)) from blk_set (o := 3) (u := .int .u64 (d10 : Nat)) G6.out)
      have O7 := Lib.hid (Q6.out.set 3 (.int .u64 (d10 : Nat)))
      clear c1 f1 RT ev
      generalize v6.setCell ⟨B, 3, none⟩ (.int .u64 (d10 : Nat)) = w7 at *
      -- statement 7
      obtain ⟨c11, hc11⟩ : ∃ x, x = add64 c5 b3 := ⟨_, rfl⟩
      have ev : IntKind.u64.wrap ((c5 : Int) + (b3 : Int)) = (c11 : Int) := by rw [hc11]; unfold add64; rw [IntKind.wrap_u64]; omega
      have Nc11 : Hid (W64 c11) := by unfold Hid; rw [hc11]; exact add64_lt _ _
      have Ec11 := Lib.hid hc11
      clear hc11
      have c1 := blk_cell (o := 2) H7.out
      have c2 := blk_cell (o := 1) H7.out
      go_still_tail 11, (by kernel_rfl)
      change wpList _ _ _ _ _ w7.drew
      have G7 := Lib.hid (show w7.drew.heap[B]? = _ from H7.out)
      have Q7 := Lib.hid O7.out.drew
      clear c1 c2
      have c1 := blk_cell (o := 2) G7.out
      have f1 := blk_free (o := 2) G7.out
      generalize w7.drew = v7 at *
      go_upto_region 10 with fail
      have H8 := Lib.hid (show (v7.setCell ⟨B, 2, none⟩ (.int .u64 (c11 : Nat))).heap[B]? = some (.cells #[.int .u64 (a8 : Nat), .int .u64 (b3 : Nat), .int .u64 (c11 : Nat), .int .u64 (d10 : Nat)] 59 (0, 0)) from blk_set (o := 2) (u := .int .u64 (c11 : Nat)) G7.out)
      have O8 := Lib.hid (Q7.out.set 2 (.int .u64 (c11 : Nat)))
      clear c1 f1 ev
      generalize v7.setCell ⟨B, 2, none⟩ (.int .u64 (c11 : Nat)) = w8 at *
      -- statement 8
      obtain ⟨b12, hb12⟩ : ∃ x, x = rotN b3 17 := ⟨_, rfl⟩
      have RT := Lib.hid (fun v => protate_any v b3 17 Nb3.out (by decide))
      rw [← hb12] at RT
      have Nb12 : Hid (W64 b12) := by unfold Hid; rw [hb12]; exact rotN_lt Nb3.out _
      have Eb12 := Lib.hid hb12
      clear hb12
      obtain ⟨b13, hb13⟩ : ∃ x, x = b12 ^^^ c11 := ⟨_, rfl⟩
      have ev : bits .xor .u64 (b12 : Int) (c11 : Int) = (b13 : Int) := by rw [hb13]; exact bits_xor_u64_nat _ _ Nb12.out Nc11.out
      have Nb13 : Hid (W64 b13) := by unfold Hid; rw [hb13]; exact xor_lt Nb12.out Nc11.out
      have Eb13 := Lib.hid hb13
      clear hb13
      have c1 := blk_cell (o := 1) H8.out
      have c2 := blk_cell (o := 2) H8.out
      refine wp_region_still_tail 13 (by kernel_rfl) (by kernel_rfl) ?_
      simp only [List.take_succ_cons, List.take_zero, List.drop_succ_cons, List.drop_zero]
      repeat still_step
      still_call (RT.out _)
      repeat still_step
      try refine wpStill_nil ?_
      change wpList _ _ _ _ _ w8.drew
      have G8 := Lib.hid (show w8.drew.heap[B]? = _ from H8.out)
      have Q8 := Lib.hid O8.out.drew
      clear c1 c2
      have c1 := blk_cell (o := 1) G8.out
      have f1 := blk_free (o := 1) G8.out
      generalize w8.drew = v8 at *
      go_upto_region 11 with fail
      have H9 := Lib.hid (show (v8.setCell ⟨B, 1, none⟩ (.int .u64 (b13 : Nat))).heap[B]? = some (.cells #[.int .u64 (a8 : Nat), .int .u64 (b13 : Nat), .int .u64 (c11 : Nat), .int .u64 (d10 : Nat)] 59 (0, 0)) from blk_set (o := 1) (u := .int .u64 (b13 : Nat)) G8.out)
      have O9 := Lib.hid (Q8.out.set 1 (.int .u64 (b13 : Nat)))
      clear c1 f1 RT ev
      generalize v8.setCell ⟨B, 1, none⟩ (.int .u64 (b13 : Nat)) = w9 at *
      -- statement 9
      obtain ⟨c14, hc14⟩ : ∃ x, x = rotN c11 32 := ⟨_, rfl⟩
      have RT := Lib.hid (fun v => protate_any v c11 32 Nc11.out (by decide))
      rw [← hc14] at RT
      have Nc14 : Hid (W64 c14) := by unfold Hid; rw [hc14]; exact rotN_lt Nc11.out _
      have Ec14 := Lib.hid hc14
      clear hc14
      have c1 := blk_cell (o := 2) H9.out
      refine wp_region_still_tail 8 (by kernel_rfl) (by kernel_rfl) ?_
      simp only [List.take_succ_cons, List.take_zero, List.drop_succ_cons, List.drop_zero]
      repeat still_step
      still_call (RT.out _)
      repeat still_step
      try refine wpStill_nil ?_
      change wpList _ _ _ _ _ w9.drew
      have G9 := Lib.hid (show w9.drew.heap[B]? = _ from H9.out)
      have Q9 := Lib.hid O9.out.drew
      clear c1
      have c1 := blk_cell (o := 2) G9.out
      have f1 := blk_free (o := 2) G9.out
      generalize w9.drew = v9 at *
      have H10 := Lib.hid (show (v9.setCell ⟨B, 2, none⟩ (.int .u64 (c14 : Nat))).heap[B]? = some (.cells #[.int .u64 (a8 : Nat), .int .u64 (b13 : Nat), .int .u64 (c14 : Nat), .int .u64 (d10 : Nat)] 59 (0, 0)) from blk_set (o := 2) (u := .int .u64 (c14 : Nat)) G9.out)
      have O10 := Lib.hid (Q9.out.set 2 (.int .u64 (c14 : Nat)))
      have EQ : Hid (roundsK s (k + 1) = ⟨a8, b13, c14, d10⟩) := by
        have q0 : r0 ⟨a0, b0, c0, d0⟩ = ⟨a1, b0, c0, d0⟩ := by rw [Ea1.out]; rfl
        have q1 : r1 ⟨a1, b0, c0, d0⟩ = ⟨a1, b2, c0, d0⟩ := by rw [Eb2.out]; rfl
        have q2 : r2 ⟨a1, b2, c0, d0⟩ = ⟨a1, b3, c0, d0⟩ := by rw [Eb3.out]; rfl
        have q3 : r3 ⟨a1, b3, c0, d0⟩ = ⟨a4, b3, c0, d0⟩ := by rw [Ea4.out]; rfl
        have q4 : r4 ⟨a4, b3, c0, d0⟩ = ⟨a4, b3, c5, d0⟩ := by rw [Ec5.out]; rfl
        have q5 : r5 ⟨a4, b3, c5, d0⟩ = ⟨a4, b3, c5, d6⟩ := by rw [Ed6.out]; rfl
        have q6 : r6 ⟨a4, b3, c5, d6⟩ = ⟨a4, b3, c5, d7⟩ := by rw [Ed7.out]; rfl
        have q7 : r7 ⟨a4, b3, c5, d7⟩ = ⟨a8, b3, c5, d7⟩ := by rw [Ea8.out]; rfl
        have q8 : r8 ⟨a8, b3, c5, d7⟩ = ⟨a8, b3, c5, d9⟩ := by rw [Ed9.out]; rfl
        have q9 : r9 ⟨a8, b3, c5, d9⟩ = ⟨a8, b3, c5, d10⟩ := by rw [Ed10.out]; rfl
        have q10 : r10 ⟨a8, b3, c5, d10⟩ = ⟨a8, b3, c11, d10⟩ := by rw [Ec11.out]; rfl
        have q11 : r11 ⟨a8, b3, c11, d10⟩ = ⟨a8, b12, c11, d10⟩ := by rw [Eb12.out]; rfl
        have q12 : r12 ⟨a8, b12, c11, d10⟩ = ⟨a8, b13, c11, d10⟩ := by rw [Eb13.out]; rfl
        have q13 : r13 ⟨a8, b13, c11, d10⟩ = ⟨a8, b13, c14, d10⟩ := by rw [Ec14.out]; rfl
        unfold Hid
        rw [NX.out]
        unfold roundN
        rw [q0, q1, q2, q3, q4, q5, q6, q7, q8, q9, q10, q11, q12, q13]
      have ST : Hid (StP (v9.setCell ⟨B, 2, none⟩ (.int .u64 (c14 : Nat))) B (roundsK s (k + 1))) := by unfold Hid; rw [EQ.out]; exact H10.out
      clear EQ NX
      go_wp2
      go_roundw
      case rel => exact ⟨k + 1, by go_num, G, ST, O10⟩
      case measure => simp [intOf]; omega
    · have g' : (n : Int) ≤ (k : Int) := by omega
      obtain rfl : k = n := by have := hk.out; omega
      have ST := Lib.hid hst.out
      have ON := Lib.hid hon.out
      clear hk hst hon g
      go_wp2
      go_end0
      exact ⟨rfl, ST.out, ON.out⟩
end Go.Proofs.Ytkojgegfmhoomaa
