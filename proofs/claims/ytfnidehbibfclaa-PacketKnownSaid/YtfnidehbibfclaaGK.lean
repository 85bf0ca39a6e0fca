/- Texts of earlier layers, laid together: XMacI XMacR XMacO XMacP XMacS XMacU XMacT. -/
import Derived.Test.YtfnidehbibfclaaGL
import Derived.Test.YtfnidehbibfclaaGJ
import Derived.Test.YtfnidehbibfclaaFrameT
import Derived.Test.YtfnidehbibfclaaGA
import Derived.Laws.BitsAllLaws
import Derived.Laws.ShiftsVarLaws
import Derived.StillTailTactics
import Derived.Deep.DeepCutAuto
import Derived.Deep.QuietTactic
import Derived.BigQuiet
set_option maxRecDepth 100000
/- Layer 6's laws: what is asked of the program's mac, and the chapter's rows. -/
namespace Go.Proofs.Ytfnidehbibfclaa
open Go.ChangeShapes Go.WideShapes Go.ChangeAt Go.RowKit OctM

/-- What the program's mac tells. -/
structure TagCode : Prop where
  tag : ∀ (w : World) (k : Ky) (p : Option Addr) (n c : Nat) (ps : List Prt), KeyOk k → HoldsP w p n c ps → (∀ q ∈ ps, Byt q.ds) → n ≤ 1000 → totalP ps ≤ 2000000 →
    Calls Try.prog 34 #[keyV k, .slice p n c] w fun e w' => e = .returned (.int .u64 (tagN k.a k.b (joinP ps) : Nat)) ∧ Below w.heap.size w w'
  right : ∀ (w : World) (k : Ky) (t : Nat) (p : Option Addr) (n c : Nat) (ps : List Prt), KeyOk k → W64 t → HoldsP w p n c ps → (∀ q ∈ ps, Byt q.ds) → n ≤ 1000 → totalP ps ≤ 2000000 →
    Calls Try.prog 46 #[keyV k, .int .u64 (t : Nat), .slice p n c] w fun e w' => e = .returned (.bool (decide (tagN k.a k.b (joinP ps) = t))) ∧ Below w.heap.size w w'

theorem holdsP_none (w : World) : HoldsP w none 0 0 [] := ⟨rfl, Nat.le_refl _, Nat.zero_le _, fun _ => rfl, fun i q hq => by simp at hq⟩
/-- A literal's block of slices. -/
theorem litP {w : World} {N n : Nat} {cs : Array Value} {T : TypeId} (ps : List Prt) (h : w.heap[N]? = some (.cells cs T (0, 0))) (hc : cs.toList = ps.map fun q => .slice q.p q.n q.c) (hn : ps.length = n)
    (hh : ∀ q ∈ ps, Holds w q.p q.n q.c (valsN .u8 q.ds)) (hm : n ≤ maxLen) : HoldsP w (some ⟨N, 0, none⟩) n n ps := by
  refine ⟨hn, Nat.le_refl _, hm, (fun e => by cases e), fun i q hq => ⟨_, rfl, ?_, hh q (List.mem_of_getElem? hq)⟩⟩
  have hadd : (⟨N, 0, none⟩ : Addr).add i = ⟨N, i, none⟩ := by unfold Addr.add; split <;> simp_all
  rw [hadd, blk_cell h, ← Array.getElem?_toList, hc, List.getElem?_map, hq]
  rfl

theorem tag_row0 : tagN kyC.a kyC.b [] = 0x726fdb47dd0e0e31 := by decide +kernel
theorem tag_row15 : tagN kyC.a kyC.b (List.range 15) = 0xa129ca6149be45e5 := by decide +kernel
theorem kyC_ok : KeyOk kyC := by unfold KeyOk kyC; decide

theorem tag_at (H : TagCode) (w : World) (k : Ky) (p : Option Addr) (n c : Nat) (ps : List Prt) (V : Int) (hk : KeyOk k) (hp : HoldsP w p n c ps) (hy : ∀ q ∈ ps, Byt q.ds) (hn : n ≤ 1000) (ht : totalP ps ≤ 2000000) (hV : (tagN k.a k.b (joinP ps) : Nat) = V) :
    Calls Try.prog 34 #[keyV k, .slice p n c] w fun e w' => e = .returned (.int .u64 V) ∧ Below w.heap.size w w' := by
  rw [← hV]; exact H.tag w k p n c ps hk hp hy hn ht
theorem right_at (H : TagCode) (w : World) (k : Ky) (t : Nat) (p : Option Addr) (n c : Nat) (ps : List Prt) (B : Bool) (hk : KeyOk k) (h64 : W64 t) (hp : HoldsP w p n c ps) (hy : ∀ q ∈ ps, Byt q.ds) (hn : n ≤ 1000) (ht : totalP ps ≤ 2000000) (hB : decide (tagN k.a k.b (joinP ps) = t) = B) :
    Calls Try.prog 46 #[keyV k, .int .u64 (t : Nat), .slice p n c] w fun e w' => e = .returned (.bool B) ∧ Below w.heap.size w w' := by
  rw [← hB]; exact H.right w k t p n c ps hk h64 hp hy hn ht

end Go.Proofs.Ytfnidehbibfclaa
/- Layer 6 (mac), the program's own: a number turned round by math/bits. -/
namespace Go.Proofs.Ytfnidehbibfclaa
open Go.ChangeShapes Go.WideShapes Go.ChangeAt Go.RowKit OctM

theorem protate_any (w : World) (x n : Nat) (hx : W64 x) (hn : n < 64) :
    Calls Try.prog 101 #[.int .u64 (x : Nat), .int .i64 (n : Int)] w fun e w' => e = .returned (.int .u64 (rotN x n : Nat)) ∧ w' = w := by
  obtain ⟨m, hm⟩ : ∃ m, m = 64 - n := ⟨_, rfl⟩
  obtain ⟨p, hp⟩ : ∃ p, p = x * 2 ^ n % 18446744073709551616 := ⟨_, rfl⟩
  obtain ⟨q, hq⟩ : ∃ q, q = x / 2 ^ m := ⟨_, rfl⟩
  obtain ⟨r, hr⟩ : ∃ r, r = rotN x n := ⟨_, rfl⟩
  have nm : n + m = 64 := by omega
  have pw : 2 ^ n * 2 ^ m = 18446744073709551616 := by rw [← Nat.pow_add, nm]
  have hpr : r = p + q := by rw [hr, hp, hq, hm]; exact rotN_eq hx n (by omega)
  have pb : p < 18446744073709551616 := by rw [hp]; exact Nat.mod_lt _ (by decide)
  have qn : q < 2 ^ n := by
    rw [hq]
    refine (Nat.div_lt_iff_lt_mul (Nat.two_pow_pos m)).2 ?_
    rw [pw]; exact hx
  have qb : q < 18446744073709551616 := Nat.lt_of_lt_of_le qn (by rw [← pw]; exact Nat.le_mul_of_pos_right _ (Nat.two_pow_pos m))
  have pd : p % 2 ^ n = 0 := by
    rw [hp, Nat.mod_mod_of_dvd _ ⟨2 ^ m, pw.symm⟩]
    exact Nat.mul_mod_left _ _
  have OR : bits .or .u64 (p : Int) (q : Int) = (r : Int) := by
    rw [u64_or_nat p q pb qb, nat_join n p q pd qn, hpr]
  have AN : bits .and .u64 (n : Int) 63 = (n : Int) := by
    have h := u64_and_nat n 63 (by omega) (by decide)
    rw [show n &&& 63 = n % 64 from Nat.and_two_pow_sub_one_eq_mod n 6, Nat.mod_eq_of_lt hn] at h
    exact h
  have W1 : IntKind.u64.wrap (n : Int) = (n : Int) := by rw [IntKind.wrap_u64]; omega
  have W2 : IntKind.u64.wrap (64 - (n : Int)) = (m : Int) := by rw [IntKind.wrap_u64]; omega
  have SL : Hid (IntKind.u64.wrap ((x : Int) * 2 ^ n) = (p : Int)) := by
    unfold Hid
    rw [IntKind.wrap_u64, hp]
    simp
  have SR : Op.shift .shr .u64 (x : Int) .u64 (m : Int) = pure (.int .u64 (q : Int)) := by
    rw [shift_shr_any _ _ _ _ (by omega)]
    congr 2
    rw [show min ((m : Int)).toNat IntKind.u64.bits = m by simp [IntKind.bits]; omega, hq]
    simp
  have nb : (n : Int) < 64 := by omega
  have R := Lib.hid hr
  clear hm hp hq hr nm pw hpr pb qn qb pd hx hn
  go_enter Try.func101, Try.ntmps101
  go_wp2
  go_ret
  exact ⟨ret_int (by rw [SL.out, OR, R.out]), rfl⟩
end Go.Proofs.Ytfnidehbibfclaa
/- Layer 6 (mac), the program's own state: four numbers in a block. -/
namespace Go.Proofs.Ytfnidehbibfclaa
open Go.ChangeShapes Go.WideShapes Go.ChangeAt Go.RowKit OctM

/-- A state of the program's lies in block B. -/
def StP (W : World) (B : Nat) (s : St) : Prop := W.heap[B]? = some (.cells #[.int .u64 (s.a : Nat), .int .u64 (s.b : Nat), .int .u64 (s.c : Nat), .int .u64 (s.d : Nat)] 92 (0, 0))
end Go.Proofs.Ytfnidehbibfclaa
/- Layer 6 (mac), the program's own rounds (written by genmacturn.py). -/
namespace Go.Proofs.Ytfnidehbibfclaa
open Go.ChangeShapes Go.WideShapes Go.ChangeAt Go.RowKit OctM

set_option maxRecDepth 100000 in
set_option maxHeartbeats 16000000 in
theorem pturn6_any (w : World) (B : Nat) (s : St) (n : Nat) (hs : s.ok) (hb : StP w B s) (hn : n ≤ 4) :
    Calls Try.prog 91 #[.pointer (some ⟨B, 0, none⟩), .int .i64 (n : Int)] w fun e w' => e = .returned (.tuple #[]) ∧ StP w' B (roundsK s n) ∧ OnlyB B w w' := by
  have OKS := Lib.hid (roundsK_ok hs)
  have HB := Lib.hid hb
  have HN := Lib.hid hn
  have nb : (n : Int) ≤ 4 := by omega
  clear hs hb hn
  go_enter Try.func91, Try.ntmps91
  go_wp2_with fail
  go_loopw [5] (fun i wr => ∃ k : Nat, i = .int .i64 k ∧ Hid (k ≤ n) ∧ Hid (StP wr B (roundsK s k)) ∧ Hid (OnlyB B w wr)) (fun i _ => 100 - (intOf i).toNat)
  case atStart => exact ⟨0, rfl, Nat.zero_le _, HB, OnlyB.refl _ _⟩
  case round =>
    obtain ⟨k, rfl, hk, hst, hon⟩ := hrel
    have kb : (k : Int) ≤ 4 := by have := hk.out; have := HN.out; omega
    by_cases g : k < n
    · have g' : (k : Int) < (n : Int) := by omega
      have G : Hid (k + 1 ≤ n) := g
      have ok := OKS.out k
      have NX : Hid (roundsK s (k + 1) = roundN (roundsK s k)) := rfl
      generalize roundsK s k = t at *
      obtain ⟨a0, b0, c0, d0⟩ := t
      obtain ⟨wa0, wb0, wc0, wd0⟩ := ok
      simp only at wa0 wb0 wc0 wd0
      have hb0 : wr.heap[B]? = some (.cells #[.int .u64 (a0 : Nat), .int .u64 (b0 : Nat), .int .u64 (c0 : Nat), .int .u64 (d0 : Nat)] 92 (0, 0)) := hst.out
      have O0 := Lib.hid hon.out
      have HA := Lib.hid wa0
      have HBB := Lib.hid wb0
      have HC := Lib.hid wc0
      have HD := Lib.hid wd0
      have H0 := Lib.hid hb0
      clear hk hst hon g wa0 wb0 wc0 wd0 hb0
      go_wp2_with fail
      -- statement 0
      obtain ⟨a1, ha1⟩ : ∃ x, x = add64 a0 b0 := ⟨_, rfl⟩
      have ev : IntKind.u64.wrap ((a0 : Int) + (b0 : Int)) = (a1 : Int) := by rw [ha1]; unfold add64; rw [IntKind.wrap_u64]; omega
      have Na1 : Hid (W64 a1) := by unfold Hid; rw [ha1]; exact add64_lt _ _
      have Ea1 := Lib.hid ha1
      clear ha1
      have c1 := blk_cell (o := 0) H0.out
      have c2 := blk_cell (o := 1) H0.out
      go_still_tail 11, (by kernel_rfl)
      change wpList _ _ _ _ _ wr.drew
      have G0 := Lib.hid (show wr.drew.heap[B]? = _ from H0.out)
      have Q0 := Lib.hid O0.out.drew
      clear c1 c2
      have c1 := blk_cell (o := 0) G0.out
      have f1 := blk_free (o := 0) G0.out
      generalize wr.drew = v0 at *
      go_upto_region 3 with fail
      have H1 := Lib.hid (show (v0.setCell ⟨B, 0, none⟩ (.int .u64 (a1 : Nat))).heap[B]? = some (.cells #[.int .u64 (a1 : Nat), .int .u64 (b0 : Nat), .int .u64 (c0 : Nat), .int .u64 (d0 : Nat)] 92 (0, 0)) from blk_set (o := 0) (u := .int .u64 (a1 : Nat)) G0.out)
      have O1 := Lib.hid (Q0.out.set 0 (.int .u64 (a1 : Nat)))
      clear c1 f1 ev
      generalize v0.setCell ⟨B, 0, none⟩ (.int .u64 (a1 : Nat)) = w1 at *
      -- statement 1
      obtain ⟨b2, hb2⟩ : ∃ x, x = rotN b0 13 := ⟨_, rfl⟩
      have RT := Lib.hid (fun v => protate_any v b0 13 HBB.out (by decide))
      rw [← hb2] at RT
      have Nb2 : Hid (W64 b2) := by unfold Hid; rw [hb2]; exact rotN_lt HBB.out _
      have Eb2 := Lib.hid hb2
      clear hb2
      obtain ⟨b3, hb3⟩ : ∃ x, x = b2 ^^^ a1 := ⟨_, rfl⟩
      have ev : bits .xor .u64 (b2 : Int) (a1 : Int) = (b3 : Int) := by rw [hb3]; exact bits_xor_u64_nat _ _ Nb2.out Na1.out
      have Nb3 : Hid (W64 b3) := by unfold Hid; rw [hb3]; exact xor_lt Nb2.out Na1.out
      have Eb3 := Lib.hid hb3
      clear hb3
      have c1 := blk_cell (o := 1) H1.out
      have c2 := blk_cell (o := 0) H1.out
      refine wp_region_still_tail 13 (by kernel_rfl) (by kernel_rfl) ?_
      simp only [List.take_succ_cons, List.take_zero, List.drop_succ_cons, List.drop_zero]
      repeat still_step
      still_call (RT.out _)
      repeat still_step
      try refine wpStill_nil ?_
      change wpList _ _ _ _ _ w1.drew
      have G1 := Lib.hid (show w1.drew.heap[B]? = _ from H1.out)
      have Q1 := Lib.hid O1.out.drew
      clear c1 c2
      have c1 := blk_cell (o := 1) G1.out
      have f1 := blk_free (o := 1) G1.out
      generalize w1.drew = v1 at *
      go_upto_region 4 with fail
      have H2 := Lib.hid (show (v1.setCell ⟨B, 1, none⟩ (.int .u64 (b3 : Nat))).heap[B]? = some (.cells #[.int .u64 (a1 : Nat), .int .u64 (b3 : Nat), .int .u64 (c0 : Nat), .int .u64 (d0 : Nat)] 92 (0, 0)) from blk_set (o := 1) (u := .int .u64 (b3 : Nat)) G1.out)
      have O2 := Lib.hid (Q1.out.set 1 (.int .u64 (b3 : Nat)))
      clear c1 f1 RT ev
      generalize v1.setCell ⟨B, 1, none⟩ (.int .u64 (b3 : Nat)) = w2 at *
      -- statement 2
      obtain ⟨a4, ha4⟩ : ∃ x, x = rotN a1 32 := ⟨_, rfl⟩
      have RT := Lib.hid (fun v => protate_any v a1 32 Na1.out (by decide))
      rw [← ha4] at RT
      have Na4 : Hid (W64 a4) := by unfold Hid; rw [ha4]; exact rotN_lt Na1.out _
      have Ea4 := Lib.hid ha4
      clear ha4
      have c1 := blk_cell (o := 0) H2.out
      refine wp_region_still_tail 8 (by kernel_rfl) (by kernel_rfl) ?_
      simp only [List.take_succ_cons, List.take_zero, List.drop_succ_cons, List.drop_zero]
      repeat still_step
      still_call (RT.out _)
      repeat still_step
      try refine wpStill_nil ?_
      change wpList _ _ _ _ _ w2.drew
      have G2 := Lib.hid (show w2.drew.heap[B]? = _ from H2.out)
      have Q2 := Lib.hid O2.out.drew
      clear c1
      have c1 := blk_cell (o := 0) G2.out
      have f1 := blk_free (o := 0) G2.out
      generalize w2.drew = v2 at *
      go_upto_region 5 with fail
      have H3 := Lib.hid (show (v2.setCell ⟨B, 0, none⟩ (.int .u64 (a4 : Nat))).heap[B]? = some (.cells #[.int .u64 (a4 : Nat), .int .u64 (b3 : Nat), .int .u64 (c0 : Nat), .int .u64 (d0 : Nat)] 92 (0, 0)) from blk_set (o := 0) (u := .int .u64 (a4 : Nat)) G2.out)
      have O3 := Lib.hid (Q2.out.set 0 (.int .u64 (a4 : Nat)))
      clear c1 f1 RT
      generalize v2.setCell ⟨B, 0, none⟩ (.int .u64 (a4 : Nat)) = w3 at *
      -- statement 3
      obtain ⟨c5, hc5⟩ : ∃ x, x = add64 c0 d0 := ⟨_, rfl⟩
      have ev : IntKind.u64.wrap ((c0 : Int) + (d0 : Int)) = (c5 : Int) := by rw [hc5]; unfold add64; rw [IntKind.wrap_u64]; omega
      have Nc5 : Hid (W64 c5) := by unfold Hid; rw [hc5]; exact add64_lt _ _
      have Ec5 := Lib.hid hc5
      clear hc5
      have c1 := blk_cell (o := 2) H3.out
      have c2 := blk_cell (o := 3) H3.out
      go_still_tail 11, (by kernel_rfl)
      change wpList _ _ _ _ _ w3.drew
      have G3 := Lib.hid (show w3.drew.heap[B]? = _ from H3.out)
      have Q3 := Lib.hid O3.out.drew
      clear c1 c2
      have c1 := blk_cell (o := 2) G3.out
      have f1 := blk_free (o := 2) G3.out
      generalize w3.drew = v3 at *
      go_upto_region 6 with fail
      have H4 := Lib.hid (show (v3.setCell ⟨B, 2, none⟩ (.int .u64 (c5 : Nat))).heap[B]? = some (.cells #[.int .u64 (a4 : Nat), .int .u64 (b3 : Nat), .int .u64 (c5 : Nat), .int .u64 (d0 : Nat)] 92 (0, 0)) from blk_set (o := 2) (u := .int .u64 (c5 : Nat)) G3.out)
      have O4 := Lib.hid (Q3.out.set 2 (.int .u64 (c5 : Nat)))
      clear c1 f1 ev
      generalize v3.setCell ⟨B, 2, none⟩ (.int .u64 (c5 : Nat)) = w4 at *
      -- statement 4
      obtain ⟨d6, hd6⟩ : ∃ x, x = rotN d0 16 := ⟨_, rfl⟩
      have RT := Lib.hid (fun v => protate_any v d0 16 HD.out (by decide))
      rw [← hd6] at RT
      have Nd6 : Hid (W64 d6) := by unfold Hid; rw [hd6]; exact rotN_lt HD.out _
      have Ed6 := Lib.hid hd6
      clear hd6
      obtain ⟨d7, hd7⟩ : ∃ x, x = d6 ^^^ c5 := ⟨_, rfl⟩
      have ev : bits .xor .u64 (d6 : Int) (c5 : Int) = (d7 : Int) := by rw [hd7]; exact bits_xor_u64_nat _ _ Nd6.out Nc5.out
      have Nd7 : Hid (W64 d7) := by unfold Hid; rw [hd7]; exact xor_lt Nd6.out Nc5.out
      have Ed7 := Lib.hid hd7
      clear hd7
      have c1 := blk_cell (o := 3) H4.out
      have c2 := blk_cell (o := 2) H4.out
      refine wp_region_still_tail 13 (by kernel_rfl) (by kernel_rfl) ?_
      simp only [List.take_succ_cons, List.take_zero, List.drop_succ_cons, List.drop_zero]
      repeat still_step
      still_call (RT.out _)
      repeat still_step
      try refine wpStill_nil ?_
      change wpList _ _ _ _ _ w4.drew
      have G4 := Lib.hid (show w4.drew.heap[B]? = _ from H4.out)
      have Q4 := Lib.hid O4.out.drew
      clear c1 c2
      have c1 := blk_cell (o := 3) G4.out
      have f1 := blk_free (o := 3) G4.out
      generalize w4.drew = v4 at *
      go_upto_region 7 with fail
      have H5 := Lib.hid (show (v4.setCell ⟨B, 3, none⟩ (.int .u64 (d7 : Nat))).heap[B]? = some (.cells #[.int .u64 (a4 : Nat), .int .u64 (b3 : Nat), .int .u64 (c5 : Nat), .int .u64 (d7 : Nat)] 92 (0, 0)) from blk_set (o := 3) (u := .int .u64 (d7 : Nat)) G4.out)
      have O5 := Lib.hid (Q4.out.set 3 (.int .u64 (d7 : Nat)))
      clear c1 f1 RT ev
      generalize v4.setCell ⟨B, 3, none⟩ (.int .u64 (d7 : Nat)) = w5 at *
      -- statement 5
      obtain ⟨a8, ha8⟩ : ∃ x, x = add64 a4 d7 := ⟨_, rfl⟩
      have ev : IntKind.u64.wrap ((a4 : Int) + (d7 : Int)) = (a8 : Int) := by rw [ha8]; unfold add64; rw [IntKind.wrap_u64]; omega
      have Na8 : Hid (W64 a8) := by unfold Hid; rw [ha8]; exact add64_lt _ _
      have Ea8 := Lib.hid ha8
      clear ha8
      have c1 := blk_cell (o := 0) H5.out
      have c2 := blk_cell (o := 3) H5.out
      go_still_tail 11, (by kernel_rfl)
      change wpList _ _ _ _ _ w5.drew
      have G5 := Lib.hid (show w5.drew.heap[B]? = _ from H5.out)
      have Q5 := Lib.hid O5.out.drew
      clear c1 c2
      have c1 := blk_cell (o := 0) G5.out
      have f1 := blk_free (o := 0) G5.out
      generalize w5.drew = v5 at *
      go_upto_region 8 with fail
      have H6 := Lib.hid (show (v5.setCell ⟨B, 0, none⟩ (.int .u64 (a8 : Nat))).heap[B]? = some (.cells #[.int .u64 (a8 : Nat), .int .u64 (b3 : Nat), .int .u64 (c5 : Nat), .int .u64 (d7 : Nat)] 92 (0, 0)) from blk_set (o := 0) (u := .int .u64 (a8 : Nat)) G5.out)
      have O6 := Lib.hid (Q5.out.set 0 (.int .u64 (a8 : Nat)))
      clear c1 f1 ev
      generalize v5.setCell ⟨B, 0, none⟩ (.int .u64 (a8 : Nat)) = w6 at *
      -- statement 6
      obtain ⟨d9, hd9⟩ : ∃ x, x = rotN d7 21 := ⟨_, rfl⟩
      have RT := Lib.hid (fun v => protate_any v d7 21 Nd7.out (by decide))
      rw [← hd9] at RT
      have Nd9 : Hid (W64 d9) := by unfold Hid; rw [hd9]; exact rotN_lt Nd7.out _
      have Ed9 := Lib.hid hd9
      clear hd9
      obtain ⟨d10, hd10⟩ : ∃ x, x = d9 ^^^ a8 := ⟨_, rfl⟩
      have ev : bits .xor .u64 (d9 : Int) (a8 : Int) = (d10 : Int) := by rw [hd10]; exact bits_xor_u64_nat _ _ Nd9.out Na8.out
      have Nd10 : Hid (W64 d10) := by unfold Hid; rw [hd10]; exact xor_lt Nd9.out Na8.out
      have Ed10 := Lib.hid hd10
      clear hd10
      have c1 := blk_cell (o := 3) H6.out
      have c2 := blk_cell (o := 0) H6.out
      refine wp_region_still_tail 13 (by kernel_rfl) (by kernel_rfl) ?_
      simp only [List.take_succ_cons, List.take_zero, List.drop_succ_cons, List.drop_zero]
      repeat still_step
      still_call (RT.out _)
      repeat still_step
      try refine wpStill_nil ?_
      change wpList _ _ _ _ _ w6.drew
      have G6 := Lib.hid (show w6.drew.heap[B]? = _ from H6.out)
      have Q6 := Lib.hid O6.out.drew
      clear c1 c2
      have c1 := blk_cell (o := 3) G6.out
      have f1 := blk_free (o := 3) G6.out
      generalize w6.drew = v6 at *
      go_upto_region 9 with fail
      have H7 := Lib.hid (show (v6.setCell ⟨B, 3, none⟩ (.int .u64 (d10 : Nat))).heap[B]? = some (.cells #[.int .u64 (a8 : Nat), .int .u64 (b3 : Nat), .int .u64 (c5 : Nat), .int .u64 (d10 : Nat)] 92 (0, 0)) from blk_set (o := 3) (u := .int .u64 (d10 : Nat)) G6.out)
      have O7 := Lib.hid (Q6.out.set 3 (.int .u64 (d10 : Nat)))
      clear c1 f1 RT ev
      generalize v6.setCell ⟨B, 3, none⟩ (.int .u64 (d10 : Nat)) = w7 at *
      -- statement 7
      obtain ⟨c11, hc11⟩ : ∃ x, x = add64 c5 b3 := ⟨_, rfl⟩
      have ev : IntKind.u64.wrap ((c5 : Int) + (b3 : Int)) = (c11 : Int) := by rw [hc11]; unfold add64; rw [IntKind.wrap_u64]; omega
      have Nc11 : Hid (W64 c11) := by unfold Hid; rw [hc11]; exact add64_lt _ _
      have Ec11 := Lib.hid hc11
      clear hc11
      have c1 := blk_cell (o := 2) H7.out
      have c2 := blk_cell (o := 1) H7.out
      go_still_tail 11, (by kernel_rfl)
      change wpList _ _ _ _ _ w7.drew
      have G7 := Lib.hid (show w7.drew.heap[B]? = _ from H7.out)
      have Q7 := Lib.hid O7.out.drew
      clear c1 c2
      have c1 := blk_cell (o := 2) G7.out
      have f1 := blk_free (o := 2) G7.out
      generalize w7.drew = v7 at *
      go_upto_region 10 with fail
      have H8 := Lib.hid (show (v7.setCell ⟨B, 2, none⟩ (.int .u64 (c11 : Nat))).heap[B]? = some (.cells #[.int .u64 (a8 : Nat), .int .u64 (b3 : Nat), .int .u64 (c11 : Nat), .int .u64 (d10 : Nat)] 92 (0, 0)) from blk_set (o := 2) (u := .int .u64 (c11 : Nat)) G7.out)
      have O8 := Lib.hid (Q7.out.set 2 (.int .u64 (c11 : Nat)))
      clear c1 f1 ev
      generalize v7.setCell ⟨B, 2, none⟩ (.int .u64 (c11 : Nat)) = w8 at *
      -- statement 8
      obtain ⟨b12, hb12⟩ : ∃ x, x = rotN b3 17 := ⟨_, rfl⟩
      have RT := Lib.hid (fun v => protate_any v b3 17 Nb3.out (by decide))
      rw [← hb12] at RT
      have Nb12 : Hid (W64 b12) := by unfold Hid; rw [hb12]; exact rotN_lt Nb3.out _
      have Eb12 := Lib.hid hb12
      clear hb12
      obtain ⟨b13, hb13⟩ : ∃ x, x = b12 ^^^ c11 := ⟨_, rfl⟩
      have ev : bits .xor .u64 (b12 : Int) (c11 : Int) = (b13 : Int) := by rw [hb13]; exact bits_xor_u64_nat _ _ Nb12.out Nc11.out
      have Nb13 : Hid (W64 b13) := by unfold Hid; rw [hb13]; exact xor_lt Nb12.out Nc11.out
      have Eb13 := Lib.hid hb13
      clear hb13
      have c1 := blk_cell (o := 1) H8.out
      have c2 := blk_cell (o := 2) H8.out
      refine wp_region_still_tail 13 (by kernel_rfl) (by kernel_rfl) ?_
      simp only [List.take_succ_cons, List.take_zero, List.drop_succ_cons, List.drop_zero]
      repeat still_step
      still_call (RT.out _)
      repeat still_step
      try refine wpStill_nil ?_
      change wpList _ _ _ _ _ w8.drew
      have G8 := Lib.hid (show w8.drew.heap[B]? = _ from H8.out)
      have Q8 := Lib.hid O8.out.drew
      clear c1 c2
      have c1 := blk_cell (o := 1) G8.out
      have f1 := blk_free (o := 1) G8.out
      generalize w8.drew = v8 at *
      go_upto_region 11 with fail
      have H9 := Lib.hid (show (v8.setCell ⟨B, 1, none⟩ (.int .u64 (b13 : Nat))).heap[B]? = some (.cells #[.int .u64 (a8 : Nat), .int .u64 (b13 : Nat), .int .u64 (c11 : Nat), .int .u64 (d10 : Nat)] 92 (0, 0)) from blk_set (o := 1) (u := .int .u64 (b13 : Nat)) G8.out)
      have O9 := Lib.hid (Q8.out.set 1 (.int .u64 (b13 : Nat)))
      clear c1 f1 RT ev
      generalize v8.setCell ⟨B, 1, none⟩ (.int .u64 (b13 : Nat)) = w9 at *
      -- statement 9
      obtain ⟨c14, hc14⟩ : ∃ x, x = rotN c11 32 := ⟨_, rfl⟩
      have RT := Lib.hid (fun v => protate_any v c11 32 Nc11.out (by decide))
      rw [← hc14] at RT
      have Nc14 : Hid (W64 c14) := by unfold Hid; rw [hc14]; exact rotN_lt Nc11.out _
      have Ec14 := Lib.hid hc14
      clear hc14
      have c1 := blk_cell (o := 2) H9.out
      refine wp_region_still_tail 8 (by kernel_rfl) (by kernel_rfl) ?_
      simp only [List.take_succ_cons, List.take_zero, List.drop_succ_cons, List.drop_zero]
      repeat still_step
      still_call (RT.out _)
      repeat still_step
      try refine wpStill_nil ?_
      change wpList _ _ _ _ _ w9.drew
      have G9 := Lib.hid (show w9.drew.heap[B]? = _ from H9.out)
      have Q9 := Lib.hid O9.out.drew
      clear c1
      have c1 := blk_cell (o := 2) G9.out
      have f1 := blk_free (o := 2) G9.out
      generalize w9.drew = v9 at *
      have H10 := Lib.hid (show (v9.setCell ⟨B, 2, none⟩ (.int .u64 (c14 : Nat))).heap[B]? = some (.cells #[.int .u64 (a8 : Nat), .int .u64 (b13 : Nat), .int .u64 (c14 : Nat), .int .u64 (d10 : Nat)] 92 (0, 0)) from blk_set (o := 2) (u := .int .u64 (c14 : Nat)) G9.out)
      have O10 := Lib.hid (Q9.out.set 2 (.int .u64 (c14 : Nat)))
      have EQ : Hid (roundsK s (k + 1) = ⟨a8, b13, c14, d10⟩) := by
        have q0 : r0 ⟨a0, b0, c0, d0⟩ = ⟨a1, b0, c0, d0⟩ := by rw [Ea1.out]; rfl
        have q1 : r1 ⟨a1, b0, c0, d0⟩ = ⟨a1, b2, c0, d0⟩ := by rw [Eb2.out]; rfl
        have q2 : r2 ⟨a1, b2, c0, d0⟩ = ⟨a1, b3, c0, d0⟩ := by rw [Eb3.out]; rfl
        have q3 : r3 ⟨a1, b3, c0, d0⟩ = ⟨a4, b3, c0, d0⟩ := by rw [Ea4.out]; rfl
        have q4 : r4 ⟨a4, b3, c0, d0⟩ = ⟨a4, b3, c5, d0⟩ := by rw [Ec5.out]; rfl
        have q5 : r5 ⟨a4, b3, c5, d0⟩ = ⟨a4, b3, c5, d6⟩ := by rw [Ed6.out]; rfl
        have q6 : r6 ⟨a4, b3, c5, d6⟩ = ⟨a4, b3, c5, d7⟩ := by rw [Ed7.out]; rfl
        have q7 : r7 ⟨a4, b3, c5, d7⟩ = ⟨a8, b3, c5, d7⟩ := by rw [Ea8.out]; rfl
        have q8 : r8 ⟨a8, b3, c5, d7⟩ = ⟨a8, b3, c5, d9⟩ := by rw [Ed9.out]; rfl
        have q9 : r9 ⟨a8, b3, c5, d9⟩ = ⟨a8, b3, c5, d10⟩ := by rw [Ed10.out]; rfl
        have q10 : r10 ⟨a8, b3, c5, d10⟩ = ⟨a8, b3, c11, d10⟩ := by rw [Ec11.out]; rfl
        have q11 : r11 ⟨a8, b3, c11, d10⟩ = ⟨a8, b12, c11, d10⟩ := by rw [Eb12.out]; rfl
        have q12 : r12 ⟨a8, b12, c11, d10⟩ = ⟨a8, b13, c11, d10⟩ := by rw [Eb13.out]; rfl
        have q13 : r13 ⟨a8, b13, c11, d10⟩ = ⟨a8, b13, c14, d10⟩ := by rw [Ec14.out]; rfl
        unfold Hid
        rw [NX.out]
        unfold roundN
        rw [q0, q1, q2, q3, q4, q5, q6, q7, q8, q9, q10, q11, q12, q13]
      have ST : Hid (StP (v9.setCell ⟨B, 2, none⟩ (.int .u64 (c14 : Nat))) B (roundsK s (k + 1))) := by unfold Hid; rw [EQ.out]; exact H10.out
      clear EQ NX
      go_wp2
      go_roundw
      case rel => exact ⟨k + 1, by go_num, G, ST, O10⟩
      case measure => simp [intOf]; omega
    · have g' : (n : Int) ≤ (k : Int) := by omega
      obtain rfl : k = n := by have := hk.out; omega
      have ST := Lib.hid hst.out
      have ON := Lib.hid hon.out
      clear hk hst hon g
      go_wp2
      go_end0
      exact ⟨rfl, ST.out, ON.out⟩
end Go.Proofs.Ytfnidehbibfclaa
/- Layer 6 (mac), the program's own: a state begins, takes a word, ends. -/
namespace Go.Proofs.Ytfnidehbibfclaa
open Go.ChangeShapes Go.WideShapes Go.ChangeAt Go.RowKit OctM

theorem sizeState : (Try.prog.info? 92).map (·.size) = some 4 := by kernel_rfl
theorem OnlyB.drewN {B : Nat} {W W' : World} (h : OnlyB B W W') (n : Nat) : OnlyB B W (W'.drewN n) := ⟨h.keep, h.size, fun N hN => below_drewN (h.low N hN) n⟩
def stV (s : St) : Value := .agg #[.int .u64 (s.a : Nat), .int .u64 (s.b : Nat), .int .u64 (s.c : Nat), .int .u64 (s.d : Nat)]
/-- A state is told. -/
theorem results_st {fn : Func} {p : Tmp} (h : fn.results = #[.cell p 92]) (tmps : Array Value) (w : World) (N : Nat) (s : St)
    (hp : tmps.getD p undef = .pointer (some ⟨N, 0, none⟩)) (hg : StP w N s) :
    (results fn tmps).run Try.prog w = .ok (stV s) w := by
  have hp' : tmps[p]?.getD undef = .pointer (some ⟨N, 0, none⟩) := by simpa using hp
  have hl : (loadVar 92 ⟨N, 0, none⟩).run Try.prog w = .ok (stV s) w :=
    run_loadVar_row w N _ _ _ (0, 0) _ hg Try.underlying92 rfl sizeState
  simp [results, h, hp', asAddr, hl]
theorem blk_four {w : World} {N : Nat} {x y z u : Value} {T : TypeId} (h : w.heap[N]? = some (.cells #[x, y, z, u] T (0, 0))) (a b c d : Value) :
    ((((w.setCell ⟨N, 0, none⟩ a).setCell ⟨N, 1, none⟩ b).setCell ⟨N, 2, none⟩ c).setCell ⟨N, 3, none⟩ d).heap[N]? = some (.cells #[a, b, c, d] T (0, 0)) := by
  have h1 : (w.setCell ⟨N, 0, none⟩ a).heap[N]? = some (.cells #[a, y, z, u] T (0, 0)) := blk_set h
  have h2 : ((w.setCell ⟨N, 0, none⟩ a).setCell ⟨N, 1, none⟩ b).heap[N]? = some (.cells #[a, b, z, u] T (0, 0)) := blk_set h1
  have h3 : (((w.setCell ⟨N, 0, none⟩ a).setCell ⟨N, 1, none⟩ b).setCell ⟨N, 2, none⟩ c).heap[N]? = some (.cells #[a, b, c, u] T (0, 0)) := blk_set h2
  exact blk_set h3

set_option maxRecDepth 100000 in
theorem pbegin_any (w : World) (k : Ky) (hk : KeyOk k) : Calls Try.prog 62 #[keyV k] w fun e w' => e = .returned (stV (initS k.a k.b)) ∧ Below w.heap.size w w' := by
  obtain ⟨id, A, B⟩ := k
  obtain ⟨-, hA, hB⟩ := hk
  simp only at hA hB
  obtain ⟨x0, hx0⟩ : ∃ x, x = A ^^^ 8317987319222330741 := ⟨_, rfl⟩
  obtain ⟨x1, hx1⟩ : ∃ x, x = B ^^^ 7237128888997146477 := ⟨_, rfl⟩
  obtain ⟨x2, hx2⟩ : ∃ x, x = A ^^^ 7816392313619706465 := ⟨_, rfl⟩
  obtain ⟨x3, hx3⟩ : ∃ x, x = B ^^^ 8387220255154660723 := ⟨_, rfl⟩
  have e0 : bits .xor .u64 (A : Int) 8317987319222330741 = (x0 : Int) := by rw [hx0]; exact bits_xor_u64_nat _ 8317987319222330741 hA (by decide)
  have e1 : bits .xor .u64 (B : Int) 7237128888997146477 = (x1 : Int) := by rw [hx1]; exact bits_xor_u64_nat _ 7237128888997146477 hB (by decide)
  have e2 : bits .xor .u64 (A : Int) 7816392313619706465 = (x2 : Int) := by rw [hx2]; exact bits_xor_u64_nat _ 7816392313619706465 hA (by decide)
  have e3 : bits .xor .u64 (B : Int) 8387220255154660723 = (x3 : Int) := by rw [hx3]; exact bits_xor_u64_nat _ 8387220255154660723 hB (by decide)
  have IS : Hid (initS A B = ⟨x0, x1, x2, x3⟩) := by unfold Hid initS; rw [hx0, hx1, hx2, hx3]
  clear hx0 hx1 hx2 hx3
  unfold keyV
  go_enter Try.func62, Try.ntmps62
  go_wp2_with fail
  refine bodyPost_ret (results_st rfl _ _ (w.heap.size + 1) ⟨x0, x1, x2, x3⟩ rfl (heap_alloc2_new _ _ _)) rfl ?_
  exact ⟨by rw [← IS.out], ((Below.refl _ _).alloc (Nat.le_refl _) _).alloc (by simp) _⟩

set_option maxRecDepth 100000 in
set_option maxHeartbeats 4000000 in
theorem ptake_any (w : World) (B : Nat) (s : St) (m : Nat) (hs : s.ok) (hb : StP w B s) (hm : W64 m) :
    Calls Try.prog 63 #[.pointer (some ⟨B, 0, none⟩), .int .u64 (m : Nat)] w fun e w' => e = .returned (.tuple #[]) ∧ StP w' B (takeS s m) ∧ OnlyB B w w' := by
  obtain ⟨a, b, c, d⟩ := s
  obtain ⟨wa, wb, wc, wd⟩ := hs
  simp only at wa wb wc wd
  have h0 : w.heap[B]? = some (.cells #[.int .u64 (a : Nat), .int .u64 (b : Nat), .int .u64 (c : Nat), .int .u64 (d : Nat)] 92 (0, 0)) := hb
  obtain ⟨d1, hd1⟩ : ∃ x, x = d ^^^ m := ⟨_, rfl⟩
  have ev : bits .xor .u64 (d : Int) (m : Int) = (d1 : Int) := by rw [hd1]; exact bits_xor_u64_nat _ _ wd hm
  have S1 : Hid (inD ⟨a, b, c, d⟩ m = ⟨a, b, c, d1⟩) := by unfold Hid; rw [hd1]; rfl
  have OK1 : Hid (St.ok ⟨a, b, c, d1⟩) := ⟨wa, wb, wc, by rw [hd1]; exact xor_lt wd hm⟩
  have H0 := Lib.hid h0
  have WM := Lib.hid hm
  have O0 := Lib.hid (OnlyB.refl B w)
  have c1 := blk_cell (o := 3) H0.out
  clear hb hm wa wb wc wd h0 hd1
  go_enter Try.func63, Try.ntmps63
  go_wp2_with fail
  go_still_tail 8, (by kernel_rfl)
  change wpList _ _ _ _ _ w.drew
  have G0 := Lib.hid (show w.drew.heap[B]? = _ from H0.out)
  have Q0 := Lib.hid O0.out.drew
  clear c1
  have c1 := blk_cell (o := 3) G0.out
  have f1 := blk_free (o := 3) G0.out
  generalize w.drew = v0 at *
  go_wp2_with fail
  have H1 := Lib.hid (show StP (v0.setCell ⟨B, 3, none⟩ (.int .u64 (d1 : Nat))) B ⟨a, b, c, d1⟩ from blk_set (o := 3) (u := .int .u64 (d1 : Nat)) G0.out)
  have O1 := Lib.hid (Q0.out.set 3 (.int .u64 (d1 : Nat)))
  clear c1 f1 ev
  generalize v0.setCell ⟨B, 3, none⟩ (.int .u64 (d1 : Nat)) = v1 at *
  refine (pturn6_any v1 B _ 2 OK1.out H1.out (by decide)).mono ?_; rintro e v3 ⟨rfl, st3, on2⟩
  have O3 := Lib.hid (O1.out.trans on2)
  have ok3 := roundsK_ok OK1.out 2
  rw [← S1.out] at st3 ok3
  have NXT : Hid (takeS ⟨a, b, c, d⟩ m = inA (roundsK (inD ⟨a, b, c, d⟩ m) 2) m) := rfl
  generalize roundsK (inD ⟨a, b, c, d⟩ m) 2 = s3 at *
  obtain ⟨a3, b3, c3', d3⟩ := s3
  have H3 : Hid (v3.heap[B]? = some (.cells #[.int .u64 (a3 : Nat), .int .u64 (b3 : Nat), .int .u64 (c3' : Nat), .int .u64 (d3 : Nat)] 92 (0, 0))) := st3
  obtain ⟨a4, ha4⟩ : ∃ x, x = a3 ^^^ m := ⟨_, rfl⟩
  have ev : bits .xor .u64 (a3 : Int) (m : Int) = (a4 : Int) := by rw [ha4]; exact bits_xor_u64_nat _ _ ok3.a WM.out
  have S4 : Hid (takeS ⟨a, b, c, d⟩ m = ⟨a4, b3, c3', d3⟩) := by unfold Hid; rw [NXT.out, ha4]; rfl
  have c1 := blk_cell (o := 0) H3.out
  clear st3 on2 ok3 ha4 NXT S1
  go_wp2_with fail
  go_still_tail 8, (by kernel_rfl)
  change wpList _ _ _ _ _ v3.drew
  have G3 := Lib.hid (show v3.drew.heap[B]? = _ from H3.out)
  have Q3 := Lib.hid O3.out.drew
  clear c1
  have c1 := blk_cell (o := 0) G3.out
  have f1 := blk_free (o := 0) G3.out
  generalize v3.drew = v4 at *
  have H4 : Hid (StP (v4.setCell ⟨B, 0, none⟩ (.int .u64 (a4 : Nat))) B (takeS ⟨a, b, c, d⟩ m)) := by
    unfold Hid
    rw [S4.out]
    exact blk_set (o := 0) (u := .int .u64 (a4 : Nat)) G3.out
  have O4 := Lib.hid (Q3.out.set 0 (.int .u64 (a4 : Nat)))
  clear S4
  go_wp2
  go_end0
  exact ⟨rfl, H4.out, O4.out⟩

set_option maxRecDepth 100000 in
set_option maxHeartbeats 4000000 in
theorem pend_any (w : World) (B : Nat) (s : St) (hs : s.ok) (hb : StP w B s) (T : Nat) (hT : T = endN (fourN (inC s))) :
    Calls Try.prog 64 #[.pointer (some ⟨B, 0, none⟩)] w fun e w' => e = .returned (.int .u64 (T : Nat)) ∧ OnlyB B w w' := by
  obtain ⟨a, b, c, d⟩ := s
  have okc := inC_ok hs
  obtain ⟨wa, wb, wc, wd⟩ := hs
  simp only at wa wb wc wd
  have h0 : w.heap[B]? = some (.cells #[.int .u64 (a : Nat), .int .u64 (b : Nat), .int .u64 (c : Nat), .int .u64 (d : Nat)] 92 (0, 0)) := hb
  obtain ⟨c1', hc1⟩ : ∃ x, x = c ^^^ 255 := ⟨_, rfl⟩
  have ev : bits .xor .u64 (c : Int) 255 = (c1' : Int) := by rw [hc1]; exact bits_xor_u64_nat _ 255 wc (by decide)
  have S1 : Hid (inC ⟨a, b, c, d⟩ = ⟨a, b, c1', d⟩) := by unfold Hid; rw [hc1]; rfl
  have H0 := Lib.hid h0
  have OKC := Lib.hid okc
  have O0 := Lib.hid (OnlyB.refl B w)
  have TG := Lib.hid hT
  have q1 := blk_cell (o := 2) H0.out
  clear hb wa wb wc wd h0 hc1 okc hT
  go_enter Try.func64, Try.ntmps64
  go_wp2_with fail
  go_still_tail 7, (by kernel_rfl)
  change wpList _ _ _ _ _ w.drew
  have G0 := Lib.hid (show w.drew.heap[B]? = _ from H0.out)
  have Q0 := Lib.hid O0.out.drew
  clear q1
  have q1 := blk_cell (o := 2) G0.out
  have f1 := blk_free (o := 2) G0.out
  generalize w.drew = v0 at *
  go_wp2_with fail
  have H1 := Lib.hid (show StP (v0.setCell ⟨B, 2, none⟩ (.int .u64 (c1' : Nat))) B ⟨a, b, c1', d⟩ from blk_set (o := 2) (u := .int .u64 (c1' : Nat)) G0.out)
  have O1 := Lib.hid (Q0.out.set 2 (.int .u64 (c1' : Nat)))
  rw [← S1.out] at H1
  clear q1 f1 ev
  generalize v0.setCell ⟨B, 2, none⟩ (.int .u64 (c1' : Nat)) = v1 at *
  refine (pturn6_any v1 B _ 4 OKC.out H1.out (by decide)).mono ?_; rintro e v3 ⟨rfl, st3, on2⟩
  have O3 := Lib.hid (O1.out.trans on2)
  have ok3 := roundsK_ok OKC.out 4
  rw [show roundsK (inC ⟨a, b, c, d⟩) 4 = fourN (inC ⟨a, b, c, d⟩) from rfl] at st3 ok3
  generalize fourN (inC ⟨a, b, c, d⟩) = s3 at *
  obtain ⟨a3, b3, c3, d3⟩ := s3
  have H3 : Hid (v3.heap[B]? = some (.cells #[.int .u64 (a3 : Nat), .int .u64 (b3 : Nat), .int .u64 (c3 : Nat), .int .u64 (d3 : Nat)] 92 (0, 0))) := st3
  obtain ⟨y1, hy1⟩ : ∃ x, x = a3 ^^^ b3 := ⟨_, rfl⟩
  obtain ⟨y2, hy2⟩ : ∃ x, x = y1 ^^^ c3 := ⟨_, rfl⟩
  obtain ⟨y3, hy3⟩ : ∃ x, x = y2 ^^^ d3 := ⟨_, rfl⟩
  have f1 : bits .xor .u64 (a3 : Int) (b3 : Int) = (y1 : Int) := by rw [hy1]; exact bits_xor_u64_nat _ _ ok3.a ok3.b
  have wy1 : W64 y1 := by rw [hy1]; exact xor_lt ok3.a ok3.b
  have f2 : bits .xor .u64 (y1 : Int) (c3 : Int) = (y2 : Int) := by rw [hy2]; exact bits_xor_u64_nat _ _ wy1 ok3.c
  have wy2 : W64 y2 := by rw [hy2]; exact xor_lt wy1 ok3.c
  have f3 : bits .xor .u64 (y2 : Int) (d3 : Int) = (y3 : Int) := by rw [hy3]; exact bits_xor_u64_nat _ _ wy2 ok3.d
  have TG' : Hid ((y3 : Nat) = T) := by
    unfold Hid
    rw [TG.out, hy3, hy2, hy1]
    rfl
  have k0 := blk_cell (o := 0) H3.out
  have k1 := blk_cell (o := 1) H3.out
  have k2 := blk_cell (o := 2) H3.out
  have k3 := blk_cell (o := 3) H3.out
  clear st3 on2 ok3 hy1 hy2 hy3 wy1 wy2 TG S1
  go_wp2_with fail
  go_quiet (fail)
  go_wp2
  go_ret
  exact ⟨ret_int (by rw [TG'.out]), O3.out.drewN _⟩
end Go.Proofs.Ytfnidehbibfclaa
/- Layer 6 (mac): a tag byte by byte, as functions of lists. -/
namespace Go.Proofs.Ytfnidehbibfclaa
open Go.ChangeShapes Go.WideShapes Go.ChangeAt Go.RowKit OctM

/-- What of a word has come when M bytes have come. -/
def partW (ds : List Nat) (M : Nat) : Nat := leN ((ds.drop (8 * (M / 8))).take (M % 8))
theorem leN_snoc : ∀ (l : List Nat) (b : Nat), leN (l ++ [b]) = leN l + b * 256 ^ l.length
  | [], b => by show 0 * 256 + b = 0 + b * 1; omega
  | x :: l, b => by
    show leN (l ++ [b]) * 256 + x = leN l * 256 + x + b * 256 ^ (l.length + 1)
    rw [leN_snoc l b, Nat.add_mul, Nat.pow_succ, Nat.mul_assoc]
    omega
theorem partW_lt {ds : List Nat} (h : Byt ds) (M : Nat) : partW ds M < 256 ^ (M % 8) := by
  have a := leN_lt (byt_take (byt_drop h (8 * (M / 8))) (M % 8))
  refine Nat.lt_of_lt_of_le a (Nat.pow_le_pow_right (by decide) ?_)
  rw [List.length_take]
  omega
theorem partW_zero (ds : List Nat) {M : Nat} (h : M % 8 = 0) : partW ds M = 0 := by
  unfold partW
  rw [h]
  rfl
/-- One byte more: what has come of the word, joined. -/
theorem partW_join (ds : List Nat) {M : Nat} (hM : M < ds.length) : partW ds M + ds.getD M 0 * 256 ^ (M % 8) = leN ((ds.drop (8 * (M / 8))).take (M % 8 + 1)) := by
  have l1 : M % 8 < (ds.drop (8 * (M / 8))).length := by rw [List.length_drop]; omega
  rw [List.take_succ_eq_append_getElem l1, leN_snoc]
  have e : ((ds.drop (8 * (M / 8))).take (M % 8)).length = M % 8 := by rw [List.length_take]; omega
  rw [e]
  unfold partW
  congr 2
  rw [List.getElem_drop, List.getD_eq_getElem?_getD, List.getElem?_eq_getElem hM, Option.getD_some]
  congr 1
  omega
theorem partW_more (ds : List Nat) {M : Nat} (hM : M < ds.length) (h : ¬ (M + 1) % 8 = 0) : partW ds M + ds.getD M 0 * 256 ^ (M % 8) = partW ds (M + 1) := by
  rw [partW_join ds hM]
  unfold partW
  rw [show (M + 1) / 8 = M / 8 by omega, show (M + 1) % 8 = M % 8 + 1 by omega]
theorem fullN_more (ds : List Nat) {M : Nat} (h : ¬ (M + 1) % 8 = 0) : fullN ds ((M + 1) / 8) = fullN ds (M / 8) := by
  rw [show (M + 1) / 8 = M / 8 by omega]
theorem fullN_word (ds : List Nat) {M : Nat} (hM : M < ds.length) (h : (M + 1) % 8 = 0) : fullN ds ((M + 1) / 8) = fullN ds (M / 8) ++ [partW ds M + ds.getD M 0 * 256 ^ (M % 8)] := by
  rw [partW_join ds hM, show (M + 1) / 8 = M / 8 + 1 by omega, fullN_succ, show M % 8 + 1 = 8 by omega]
theorem join_lt {ds : List Nat} (hy : Byt ds) {M b : Nat} (hb : b < 256) : partW ds M + b * 256 ^ (M % 8) < 18446744073709551616 := by
  have a := partW_lt hy M
  obtain ⟨P, hP⟩ : ∃ P, P = 256 ^ (M % 8) := ⟨_, rfl⟩
  have q : P * 256 ≤ 18446744073709551616 := by
    rw [hP, ← Nat.pow_succ]
    exact Nat.pow_le_pow_right (n := 256) (by decide) (show M % 8 + 1 ≤ 8 by omega)
  rw [← hP] at a ⊢
  have : b * P ≤ 255 * P := Nat.mul_le_mul_right _ (by omega)
  omega
theorem pow_shift (r : Nat) : (256 : Nat) ^ r = 2 ^ (8 * r) := by rw [show (256 : Nat) = 2 ^ 8 by decide, ← Nat.pow_mul]
/-- .. as the program joins it. -/
theorem or_join {ds : List Nat} (hy : Byt ds) (M b : Nat) (hb : b < 256) (S : Nat) (hS : S = 8 * (M % 8)) :
    bits .or .u64 (partW ds M : Int) (IntKind.u64.wrap ((b : Int) * 2 ^ S)) = ((partW ds M + b * 256 ^ (M % 8) : Nat) : Int) := by
  have a := partW_lt hy M
  have j := join_lt (M := M) hy hb
  have e1 : (b : Int) * 2 ^ S = ((b * 256 ^ (M % 8) : Nat) : Int) := by rw [pow_shift, ← hS]; simp
  have e2 : IntKind.u64.wrap ((b * 256 ^ (M % 8) : Nat) : Int) = ((b * 256 ^ (M % 8) : Nat) : Int) := by rw [IntKind.wrap_u64]; omega
  rw [e1, e2, u64_or_nat _ _ (by omega) (by omega), Nat.or_comm]
  rw [pow_shift] at a ⊢
  rw [nat_join (8 * (M % 8)) _ _ (Nat.mul_mod_left _ _) a, Nat.add_comm]
/-- The last word, as the program joins it. -/
theorem or_last {ds : List Nat} (hy : Byt ds) : bits .or .u64 (partW ds ds.length : Int) (IntKind.u64.wrap ((ds.length : Int) * 72057594037927936)) = ((lastN ds : Nat) : Int) := by
  have a := partW_lt hy ds.length
  have a2 : partW ds ds.length < 72057594037927936 := by
    refine Nat.lt_of_lt_of_le a ?_
    exact Nat.pow_le_pow_right (n := 256) (by decide) (show ds.length % 8 ≤ 7 by omega)
  have e : IntKind.u64.wrap ((ds.length : Int) * 72057594037927936) = ((ds.length % 256 * 72057594037927936 : Nat) : Int) := by rw [IntKind.wrap_u64]; omega
  rw [e, u64_or_nat _ _ (by omega) (by omega), Nat.or_comm, nat_join 56 _ _ (by omega) (by omega)]
  unfold lastN partW
  have f : (ds.drop (8 * (ds.length / 8))).take (ds.length % 8) = ds.drop (8 * (ds.length / 8)) := List.take_of_length_le (by rw [List.length_drop]; omega)
  rw [f, Nat.add_comm]
theorem joinP_get {ps : List Prt} {k : Nat} {q : Prt} (hq : ps[k]? = some q) {j : Nat} (hj : j < q.ds.length) : (joinP ps).getD ((joinP (ps.take k)).length + j) 0 = q.ds.getD j 0 ∧ (joinP (ps.take k)).length + j < (joinP ps).length := by
  obtain ⟨h1, rfl⟩ := List.getElem?_eq_some_iff.1 hq
  have e : ps = ps.take k ++ (ps[k] :: ps.drop (k + 1)) := by rw [← List.drop_eq_getElem_cons h1, List.take_append_drop]
  have e2 : joinP ps = joinP (ps.take k) ++ (ps[k].ds ++ joinP (ps.drop (k + 1))) := by
    conv => lhs; rw [e]
    unfold joinP
    rw [List.flatMap_append, List.flatMap_cons]
  rw [e2]
  refine ⟨?_, by simp only [List.length_append]; omega⟩
  rw [List.getD_eq_getElem?_getD, List.getElem?_append_right (by omega), Nat.add_sub_cancel_left, List.getElem?_append_left hj, ← List.getD_eq_getElem?_getD]
theorem tagN_last (A B : Nat) (ds : List Nat) : tagN A B ds = endN (fourN (inC (takeS (sipS A B (fullN ds (ds.length / 8))) (lastN ds)))) := by
  unfold tagN wordsN
  rw [sip_snoc]
theorem full_ok {A B : Nat} (hA : W64 A) (hB : W64 B) {ds : List Nat} (hy : Byt ds) {M : Nat} (hM : M ≤ ds.length) : (sipS A B (fullN ds (M / 8))).ok := by
  refine sip_ok hA hB fun m hm => words_w64 hy m ?_
  unfold wordsN
  refine List.mem_append.2 (.inl ?_)
  unfold fullN at hm ⊢
  obtain ⟨i, hi, rfl⟩ := List.mem_map.1 hm
  exact List.mem_map.2 ⟨i, List.mem_range.2 (by have := List.mem_range.1 hi; omega), rfl⟩
end Go.Proofs.Ytfnidehbibfclaa
/- Layer 6 (mac), the program's own tag. -/
namespace Go.Proofs.Ytfnidehbibfclaa
open Go.ChangeShapes Go.WideShapes Go.ChangeAt Go.RowKit OctM

/-- M bytes have been taken in. -/
structure TagRel (K : Nat) (w3 : World) (A B : Nat) (ds : List Nat) (M : Nat) (wr : World) : Prop where
  st : StP wr K (sipS A B (fullN ds (M / 8)))
  on : OnlyB K w3 wr
theorem tag_more {K : Nat} {w3 wr : World} {A B : Nat} {ds : List Nat} {M : Nat} (h : TagRel K w3 A B ds M wr) (g : ¬ (M + 1) % 8 = 0) : TagRel K w3 A B ds (M + 1) wr := ⟨by rw [fullN_more ds g]; exact h.st, h.on⟩
theorem tag_word {K : Nat} {w3 wr w' : World} {A B : Nat} {ds : List Nat} {M x : Nat} (h : TagRel K w3 A B ds M wr) (hM : M < ds.length) (g : (M + 1) % 8 = 0) (hx : x = partW ds M + ds.getD M 0 * 256 ^ (M % 8))
    (hs : StP w' K (takeS (sipS A B (fullN ds (M / 8))) x)) (ho : OnlyB K wr w') : TagRel K w3 A B ds (M + 1) w' := ⟨by rw [fullN_word ds hM g, sip_snoc, ← hx]; exact hs, h.on.trans ho⟩
theorem byt_get {ds : List Nat} (hy : Byt ds) {M : Nat} (h : M < ds.length) : ds.getD M 0 < 256 := by
  rw [List.getD_eq_getElem?_getD, List.getElem?_eq_getElem h]
  exact hy _ (List.getElem_mem _)

set_option maxRecDepth 100000 in
set_option maxHeartbeats 16000000 in
theorem ptag_any (w : World) (k : Ky) (p : Option Addr) (n c : Nat) (ps : List Prt) (hk : KeyOk k) (hp : HoldsP w p n c ps) (hy : ∀ q ∈ ps, Byt q.ds) (hn : n ≤ 1000) (ht : totalP ps ≤ 2000000) :
    Calls Try.prog 34 #[keyV k, .slice p n c] w fun e w' => e = .returned (.int .u64 (tagN k.a k.b (joinP ps) : Nat)) ∧ Below w.heap.size w w' := by
  obtain ⟨id, A, B⟩ := k
  have hKA : W64 A := hk.2.1
  have hKB : W64 B := hk.2.2
  obtain ⟨ds, hds⟩ : ∃ ds, ds = joinP ps := ⟨_, rfl⟩
  have BY : Byt ds := by rw [hds]; exact joinP_byt hy
  have LS := Lib.hid hp.lens
  have LN := Lib.hid hp.len
  have DT : ds.length ≤ 2000000 := by rw [hds, joinP_len LS.out]; exact ht
  have OKS : Hid (∀ M, M ≤ ds.length → (sipS A B (fullN ds (M / 8))).ok) := fun M hM => full_ok hKA hKB BY hM
  have GET : Hid (∀ (k : Nat) (q : Prt) (j : Nat), ps[k]? = some q → j < q.ds.length → ds.getD ((joinP (ps.take k)).length + j) 0 = q.ds.getD j 0 ∧ (joinP (ps.take k)).length + j < ds.length) := fun k q j h1 h2 => by rw [hds]; exact joinP_get h1 h2
  have NXP : Hid (∀ (k : Nat) (q : Prt), ps[k]? = some q → (joinP (ps.take (k + 1))).length = (joinP (ps.take k)).length + q.n) := fun k q h => by
    have e1 : ps.take (k + 1) = ps.take k ++ [q] := by
      obtain ⟨h1, rfl⟩ := List.getElem?_eq_some_iff.1 h
      rw [List.take_succ_eq_append_getElem h1]
    rw [e1, joinP_snoc, List.length_append, LS.out q (List.mem_of_getElem? h)]
  have ALL : Hid ((joinP (ps.take n)).length = ds.length) := by
    unfold Hid
    rw [List.take_of_length_le (by rw [LN.out]; exact Nat.le_refl _), hds]
  have BB : Hid (Byt ds) := BY
  have DL := Lib.hid DT
  have HP := Lib.hid hp
  have HN := Lib.hid hn
  have nb : (n : Int) ≤ 1000 := by omega
  have PB := Lib.hid (fun v => pbegin_any v ⟨id, A, B⟩ hk)
  have TG : Hid (tagN A B ds = endN (fourN (inC (takeS (sipS A B (fullN ds (ds.length / 8))) (lastN ds))))) := tagN_last A B ds
  have LW : Hid (W64 (lastN ds)) := lastN_lt BY
  have OL : Hid (bits .or .u64 (partW ds ds.length : Int) (IntKind.u64.wrap ((ds.length : Int) * 72057594037927936)) = ((lastN ds : Nat) : Int)) := or_last BY
  have FINV : Hid (tagN A B (joinP ps) = tagN A B ds) := by rw [hds]; rfl
  simp only
  rw [FINV.out]
  unfold keyV at *
  simp only at *
  clear hk hp hy hn ht hKA hKB hds BY DT FINV
  go_enter Try.func34, Try.ntmps34
  go_wp2_with fail
  refine (PB.out _).mono ?_; rintro e w1 ⟨rfl, l1⟩
  have LA : Hid (Below w.heap.size w w1) := ((Below.refl _ _).alloc (Nat.le_refl _) _).trans (l1.mono (by simp))
  clear l1
  have S0 : Hid (sipS A B (fullN ds (0 / 8)) = initS A B) := rfl
  generalize initS A B = s0 at *
  obtain ⟨a0, b0, c0, d0⟩ := s0
  unfold stV
  simp only
  obtain ⟨K, hK⟩ : ∃ K, K = w1.heap.size := ⟨_, rfl⟩
  have ST0 : Hid (StP (w1.alloc (.cells #[.int .u64 (a0 : Nat), .int .u64 (b0 : Nat), .int .u64 (c0 : Nat), .int .u64 (d0 : Nat)] 92)) K (sipS A B (fullN ds (0 / 8)))) := by
    unfold Hid
    rw [S0.out, hK]
    exact heap_alloc_new w1 _
  have LB : Hid (Below w.heap.size w (w1.alloc (.cells #[.int .u64 (a0 : Nat), .int .u64 (b0 : Nat), .int .u64 (c0 : Nat), .int .u64 (d0 : Nat)] 92))) := LA.out.alloc LA.out.size _
  have KW : Hid (w.heap.size ≤ K) := by unfold Hid; rw [hK]; exact LA.out.size
  clear S0 PB
  go_upto_region 2 with fail
  rw [← hK]
  clear hK LA
  generalize (w1.alloc (.cells #[.int .u64 (a0 : Nat), .int .u64 (b0 : Nat), .int .u64 (c0 : Nat), .int .u64 (d0 : Nat)] 92)) = w3 at *
  have PZ : Hid ((0 : Int) = (partW ds 0 : Nat)) := by unfold Hid; rw [partW_zero ds rfl]; rfl
  go_wp2_with fail
  go_loopw [6, 7, 16] (fun x y i wr => ∃ k M : Nat, x = .int .u64 (partW ds M : Nat) ∧ y = .int .i64 (M : Nat) ∧ i = .int .i64 k ∧ Hid (k ≤ n) ∧ Hid (M = (joinP (ps.take k)).length) ∧ Hid (TagRel K w3 A B ds M wr)) (fun _ _ i _ => 2000 - (intOf i).toNat)
  case atStart => exact ⟨0, 0, by rw [← PZ.out], rfl, rfl, Nat.zero_le _, rfl, ST0.out, OnlyB.refl _ _⟩
  case round =>
    obtain ⟨k, M, rfl, rfl, rfl, hk, hM, hR⟩ := hrel
    have kb : (k : Int) ≤ 1000 := by have := hk.out; have := HN.out; omega
    by_cases g : k < n
    · have g' : (k : Int) < (n : Int) := by omega
      have G : Hid (k + 1 ≤ n) := g
      have LR : Hid (Below w.heap.size w wr) := LB.out.trans (hR.out.on.low _ KW.out)
      obtain ⟨a, q, rfl, hq, c0, hh⟩ := (HP.out.below LR.out).at g
      have GQ := Lib.hid (fun j => GET.out k q j hq)
      have NQ := Lib.hid (NXP.out k q hq)
      have LQ := Lib.hid (LS.out q (List.mem_of_getElem? hq))
      obtain ⟨qp, qn, qc, qd⟩ := q
      simp only at *
      rw [← hM.out] at GQ NQ
      have HH := Lib.hid (hh.below (Below.refl _ _))
      have HHW : Hid (∀ wv, OnlyB K w3 wv → Holds wv qp qn qc (valsN .u8 qd)) := fun wv ho => by
        obtain ⟨a', q', ea, hq', _, hh'⟩ := (HP.out.below (LB.out.trans (ho.low _ KW.out))).at g
        rw [hq] at hq'
        injection hq' with hq'
        subst hq'
        exact hh'
      have QB : Hid (qn ≤ 2000000) := by
        unfold Hid
        have a1 := DL.out
        rcases Nat.eq_zero_or_pos qn with z | z
        · omega
        · have := (GQ.out (qn - 1) (by rw [LQ.out]; omega)).2
          omega
      have MB : Hid (M + qn ≤ ds.length) := by
        unfold Hid
        rcases Nat.eq_zero_or_pos qn with z | z
        · have e := joinP_len (ps := ps.take k) (fun x hx => LS.out x (List.mem_of_mem_take hx))
          have t := totalP_take ps k
          have e2 := joinP_len (ps := ps) LS.out
          have e3 : (joinP ps).length = ds.length := by have := ALL.out; rwa [List.take_of_length_le (by rw [LN.out]; exact Nat.le_refl _)] at this
          have := hM.out
          omega
        · have := (GQ.out (qn - 1) (by rw [LQ.out]; omega)).2
          omega
      have qb : (qn : Int) ≤ 2000000 := by have := QB.out; omega
      have R0 := Lib.hid hR.out
      have gk : Hid (decide (k < n) = true) := decide_eq_true g
      clear hk hM hR g hq hh
      go_wp2_with fail
      try simp only [gk.out]
      go_loopw [6, 7, 22] (fun x y j wv => ∃ i M' : Nat, x = .int .u64 (partW ds M' : Nat) ∧ y = .int .i64 (M' : Nat) ∧ j = .int .i64 i ∧ Hid (i ≤ qn) ∧ Hid (M' = M + i) ∧ Hid (TagRel K w3 A B ds M' wv)) (fun _ _ j _ => 3000000 - (intOf j).toNat)
      case atStart => exact ⟨0, M, rfl, rfl, rfl, Nat.zero_le _, rfl, R0.out⟩
      case round =>
        obtain ⟨i, M', rfl, rfl, rfl, hi, hM', hR⟩ := hrel
        have ib : (i : Int) ≤ 2000000 := by have := hi.out; have := QB.out; omega
        by_cases h : i < qn
        · have h' : (i : Int) < (qn : Int) := by omega
          have HI : Hid (i + 1 ≤ qn) := h
          obtain ⟨a2, ea2, cz⟩ := (HHW.out _ hR.out.on).atN h
          subst ea2
          have GG := GQ.out i (by rw [LQ.out]; exact h)
          rw [← hM'.out] at GG
          obtain ⟨b, hb⟩ : ∃ b, b = qd.getD i 0 := ⟨_, rfl⟩
          rw [← hb] at cz GG
          have bb : b < 256 := by rw [← GG.1]; exact byt_get BB.out GG.2
          obtain ⟨r, hr⟩ : ∃ r, r = M' % 8 := ⟨_, rfl⟩
          obtain ⟨S, hS⟩ : ∃ S, S = 8 * r := ⟨_, rfl⟩
          obtain ⟨x, hx⟩ : ∃ x, x = partW ds M' + b * 256 ^ (M' % 8) := ⟨_, rfl⟩
          have OR := or_join BB.out M' b bb S (by rw [hS, hr])
          rw [← hx] at OR
          have XW : W64 x := by rw [hx]; exact join_lt BB.out bb
          obtain ⟨y, hy⟩ : ∃ y, y = partW ds M' := ⟨_, rfl⟩
          obtain ⟨M1, hM1⟩ : ∃ M1, M1 = M' + 1 := ⟨_, rfl⟩
          obtain ⟨r1, hr1⟩ : ∃ r1, r1 = M1 % 8 := ⟨_, rfl⟩
          have mb : (M' : Int) ≤ 2000000 := by have := DL.out; have := GG.2; omega
          have m1b : (M1 : Int) ≤ 2000001 := by omega
          have e1 : (M' : Int).tmod 8 = (r : Int) := by rw [Int.tmod_eq_emod_of_nonneg (by omega)]; omega
          have e1' : (M' : Int) % 8 = (r : Int) := by omega
          have e2 : 8 * (r : Int) = (S : Int) := by omega
          have e3 : (M' : Int) + 1 = (M1 : Int) := by omega
          have e4 : (M1 : Int).tmod 8 = (r1 : Int) := by rw [Int.tmod_eq_emod_of_nonneg (by omega)]; omega
          have e4' : (M1 : Int) % 8 = (r1 : Int) := by omega
          have sb : (S : Int) < 64 := by omega
          have rb : (r : Int) < 8 := by omega
          have r1b : (r1 : Int) < 8 := by omega
          have wb : IntKind.u64.wrap (b : Int) = (b : Int) := by rw [IntKind.wrap_u64]; omega
          rw [← hy] at OR ⊢
          have EM : Hid (M1 = M + (i + 1)) := by unfold Hid; have := hM'.out; omega
          by_cases z : r1 = 0
          · have z8 : (M' + 1) % 8 = 0 := by omega
            have NX : Hid (∀ w', StP w' K (takeS (sipS A B (fullN ds (M' / 8))) x) → OnlyB K wr w' → TagRel K w3 A B ds M1 w') := fun w' h1 h2 => by
              rw [hM1]
              exact tag_word hR.out GG.2 z8 (by rw [hx, GG.1]) h1 h2
            have ST := Lib.hid hR.out.st
            have OK' := Lib.hid (OKS.out M' (by have := GG.2; omega))
            have XW' := Lib.hid XW
            have PZ1 : Hid ((0 : Int) = (partW ds M1 : Nat)) := by unfold Hid; rw [partW_zero ds (by rw [hM1]; exact z8)]; rfl
            subst z
            clear hi hM' hR h GG hb bb hr hS hx hy hM1 hr1 XW z8
            go_wp2_with fail
            refine (ptake_any _ K _ x OK'.out ST.out XW'.out).mono ?_; rintro e w' ⟨rfl, st, on⟩
            have NR := Lib.hid (NX.out _ st on)
            clear st on NX ST
            go_wp2
            go_roundw
            case rel => exact ⟨i + 1, M1, by rw [← PZ1.out], rfl, by go_num, HI, EM, NR⟩
            case measure => simp [intOf]; omega
          · have z8 : ¬ (M' + 1) % 8 = 0 := by omega
            have NR : Hid (TagRel K w3 A B ds M1 wr) := by unfold Hid; rw [hM1]; exact tag_more hR.out z8
            have PX : Hid (x = partW ds M1) := by
              unfold Hid
              rw [hx, hM1, ← GG.1]
              exact partW_more ds GG.2 z8
            have z1 : ((r1 : Int) == 0) = false := by simp; omega
            have z2 : ¬ (r1 : Int) = 0 := by omega
            clear hi hM' hR h GG hb bb hr hS hx hy hM1 hr1 XW z8 z
            go_wp2
            go_roundw
            case rel => exact ⟨i + 1, M1, by rw [← PX.out], rfl, by go_num, HI, EM, NR⟩
            case measure => simp [intOf]; omega
        · have h' : (qn : Int) ≤ (i : Int) := by omega
          have EM : Hid (M' = (joinP (ps.take (k + 1))).length) := by
            unfold Hid
            rw [NQ.out, hM'.out]
            have := hi.out
            omega
          have NR := Lib.hid hR.out
          clear hi hM' hR h
          go_wp2
          go_roundw
          case rel => exact ⟨k + 1, M', rfl, rfl, by go_num, G, EM, NR⟩
          case measure => simp [intOf]; omega
    · have g' : (n : Int) ≤ (k : Int) := by omega
      have EM : M = ds.length := by
        have e : k = n := by have := hk.out; omega
        rw [hM.out, e, ALL.out]
      subst EM
      obtain ⟨L, hL⟩ : ∃ L, L = ds.length := ⟨_, rfl⟩
      obtain ⟨y, hy⟩ : ∃ y, y = partW ds ds.length := ⟨_, rfl⟩
      obtain ⟨x, hx⟩ : ∃ x, x = lastN ds := ⟨_, rfl⟩
      have OL' := OL.out
      rw [← hy, ← hx, ← hL] at OL'
      have ST := Lib.hid hR.out.st
      have OK' := Lib.hid (OKS.out ds.length (Nat.le_refl _))
      have LR : Hid (Below w.heap.size w wr) := LB.out.trans (hR.out.on.low _ KW.out)
      have XW : Hid (W64 x) := by unfold Hid; rw [hx]; exact LW.out
      have TG' : Hid (tagN A B ds = endN (fourN (inC (takeS (sipS A B (fullN ds (ds.length / 8))) x)))) := by unfold Hid; rw [TG.out, hx]
      have lb : (L : Int) ≤ 2000000 := by have := DL.out; omega
      have wl : IntKind.u64.wrap (L : Int) = (L : Int) := by rw [IntKind.wrap_u64]; omega
      rw [← hy, ← hL]
      clear hk hM hR g hy hx hL OL
      go_wp2_with fail
      refine (ptake_any _ K _ x OK'.out ST.out XW.out).mono ?_; rintro e w5 ⟨rfl, st, on⟩
      have ok5 := take_ok OK'.out XW.out
      have L5 : Hid (Below w.heap.size w w5) := LR.out.trans (on.low _ KW.out)
      have PE := Lib.hid (pend_any w5 K _ ok5 st _ rfl)
      rw [← TG'.out] at PE
      clear st on ok5 LR
      go_wp2_with fail
      refine PE.out.mono ?_; rintro e w6 ⟨rfl, on⟩
      have L6 : Hid (Below w.heap.size w w6) := L5.out.trans (on.low _ KW.out)
      clear on PE
      go_wp2
      go_ret
      exact ⟨rfl, L6.out⟩

set_option maxRecDepth 100000 in
theorem pright_any (w : World) (k : Ky) (t : Nat) (p : Option Addr) (n c : Nat) (ps : List Prt) (hk : KeyOk k) (hp : HoldsP w p n c ps) (hy : ∀ q ∈ ps, Byt q.ds) (hn : n ≤ 1000) (ht : totalP ps ≤ 2000000) :
    Calls Try.prog 46 #[keyV k, .int .u64 (t : Nat), .slice p n c] w fun e w' => e = .returned (.bool (decide (tagN k.a k.b (joinP ps) = t))) ∧ Below w.heap.size w w' := by
  obtain ⟨id, A, B⟩ := k
  obtain ⟨v, hv⟩ : ∃ v, v = tagN A B (joinP ps) := ⟨_, rfl⟩
  have L1 : Hid (Below w.heap.size w (w.alloc (.cells #[.int .u32 (id : Nat), .int .u64 (A : Nat), .int .u64 (B : Nat)] 29))) := (Below.refl _ _).alloc (Nat.le_refl _) _
  have PT := Lib.hid (ptag_any _ ⟨id, A, B⟩ p n c ps hk (hp.below L1.out) hy hn ht)
  simp only at *
  rw [← hv] at PT ⊢
  have EQ : Hid (((v : Int) == (t : Int)) = decide (v = t)) := by
    unfold Hid
    rw [Bool.eq_iff_iff]
    simp only [beq_iff_eq, decide_eq_true_eq]
    omega
  unfold keyV at *
  simp only at *
  clear hk hp hy hn ht hv
  go_enter Try.func46, Try.ntmps46
  go_wp2_with fail
  refine PT.out.mono ?_; rintro e w1 ⟨rfl, l1⟩
  have L2 := Lib.hid (L1.out.trans (l1.mono L1.out.size))
  clear l1
  go_wp2
  go_ret
  exact ⟨by rw [← EQ.out]; rfl, L2.out⟩

/-- All that the laws ask of the program's tags. -/
theorem tag_code : TagCode := ⟨fun w k p n c ps hk hp hy hn ht => ptag_any w k p n c ps hk hp hy hn ht, fun w k t p n c ps hk _ hp hy hn ht => pright_any w k t p n c ps hk hp hy hn ht⟩
end Go.Proofs.Ytfnidehbibfclaa
