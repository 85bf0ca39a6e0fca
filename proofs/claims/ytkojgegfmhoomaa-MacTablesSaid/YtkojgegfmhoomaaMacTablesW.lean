/- MacTables: the walk. -/
import Derived.Test.YtkojgegfmhoomaaMacTablesM
import Derived.Deep.DeepCutAuto
import Derived.Laws.StructEq
namespace Go.Proofs.Ytkojgegfmhoomaa
open Go.ChangeShapes Go.WideShapes Go.ChangeAt Go.RowKit Go.Maps OctM

set_option maxRecDepth 100000 in
set_option maxHeartbeats 16000000 in
theorem tables6_core (w : World) (id : Nat) (p : Option Addr) (n c m : Nat) (ks : List Ky) (hid : id < 4294967296) (EM : min (n : Int) 20 = (m : Int)) (mc : (m : Int) ≤ (c : Int)) (m2 : m ≤ 20) (hp : HoldsK w p m c ks) (hk : ∀ k ∈ ks, KeyOk k) :
    Calls Try.prog 4 #[.slice p n c, .int .u32 (id : Nat)] w fun e w' => e = .returned (.bool true) ∧ Below w.heap.size w w' := by
  have EI : (if (20 : Int) < (n : Int) then (20 : Int) else (n : Int)) = (m : Int) := by split <;> omega
  have HP := Lib.hid hp
  have KO := Lib.hid hk
  have HID := Lib.hid hid
  have M2 := Lib.hid m2
  have LN := Lib.hid hp.len
  have BN := Lib.hid (both_new ks)
  have mI : (m : Int) ≤ 20 := by omega
  have ZB : Hid (0 + m ≤ 100000) := by unfold Hid; omega
  have O0 : Hid (w.ownsRow w.heap.size 25 3 (.slice none 0 0) 0 (cellsK [])) := World.ownsRow_nil _ _ _ _
  clear hid hp hk m2
  go_enter Try.func4, Try.ntmps4
  go_wp2_with (at_builtin; refine append_keys rfl _ _ rfl w.heap.size _ 0 [] rfl O0.out p m c ks rfl HP.out ZB.out (Nat.le_refl _) ?_)
  intro v1 w1 o1 g1
  have L1 : Hid (Below w.heap.size w w1) := (Below.refl _ _).grown g1 (Nat.le_refl _) (fun j hj => by cases hj)
  have OW := own_where o1
  have OK1 := ownK o1
  try rw [Nat.zero_add] at OW OK1
  obtain ⟨-, p1, c1, rfl, hk1, pb1⟩ := OK1
  replace OW := Lib.hid OW
  have HK1 : Hid (HoldsK w1 p1 m c1 ks) := hk1
  have NB : Hid (m ≤ 100000) := by unfold Hid; have := M2.out; omega
  clear o1 g1 O0 hk1 pb1 EI EM
  go_wp2_with fail
  refine (pnew_any w1 p1 m c1 ks HK1.out KO.out NB.out).mono ?_; intro e1 w2 r1
  rcases BN.out with ⟨E, E0, E1, E9, b1, b2⟩ | ⟨nt, b1, b2⟩
  · obtain ⟨rfl, l2⟩ := b1 _ _ _ r1
    have L2 : Hid (Below w.heap.size w w2) := L1.out.trans (l2.mono L1.out.size)
    have B2 := Lib.hid b2
    clear r1 l2 b1 b2 BN
    go_wp2_with fail
    refine (rnew6_any w2 p m c ks (HP.out.below L2.out) NB.out).mono ?_; intro e2 w3 r2
    obtain ⟨rfl, l3⟩ := B2.out _ _ _ r2
    have L3 : Hid (Below w.heap.size w w3) := L2.out.trans (l3.mono L2.out.size)
    have x1 : (E == E) = true := beq_self_eq_true E
    have x2 : (E == 0) = false := by simp; exact E0
    have x3 : (E != 0) = true := by simp; exact E0
    have x4 : (E != E) = false := by simp
    clear r2 l3 B2
    go_wp2_with fail
    refine (wakes6_any tag_code _).mono ?_; rintro e w4 ⟨rfl, l4⟩
    have L4 := L3.out.trans (l4.mono L3.out.size)
    go_wp2
    go_ret
    exact ⟨rfl, L4⟩
  · obtain ⟨T, b, nD, D, rfl, hT, hD, tD, bT, bb, l2⟩ := b1 _ _ _ r1
    have L2 : Hid (Below w.heap.size w w2) := L1.out.trans (l2.mono L1.out.size)
    have MB := Lib.hid (fun T' p3 c3 w3 => mine_block (T' := T') (p3 := p3) (c3 := c3) (w3 := w3) LN.out L1.out.size OW.out l2 hT hD tD nt bT bb)
    have B2 := Lib.hid b2
    clear r1 l2 b1 b2 BN hT hD tD bT bb nt OW HK1
    go_wp2_with fail
    refine (rnew6_any w2 p m c ks (HP.out.below L2.out) NB.out).mono ?_; intro e2 w3 r2
    obtain ⟨T', p3, c3, rfl, hR, hK, bR, bp, l3⟩ := B2.out _ _ _ r2
    have L3 : Hid (Below w.heap.size w w3) := L2.out.trans (l3.mono L2.out.size)
    obtain ⟨g, GB⟩ := MB.out T' p3 c3 w3 l3 hR hK bR bp
    replace GB := Lib.hid GB
    clear r2 l3 B2 hR hK bR bp MB
    go_wp2_with fail
    go_loopw [10] (fun i wr => ∃ j : Nat, i = .int .i64 j ∧ Hid (j ≤ m) ∧ Hid (OnlyB g w3 wr) ∧ Hid (m = 0 ∨ p1 = some ⟨g, 0, none⟩ ∧ ∃ cur, wr.heap[g]? = some (.cells cur 25 (0, 0)) ∧ m * 3 ≤ cur.size)) (fun i _ => 1000 - (intOf i).toNat)
    case atStart => exact ⟨0, rfl, Nat.zero_le _, OnlyB.refl _ _, GB.out.mine⟩
    case round =>
      obtain ⟨j, rfl, hj, on, mine⟩ := hrel
      have jb : (j : Int) ≤ 20 := by have := hj.out; omega
      by_cases h : j < m
      · have h' : (j : Int) < (m : Int) := by omega
        have HJ : Hid (j + 1 ≤ m) := h
        obtain ⟨rfl, cur, hc, hs⟩ : p1 = some ⟨g, 0, none⟩ ∧ ∃ cur, wr.heap[g]? = some (.cells cur 25 (0, 0)) ∧ m * 3 ≤ cur.size := by
          rcases mine.out with z | z
          · omega
          · exact z
        obtain ⟨u1, hu1⟩ : ∃ u, cur[j * 3 + 1]? = some u := ⟨_, Array.getElem?_eq_getElem (by omega)⟩
        obtain ⟨u0, hu0⟩ : ∃ u, cur[j * 3]? = some u := ⟨_, Array.getElem?_eq_getElem (by omega)⟩
        have z1 : wr.cell? ⟨g, j * 3 + 1, none⟩ = some u1 := (blk_cell hc).trans hu1
        have f1 : wr.frozen? ⟨g, j * 3 + 1, none⟩ = false := blk_free hc
        have hc1 := blk_set (o := j * 3 + 1) (u := .int .u64 0) hc
        have z0 : (wr.setCell ⟨g, j * 3 + 1, none⟩ (.int .u64 0)).cell? ⟨g, j * 3, none⟩ = some u0 := (blk_cell hc1).trans (by rw [Array.set!_eq_setIfInBounds, Array.getElem?_setIfInBounds_ne (by omega)]; exact hu0)
        have f0 : (wr.setCell ⟨g, j * 3 + 1, none⟩ (.int .u64 0)).frozen? ⟨g, j * 3, none⟩ = false := blk_free hc1
        have hc2 := blk_set (o := j * 3) (u := .int .u32 7) hc1
        have NX : Hid (∃ cur, ((wr.setCell ⟨g, j * 3 + 1, none⟩ (.int .u64 0)).setCell ⟨g, j * 3, none⟩ (.int .u32 7)).heap[g]? = some (.cells cur 25 (0, 0)) ∧ m * 3 ≤ cur.size) := ⟨_, hc2, by simp; exact hs⟩
        have ON : Hid (OnlyB g w3 ((wr.setCell ⟨g, j * 3 + 1, none⟩ (.int .u64 0)).setCell ⟨g, j * 3, none⟩ (.int .u32 7))) := (on.out.set _ _).set _ _
        clear hj mine h on hc hc1 hc2 hs hu1 hu0
        go_wp2
        go_roundw
        case rel => exact ⟨j + 1, by go_num, HJ, ON, by first | exact .inr ⟨trivial, NX.out⟩ | exact .inr ⟨rfl, NX.out⟩⟩
        case measure => simp [intOf]; omega
      · have h' : (m : Int) ≤ (j : Int) := by omega
        obtain rfl : j = m := by have := hj.out; omega
        have TA : Hid (TabAt wr T ks) := GB.out.tab wr on.out
        have RA : Hid (RefAt wr T' ks) := GB.out.ref wr on.out
        have LR : Hid (Below w.heap.size w wr) := L3.out.trans (on.out.low _ GB.out.base)
        clear hj mine h on GB L3 L2 L1 ZB jb
        rename World => wA
        obtain ⟨i0, hi, hz0, hz1, hz2⟩ := infoE_of infoU
        have HPA := Lib.hid (HP.out.below LR.out)
        go_upto_region 13 with (fail)
        have LAA : Hid (Below wA.heap.size wA ((wA.alloc (.cells #[.int .u32 (id : Nat), .int .u32 0, .int .u32 7] 22)).alloc (.cells #[.int .u32 4294967295] 22))) := ((Below.refl _ _).alloc (Nat.le_refl _) _).alloc (by simp) _
        have OWI : Hid (((wA.alloc (.cells #[.int .u32 (id : Nat), .int .u32 0, .int .u32 7] 22)).alloc (.cells #[.int .u32 4294967295] 22)).ownsRow wA.heap.size 22 1 (.slice (some ⟨wA.heap.size, 0, none⟩) 3 3) 3 [.int .u32 (id : Nat), .int .u32 0, .int .u32 7]) := own_of_blk (two_olds _ _ _) rfl (by decide) (Nat.le_refl _)
        have HHI : Hid (Holds ((wA.alloc (.cells #[.int .u32 (id : Nat), .int .u32 0, .int .u32 7] 22)).alloc (.cells #[.int .u32 4294967295] 22)) (some ⟨wA.heap.size + 1, 0, none⟩) 1 1 [.int .u32 4294967295]) := blk_holds (two_news _ _ _) rfl (by decide)
        go_wp2_with (at_builtin; refine append_more rfl _ _ 42 rfl wA.heap.size 22 i0 (.int .u32 0) 4 Try.underlying42 hi hz0 hz1 hz2 rfl _ 3 _ rfl OWI.out (some ⟨wA.heap.size + 1, 0, none⟩) 1 1 [.int .u32 4294967295] rfl HHI.out (fun u hu => by obtain rfl := List.mem_singleton.1 hu; rfl) (by decide) (by decide) LAA.out.size ?_)
        intro vI wI oI gI _
        have LI : Hid (Below wA.heap.size wA wI) := LAA.out.grown gI LAA.out.size (fun j hj => (World.ownsRow.lt OWI.out j hj).1)
        have OI : Hid (wI.ownsRow wA.heap.size 22 1 vI (4 + 0) (valsN .u32 (askN id (ks.take 0)))) := oI
        clear oI gI OWI HHI LAA
        go_wp2_with fail
        go_loopw [11, 12] (fun v i wr => ∃ q : Nat, i = .int .i64 q ∧ Hid (q ≤ j) ∧ Hid (wr.ownsRow wA.heap.size 22 1 v (4 + q) (valsN .u32 (askN id (ks.take q)))) ∧ Hid (Below wA.heap.size wA wr)) (fun _ i _ => 1000 - (intOf i).toNat)
        case atStart => exact ⟨0, rfl, Nat.zero_le _, OI, LI⟩
        case round =>
          obtain ⟨q, rfl, hq, own, low⟩ := hrel
          have qb : (q : Int) ≤ 20 := by have := hq.out; omega
          by_cases h : q < j
          · have h' : (q : Int) < (j : Int) := by omega
            have HQ : Hid (q + 1 ≤ j) := h
            obtain ⟨a, k, rfl, hf, c0, -, -⟩ := (HPA.out.below low.out).at h
            have AN := askN_next id hf
            obtain ⟨x, hx⟩ : ∃ x, x = k.id := ⟨_, rfl⟩
            rw [← hx] at c0 AN
            have A1 : Hid (Below wA.heap.size wA (wr.alloc (.cells #[.int .u32 (x : Nat)] 22))) := low.out.alloc low.out.size _
            have OW : Hid ((wr.alloc (.cells #[.int .u32 (x : Nat)] 22)).ownsRow wA.heap.size 22 1 u11 (4 + q) (valsN .u32 (askN id (ks.take q)))) := World.ownsRow.alloc own.out _
            have HH : Hid (Holds (wr.alloc (.cells #[.int .u32 (x : Nat)] 22)) (some ⟨wr.heap.size, 0, none⟩) 1 1 [.int .u32 (x : Nat)]) := blk_holds (heap_alloc_new wr _) rfl (by decide)
            have BM : Hid (4 + q + 1 ≤ maxLen) := by unfold Hid maxLen; omega
            have BY : Hid ((4 + q + 1) * 4 ≤ 140737488355328) := by unfold Hid; omega
            have NX : Hid (∀ (v' : Value) (w' : World), w'.ownsRow wA.heap.size 22 1 v' (4 + q + 1) (valsN .u32 (askN id (ks.take q)) ++ [.int .u32 (x : Nat)]) → w'.ownsRow wA.heap.size 22 1 v' (4 + (q + 1)) (valsN .u32 (askN id (ks.take (q + 1))))) := fun v' w' o => by
              rw [AN, valsN_append]
              exact o
            clear hq own low h hf hx AN
            go_wp2_with (at_builtin; refine append_more rfl _ _ 42 rfl wA.heap.size 22 i0 (.int .u32 0) 4 Try.underlying42 hi hz0 hz1 hz2 rfl _ (4 + q) _ rfl OW.out (some ⟨wr.heap.size, 0, none⟩) 1 1 [.int .u32 (x : Nat)] rfl HH.out (fun u hu => by obtain rfl := List.mem_singleton.1 hu; rfl) BM.out BY.out A1.out.size ?_)
            intro v3 w3 o3 g3 _
            have O3 := Lib.hid (NX.out v3 w3 o3)
            have L3 : Hid (Below wA.heap.size wA w3) := A1.out.grown g3 A1.out.size (fun j hj => (World.ownsRow.lt OW.out j hj).1)
            clear o3 g3 OW HH A1 BM BY NX
            go_wp2
            go_roundw
            case rel => exact ⟨q + 1, by go_num, HQ, O3, L3⟩
            case measure => simp [intOf]; omega
          · have h' : (j : Int) ≤ (q : Int) := by omega
            obtain rfl : q = j := by have := hq.out; omega
            have OWN := own.out
            rw [List.take_of_length_le (by rw [LN.out]; exact Nat.le_refl _)] at OWN
            obtain ⟨N, hN⟩ : ∃ N, N = 4 + q := ⟨_, rfl⟩
            rw [← hN] at OWN
            obtain ⟨pI, cI, eI, HI⟩ := own_holds OWN
            subst eI
            have TB : Hid (TabAt wr T ks) := TA.out.below low.out
            have RB : Hid (RefAt wr T' ks) := RA.out.below low.out
            have LB : Hid (Below w.heap.size w wr) := LR.out.trans (low.out.mono LR.out.size)
            have NI : (N : Int) ≤ 24 := by omega
            have AL : Hid (∀ x ∈ askN id ks, x < 4294967296) := askN_lt HID.out KO.out
            have AN : Hid ((askN id ks).length = N) := by unfold Hid; rw [askN_len, LN.out, hN]
            have HIW := Lib.hid HI
            clear hq own low h OWN HI OI LI TA RA LR HPA hN hi hz0 hz1 hz2 qb
            rename World => wB
            go_wp2_with fail
            go_loopw [13] (fun i wr => ∃ r : Nat, i = .int .i64 r ∧ Hid (r ≤ N) ∧ Hid (Below wB.heap.size wB wr)) (fun i _ => 1000 - (intOf i).toNat)
            case atStart => exact ⟨0, rfl, Nat.zero_le _, Below.refl _ _⟩
            case round =>
              obtain ⟨r, rfl, hr, low⟩ := hrel
              have rb : (r : Int) ≤ 24 := by have := hr.out; omega
              by_cases h : r < N
              · have h' : (r : Int) < (N : Int) := by omega
                have HR : Hid (r + 1 ≤ N) := h
                obtain ⟨a, rfl, cB⟩ := HIW.out.atN h
                have c0 := (low.out.cell (World.block_lt_of_cell? wB _ cB)).trans cB
                obtain ⟨x, hx⟩ : ∃ x, x = (askN id ks).getD r 0 := ⟨_, rfl⟩
                rw [← hx] at c0 cB
                have x32 : x < 4294967296 := by
                  rw [hx, List.getD_eq_getElem?_getD, List.getElem?_eq_getElem (by rw [AN.out]; exact h)]
                  exact AL.out _ (List.getElem_mem _)
                have PF := Lib.hid (fun w' (hb : Below wB.heap.size wB w') => pfind_any w' T x ks (TB.out.below hb) x32)
                have RF : Hid (∀ w', Below wB.heap.size wB w' → Calls Try.prog 16 #[.pointer (some ⟨T', 0, none⟩), .int .u32 (x : Nat)] w' (FindR w' ks x)) := fun w' hb => by
                  obtain ⟨p5, c5, h5, hk5⟩ := RB.out.below hb
                  exact rfind6_any w' T' p5 ks.length c5 x ks h5 hk5 (by rw [LN.out]; exact NB.out)
                unfold FindR at PF RF
                obtain ⟨K, hK⟩ : ∃ K, K = (findK ks x).getD ⟨0, 0, 0⟩ := ⟨_, rfl⟩
                obtain ⟨B, hB⟩ : ∃ B, B = (findK ks x).isSome := ⟨_, rfl⟩
                rw [← hK, ← hB] at PF RF
                obtain ⟨kx, ka, kb⟩ := K
                unfold keyV at PF RF
                simp only at PF RF
                have LL := Lib.hid low.out
                have BB : (B != B) = false := by simp
                have CI : Hid (∀ w', Below wB.heap.size wB w' → w'.cell? (a.add r) = some (.int .u32 (x : Nat))) := fun w' hb => (hb.cell (World.block_lt_of_cell? wB _ cB)).trans cB
                clear hr low h hx x32 hK hB cB
                go_wp2_with fail
                refine (PF.out _ LL.out).mono ?_; rintro e w4 ⟨rfl, l4⟩
                have L4 := Lib.hid (LL.out.trans (l4.mono LL.out.size))
                have L5 := Lib.hid (L4.out.alloc L4.out.size (.cells #[.int .u32 (kx : Nat), .int .u64 (ka : Nat), .int .u64 (kb : Nat)] 25))
                have c1 := CI.out _ L5.out
                have KB := Lib.hid (heap_alloc_new w4 (.cells #[.int .u32 (kx : Nat), .int .u64 (ka : Nat), .int .u64 (kb : Nat)] 25))
                clear l4 c0
                go_wp2_with fail
                refine (RF.out _ L5.out).mono ?_; rintro e w6 ⟨rfl, l6⟩
                have L6 := Lib.hid (L5.out.trans (l6.mono L5.out.size))
                have L7 : Below w6.heap.size w6 (w6.alloc (.cells #[.int .u32 (kx : Nat), .int .u64 (ka : Nat), .int .u64 (kb : Nat)] 25)) := (Below.refl _ _).alloc (Nat.le_refl _) _
                have K6 : w6.heap[w4.heap.size]? = some (.cells #[.int .u32 (kx : Nat), .int .u64 (ka : Nat), .int .u64 (kb : Nat)] 25 (0, 0)) := by
                  rw [l6.block _ (by simp)]
                  exact KB.out
                have K7 : (w6.alloc (.cells #[.int .u32 (kx : Nat), .int .u64 (ka : Nat), .int .u64 (kb : Nat)] 25)).heap[w4.heap.size]? = some (.cells #[.int .u32 (kx : Nat), .int .u64 (ka : Nat), .int .u64 (kb : Nat)] 25 (0, 0)) := by
                  rw [L7.block _ (Array.getElem?_eq_some_iff.1 K6).1]
                  exact K6
                have d0 := blk_cell (o := 0) K7
                have d1 := blk_cell (o := 1) K7
                have d2 := blk_cell (o := 2) K7
                have L8 := Lib.hid (L6.out.alloc L6.out.size (.cells #[.int .u32 (kx : Nat), .int .u64 (ka : Nat), .int .u64 (kb : Nat)] 25))
                clear l6 K6 K7 KB c1 L7
                go_wp2_with fail
                go_roundw
                case rel => exact ⟨r + 1, by go_num, HR, L8⟩
                case measure => simp [intOf]; omega
              · have h' : (N : Int) ≤ (r : Int) := by omega
                have TZ := Lib.hid (TB.out.below low.out)
                have LZ : Hid (Below w.heap.size w wr) := LB.out.trans (low.out.mono LB.out.size)
                have PL := Lib.hid (plen_any wr T ks TZ.out)
                rw [LN.out] at PL
                have qq : ((q : Int) == (q : Int)) = true := beq_self_eq_true _
                clear hr low h
                go_wp2_with fail
                refine PL.out.mono ?_; rintro e w4 ⟨rfl, l4⟩
                have L4 := Lib.hid (LZ.out.trans (l4.mono LZ.out.size))
                clear l4
                go_wp2_with fail
                refine (wakes6_any tag_code _).mono ?_; rintro e w5 ⟨rfl, l5⟩
                have L5 := Lib.hid (L4.out.trans (l5.mono L4.out.size))
                go_wp2
                go_ret
                exact ⟨rfl, L5.out⟩
end Go.Proofs.Ytkojgegfmhoomaa
