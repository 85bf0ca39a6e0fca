/- TimersOrder: the walk. -/
import Derived.Test.YtbfmmeapjfljbaaTmX
import Derived.Deep.CutBlock
import Derived.Deep.CutRange
import Derived.BigQuiet
set_option maxRecDepth 100000
namespace Go.Proofs.Ytbfmmeapjfljbaa
open Go.ChangeShapes Go.WideShapes Go.ChangeAt Go.RowKit Go.Maps HeapM

set_option maxHeartbeats 4000000 in
theorem order14_walk (w : World) (p : Option Addr) (n c : Nat) (zs : List Nat) (hp : Holds w p n c (valsN .u16 zs)) (hz : ∀ z ∈ zs, z < 65536) (p2 : Option Addr) (n2 c2 : Nat) (B : Nat → Bool) (hq : HoldsBo w p2 n2 c2 B) :
    Calls Try.prog 5 #[.slice p n c, .slice p2 n2 c2] w fun e w' => e = .returned (.bool true) ∧ Below w.heap.size w w' := by
  have hmm := @run_makeMap Try.prog
  have HP := Lib.hid hp
  have HZ := Lib.hid hz
  have HQ := Lib.hid hq
  have nb : (n : Int) ≤ 9223372036854775807 := by have := hp.cap; have := hp.max; unfold maxLen at this; omega
  have nb2 : (n2 : Int) ≤ 9223372036854775807 := by have := hq.cap; have := hq.max; unfold maxLen at this; omega
  obtain ⟨iU, hiU, hz0, hz1, hz2⟩ := infoI_of infoU
  have ONE : Hid (∀ d : Nat, ∀ u ∈ ([.int .u16 (d : Nat)] : List Value), u.oneCell' = true) := fun d u hu => by
    simp only [List.mem_cons, List.not_mem_nil, or_false] at hu
    rw [hu]; rfl
  have AV := Lib.hid (fun w => alive14_any w)
  clear hp hz hq
  go_enter Try.func5, Try.ntmps5
  go_wp2_with fail
  refine (pnew14 w w (Below.refl _ _)).mono ?_; rintro r1 w1 ⟨N1, rfl, X1⟩
  have X1 := Lib.hid X1
  go_wp2_with fail
  refine (pnew14 w1 w1 (Below.refl _ _)).mono ?_; rintro r2 w2 ⟨N2, rfl, X2⟩
  have X2 := Lib.hid X2
  have L2 := Lib.hid (X1.out.low.trans (X2.out.low.mono X1.out.low.size))
  have S0 : Hid (SeeM w2 (w2.alloc (.map #[] 0)) w2.heap.size none 0 0 [] []) :=
    ⟨⟨.map [], MapU.tight (World.ownsMap_made w2 _ _ _), seen_nil⟩, ⟨rfl, .inl ⟨rfl, rfl⟩⟩, Nat.le_refl _, (fun a ha => by cases ha), (Below.refl _ _).alloc (Nat.le_refl _) _⟩
  go_upto_block 0 with fail
  generalize w2.alloc (.map #[] 0) = v at *
  obtain ⟨b, hb⟩ : ∃ b, w2.heap.size = b := ⟨_, rfl⟩
  have HB := Lib.hid hb
  rw [hb] at S0 ⊢
  clear hb
  go_cut [8, 9] from 29 to 57 (fun al _ wx => ∃ (p3 : Option Addr) (m c3 : Nat) (A : List Nat), al = .slice p3 m c3 ∧ Hid (m ≤ 40 ∧ A.Nodup ∧ ∀ a ∈ A, a < 65536) ∧ Hid (SeeM w2 wx b p3 m c3 A A))
  case first =>
    clear AV HQ X1 X2 nb2
    go_wp2_with fail
    go_loopw [8, 9] (fun al ii wr => ∃ (p3 : Option Addr) (m c3 i : Nat) (A : List Nat), al = .slice p3 m c3 ∧ ii = .int .i64 (i : Nat) ∧ Hid ((i ≤ n ∧ i ≤ 40 ∧ m ≤ i) ∧ A.Nodup ∧ ∀ a ∈ A, a < 65536) ∧ Hid (SeeM w2 wr b p3 m c3 A A)) (fun _ ii _ => 1000 - (intOf ii).toNat)
    case atStart => exact ⟨none, 0, 0, 0, [], rfl, rfl, ⟨⟨Nat.zero_le _, Nat.zero_le _, Nat.le_refl _⟩, List.nodup_nil, fun a ha => (by cases ha)⟩, S0.out⟩
    case round =>
      clear S0
      obtain ⟨p3, m, c3, i, A, rfl, rfl, hb, S⟩ := hrel
      have i0 : (0 : Int) ≤ (i : Int) := by omega
      have i40 : (i : Int) ≤ 40 := by have := hb.out.1.2.1; omega
      have stop : (n ≤ i) ∨ (i < n ∧ i = 40) ∨ (i < n ∧ i < 40) := by have := hb.out.1; omega
      have HM : Hid (m ≤ 40 ∧ A.Nodup ∧ ∀ a ∈ A, a < 65536) := ⟨by have := hb.out.1; omega, hb.out.2⟩
      rcases stop with z | ⟨z, z'⟩ | ⟨z, z'⟩
      · have z1 : (n : Int) ≤ (i : Int) := by omega
        have z2 : decide ((i : Int) < (n : Int)) = false := decide_eq_false (by omega)
        clear hb z HP HZ
        go_wp2_with fail
        go_meet
        exact ⟨_, _, _, A, rfl, HM, S⟩
      · have h' : (i : Int) < (n : Int) := by omega
        have z3 : decide ((i : Int) < 40) = false := decide_eq_false (by omega)
        have z4 : (40 : Int) ≤ (i : Int) := by omega
        have z5 : decide (i < 40) = false := decide_eq_false (by omega)
        clear hb z z' HP HZ
        go_wp2_with fail
        go_meet
        exact ⟨_, _, _, A, rfl, HM, S⟩
      · have h' : (i : Int) < (n : Int) := by omega
        have z3 : (i : Int) < 40 := by omega
        obtain ⟨ap, rfl, cz⟩ := (HP.out.below (L2.out.trans (S.out.low.mono L2.out.size))).atN z
        obtain ⟨d, hd⟩ : ∃ d, zs.getD i 0 = d := ⟨_, rfl⟩
        rw [hd] at cz
        have dm : d < 65536 := by
          rw [← hd]
          by_cases g : i < zs.length
          · rw [List.getD_eq_getElem?_getD, List.getElem?_eq_getElem g]
            exact HZ.out _ (List.getElem_mem g)
          · rw [List.getD_eq_getElem?_getD, List.getElem?_eq_none (by omega)]
            decide
        have CZ : Hid (∀ w', Below w2.heap.size w2 w' → w'.cell? (ap.add i) = some (.int .u16 (d : Nat))) := fun w' k => by
          obtain ⟨ap', e, cz'⟩ := (HP.out.below (L2.out.trans (k.mono L2.out.size))).atN z
          injection e with e
          subst e
          rw [hd] at cz'
          exact cz'
        have NI : Hid ((i + 1 ≤ n ∧ i + 1 ≤ 40) ∧ m ≤ i) := by have := hb.out.1; unfold Hid; omega
        obtain ⟨D, MD, SD⟩ := S.out.m
        have MD := Lib.hid MD
        have SD := Lib.hid SD
        have DM := Lib.hid dm
        by_cases q : d ∈ A
        · have LK := MD.out.look1 dm (SD.out.at_ d q (dk 0))
          have HN : Hid ((i + 1 ≤ n ∧ i + 1 ≤ 40 ∧ m ≤ i + 1) ∧ A.Nodup ∧ ∀ a ∈ A, a < 65536) := ⟨by have := NI.out; omega, HM.out.2⟩
          clear hb z z' hd dm CZ MD SD HP HZ q
          go_wp2_with fail
          go_roundw
          case rel => exact ⟨_, _, _, i + 1, A, rfl, by go_num, HN, S⟩
          case measure => simp [intOf]; omega
        · have LK := MD.out.look1 dm ((SD.out.none q (dk 0)).2)
          have HN : Hid ((i + 1 ≤ n ∧ i + 1 ≤ 40 ∧ m + 1 ≤ i + 1) ∧ (A ++ [d]).Nodup ∧ ∀ a ∈ A ++ [d], a < 65536) := by
            refine ⟨by have := NI.out; omega, ?_, fun a ha => ?_⟩
            · rw [List.nodup_append]
              refine ⟨HM.out.2.1, by simp, fun a ha b hb => ?_⟩
              rw [List.mem_singleton] at hb
              subst hb
              exact fun e => q (e ▸ ha)
            · rcases List.mem_append.1 ha with e | e
              · exact HM.out.2.2 a e
              · rw [List.mem_singleton] at e; rw [e]; exact DM.out
          have QN := Lib.hid q
          have NM : Hid (Maps.size D < maxLen) := by have := SD.out.size; have := HM.out.1; have := S.out.o.len; unfold Hid maxLen; omega
          have KX := Lib.hid (kw_of dm)
          have RN : Hid (RP (.int .i64 1) = some (dk 1, [])) := RP_mk 1
          have BA : Hid (m + 1 ≤ maxLen) := by have := HM.out.1; unfold Hid maxLen; omega
          have BY : Hid ((m + 1) * 2 ≤ 140737488355328) := by have := HM.out.1; unfold Hid; omega
          clear hb z z' hd dm HP HZ q
          go_wp2_with (first
            | (at_mapUpdate; refine wpList_mapUpdate_in _ rfl _ _ _ 41 rfl 22 3 law16 Try.underlying41 RP b (Maps.size D) D rfl MD.out NM.out _ _ _ rfl rfl KX.out _ [] RN.out ?_; intro w4 m4 u4; have S4 := Lib.hid (S.out.put SD.out QN.out m4 u4); clear m4 u4 S MD cz LK;
                have cz := CZ.out w4 S4.out.low;
                have A4 : Below w4.heap.size w4 (w4.alloc (.cells #[.int .u16 (d : Nat)] 22)) := (Below.refl _ _).alloc (Nat.le_refl _) _;
                have S5 := Lib.hid (S4.out.below A4); have SZ : Hid (w2.heap.size ≤ (w4.alloc (.cells #[.int .u16 (d : Nat)] 22)).heap.size) := S5.out.low.size; have OW := Lib.hid S5.out.o; unfold OwnU at OW; clear A4 S4)
            | (at_builtin; refine wpList_append_lies _ rfl _ _ 23 rfl w2.heap.size 22 iU (.int .u16 0) 1 2 Try.underlying23 hiU hz0 hz1 hz2 (by rfl) (by decide) (.slice p3 m c3) m (valsN .u16 A) rfl OW.out ⟨w4.heap.size, 0, none⟩ 1 1 [.int .u16 (d : Nat)] rfl rfl (World.news_of_block (heap_alloc_new w4 _)) (ONE.out d) (by decide) BA.out BY.out SZ.out _ rfl ?_; intro gg cap w7 o7 g7 m7 lt7; have S7 := Lib.hid (S5.out.app rfl o7 g7 m7); clear o7 g7 m7 lt7 OW SZ S5))
          go_roundw
          case rel => exact ⟨_, _, _, i + 1, A ++ [d], rfl, by go_num, HN, S7⟩
          case measure => simp [intOf]; omega
  obtain ⟨p3, m, c3, A, rfl, HM, S⟩ := hcut
  have HS := Lib.hid S.out.o
  have P0 := Lib.hid (pair_new X1.out X2.out S.out.low)
  have AL := Lib.hid HS.out.len
  clear S HP HZ nb X2
  go_wp2_with fail
  go_loopw [10] (fun jj wr => ∃ (j : Nat) (sx sy : TS), jj = .int .i64 (j : Nat) ∧ Hid (j ≤ m) ∧ Hid (Pair w w2.heap.size wc wr (tTh N1 sx) (tTh N2 sy)) ∧ Hid (OrdS sx (A.take j)) ∧ Hid (OrdS sy (A.reverse.take j))) (fun jj _ => 1000 - (intOf jj).toNat)
  case atStart => exact ⟨0, noT, noT, rfl, Nat.zero_le _, P0, ord_zero, by rw [List.take_zero]; exact ord_zero⟩
  case round =>
    clear P0
    obtain ⟨j, sx, sy, rfl, JB, PP, QX, QY⟩ := hrel
    have j0 : (0 : Int) ≤ (j : Int) := by omega
    have m40 : (m : Int) ≤ 40 := by have := HM.out.1; omega
    by_cases jz : j < m
    · have jm : (j : Int) < (m : Int) := by omega
      obtain ⟨a3, rfl, hb3, -, CE⟩ := HS.out.at (show 0 < m by omega)
      have CE := Lib.hid CE
      have jA : j < A.length := by rw [AL.out]; exact jz
      obtain ⟨q, hq⟩ : ∃ q, m - 1 - j = q := ⟨_, rfl⟩
      obtain ⟨m1, hm1⟩ : ∃ q, m - 1 = q := ⟨_, rfl⟩
      have qm : q < m := by omega
      have q0 : (0 : Int) ≤ (q : Int) := by omega
      have qi : (q : Int) < (m : Int) := by omega
      have k1 : ((m : Nat) : Int) - 1 = (m1 : Nat) := by omega
      have k2 : ((m1 : Nat) : Int) - ((j : Nat) : Int) = (q : Nat) := by omega
      have NM1 : Hid (m1 < 65536 ∧ q < 65536 ∧ j + 1 < 65536) := by unfold Hid; omega
      have RV : Hid (A.reverse.getD j 0 = A.getD q 0) := by have := rev_get jA; rw [AL.out, hq] at this; exact this
      have TX : Hid (A.take (j + 1) = A.take j ++ [A.getD j 0] ∧ A.getD j 0 ∉ A.take j ∧ A.getD j 0 < 65536 ∧ (A.take j).length = j) := ⟨take_next jA, take_not jA HM.out.2.1, HM.out.2.2 _ (getD_in jA), by rw [List.length_take]; omega⟩
      have jR : j < A.reverse.length := by rw [List.length_reverse]; exact jA
      have TY : Hid (A.reverse.take (j + 1) = A.reverse.take j ++ [A.getD q 0] ∧ A.getD q 0 ∉ A.reverse.take j ∧ A.getD q 0 < 65536 ∧ (A.reverse.take j).length = j) := by
        have e1 := take_next jR
        have e2 := take_not jR ((List.reverse_perm A).symm.nodup_iff.1 HM.out.2.1)
        rw [RV.out] at e1 e2
        exact ⟨e1, e2, HM.out.2.2 _ (getD_in (by rw [AL.out]; exact qm)), by rw [List.length_take]; omega⟩
      obtain ⟨x, hx⟩ : ∃ x, A.getD j 0 = x := ⟨_, rfl⟩
      obtain ⟨y, hy⟩ : ∃ x, A.getD q 0 = x := ⟨_, rfl⟩
      rw [hx] at TX
      rw [hy] at TY RV
      have KC : Hid (∀ wx T1 T2, Pair w w2.heap.size wc wx T1 T2 → wx.cell? (a3.add j) = some (.int .u16 (x : Nat)) ∧ wx.cell? (a3.add q) = some (.int .u16 (y : Nat))) := fun wx T1 T2 P => by
        obtain ⟨e1, e2⟩ := CE.out j jz
        obtain ⟨e3, e4⟩ := CE.out q qm
        rw [hx] at e2
        rw [hy] at e4
        exact ⟨P.cell (by rw [e1]; exact hb3) e2, P.cell (by rw [e3]; exact hb3) e4⟩
      have JL : Hid (j + 1 ≤ m) := jz
      have J40 : Hid (j < 40 ∧ j + 1 ≤ 40) := by have := HM.out.1; unfold Hid; omega
      obtain ⟨r, hr, x1, x2, x3, x4, x5, x6⟩ := odd_num TX.out.2.2.1
      obtain ⟨s, hs, y1, y2, y3, y4, y5, y6⟩ := odd_num TY.out.2.2.1
      obtain ⟨ob, hob⟩ : ∃ o, oddN x = o := ⟨_, rfl⟩
      obtain ⟨oc, hoc⟩ : ∃ o, oddN y = o := ⟨_, rfl⟩
      have OO : Hid (oddN x = ob ∧ oddN y = oc) := ⟨hob, hoc⟩
      have XB : Hid (x < 65536 ∧ y < 65536 ∧ r ≤ 1 ∧ s ≤ 1) := ⟨TX.out.2.2.1, TY.out.2.2.1, hr, hs⟩
      rw [hob] at x3 x4 x5 x6
      rw [hoc] at y3 y4 y5 y6
      obtain ⟨j1, hj1⟩ : ∃ j1, j + 1 = j1 := ⟨_, rfl⟩
      have J1 := Lib.hid hj1
      have AX : Hid (∀ w', Below wr.heap.size wr w' → Calls Try.prog 7 #[.pointer (some ⟨N1, 0, none⟩), .agg #[.bool ob, .int .i64 (x : Nat), .int .i64 0]] w' fun r w'' => r = .returned (.tuple #[.int .u64 (j1 : Nat), .int .i64 0]) ∧ ∃ s', Pair w w2.heap.size wc w'' (tTh N1 s') (tTh N2 sy) ∧ OrdS s' (A.take (j + 1))) := fun w' k => by
        have := (PP.out.below k).addX QX.out (by rw [TX.out.2.2.2]; exact J40.out.1) x TX.out.2.2.1 TX.out.2.1
        rw [TX.out.2.2.2, hj1, hob] at this
        rw [TX.out.1]
        exact this
      have CX := (KC.out _ _ _ PP.out)
      obtain ⟨cx, cy⟩ := CX
      clear jz jA jR qm hq hm1 hx hy hr hs hob hoc hj1 hb3 CE
      obtain ⟨-, k3, k4⟩ := wraps_of NM1.out.1
      obtain ⟨-, k5, k6⟩ := wraps_of NM1.out.2.1
      obtain ⟨v1, -, -⟩ := wraps_of (show r < 65536 from Nat.lt_of_le_of_lt XB.out.2.2.1 (by decide))
      obtain ⟨-, v2, v3⟩ := wraps_of XB.out.1
      go_upto_region 16 with fail
      have HB0 : Below wr.heap.size wr wr := Below.refl _ _
      have KW : Hid (∀ w', Below wr.heap.size wr w' → w'.cell? (a3.add j) = some (.int .u16 (x : Nat))) := fun w' k => (KC.out _ _ _ (PP.out.below k)).1
      go_wp2_with fail
      go_region_held3 (fun w' => w'.cell? (a3.add j) = some (.int .u16 (x : Nat))) (first | exact KW.out _ HB0 | exact KW.out _ HB0.drew | exact HS1)
        (first | (go_at_call 7; refine (AX.out _ (by first | exact HB0 | exact HB0.drew)).mono ?_; rintro r5 w5 ⟨rfl, sx1, P5, Q5⟩; have HS1 := (KC.out _ _ _ P5).1; have P5 := Lib.hid P5; have Q5 := Lib.hid Q5))
      clear HS1 KW HB0 AX PP QX cx cy v1 v2 v3 x1 x2 x3 x4 x5 x6 k1 k2 k3 k4 k5 k6
      have AY : Hid (Calls Try.prog 7 #[.pointer (some ⟨N2, 0, none⟩), .agg #[.bool oc, .int .i64 70000, .int .i64 0]] w5 fun r w'' => r = .returned (.tuple #[.int .u64 (j1 : Nat), .int .i64 0]) ∧ ∃ s', Pair w w2.heap.size wc w'' (tTh N2 s') (tTh N1 sx1) ∧ MidS s' (A.reverse.take j) j1 oc 70000 1) := by
        have := P5.out.turn.add QY.out (by rw [TY.out.2.2.2]; exact J40.out.1) oc 70000 (by decide) (by decide)
        rw [TY.out.2.2.2, J1.out] at this
        exact this
      obtain ⟨v1, -, -⟩ := wraps_of (show s < 65536 from Nat.lt_of_le_of_lt XB.out.2.2.2 (by decide))
      obtain ⟨-, v2, v3⟩ := wraps_of XB.out.2.1
      go_wp2_with fail
      refine AY.out.mono ?_; rintro r6 w6 ⟨rfl, sy1, P6, Q6⟩
      have P6 := Lib.hid P6
      have Q6 := Lib.hid Q6
      clear AY P5 QY v1 y1 y2 y3 y4 y5 y6
      go_wp2_with fail
      go_loopw [16] (fun kk wx => (kk = .int .i64 0 ∧ ∃ sy1, Hid (Pair w w2.heap.size wc wx (tTh N2 sy1) (tTh N1 sx1)) ∧ Hid (MidS sy1 (A.reverse.take j) j1 oc 70000 1)) ∨ (kk = .int .i64 1 ∧ ∃ sy1, Hid (Pair w w2.heap.size wc wx (tTh N2 sy1) (tTh N1 sx1)) ∧ Hid (MidS sy1 (A.reverse.take j) j1 oc (y : Nat) 2)) ∨ (kk = .int .i64 2 ∧ ∃ sy1, Hid (Pair w w2.heap.size wc wx (tTh N2 sy1) (tTh N1 sx1)) ∧ Hid (OrdS sy1 (A.reverse.take (j + 1))))) (fun kk _ => 10 - (intOf kk).toNat)
      case atStart => exact .inl ⟨rfl, sy1, P6, Q6⟩
      case round =>
        clear P6 Q6
        rcases hrel with ⟨rfl, sy1, P6, Q6⟩ | ⟨rfl, sy1, P6, Q6⟩ | ⟨rfl, sy1, P6, Q6⟩
        · have RS := Lib.hid (P6.out.reset Q6.out (by rw [TY.out.2.2.2]; have := J40.out; omega) (by decide) (y : Nat) (by omega) (by have := XB.out.2.1; omega))
          clear P6 Q6
          go_wp2_with fail
          refine RS.out.mono ?_; rintro r7 w7 ⟨rfl, sy2, P7, Q7⟩
          have P7 := Lib.hid P7
          have Q7 := Lib.hid Q7
          clear RS
          go_wp2_with fail
          go_roundw
          case rel => exact .inr (.inl ⟨rfl, sy2, P7, Q7⟩)
          case measure => decide
        · have ND : Hid (y ∉ A.reverse.take j) := TY.out.2.1
          have DN : Hid (∀ u sy2 wx, u ≤ 3 → Pair w w2.heap.size wc wx (tTh N2 sy2) (tTh N1 sx1) → MidS sy2 (A.reverse.take j) j1 oc (y : Nat) u → OrdS sy2 (A.reverse.take (j + 1))) := fun u sy2 wx hu P Q => by
            rw [TY.out.1]
            rw [← OO.out.2] at Q
            exact Q.done P.ok hu ND.out
          by_cases g : j < n2
          · have g1 : (j : Int) < (n2 : Int) := by omega
            obtain ⟨a4, rfl, bc⟩ := (HQ.out.below P6.out.low).cell j g
            obtain ⟨bj, hbj⟩ : ∃ o, B j = o := ⟨_, rfl⟩
            rw [hbj] at bc
            cases bj
            · have OD := Lib.hid (DN.out 2 sy1 _ (by decide) P6.out Q6.out)
              clear g hbj Q6
              go_wp2_with fail
              go_roundw
              case rel => exact .inr (.inr ⟨rfl, sy1, P6, OD⟩)
              case measure => decide
            · have RS := Lib.hid (P6.out.reset Q6.out (by rw [TY.out.2.2.2]; have := J40.out; omega) (by decide) (y : Nat) (by omega) (by have := XB.out.2.1; omega))
              clear g hbj P6 Q6
              go_wp2_with fail
              refine RS.out.mono ?_; rintro r7 w7 ⟨rfl, sy2, P7, Q7⟩
              have OD := Lib.hid (DN.out 3 sy2 _ (by decide) P7 Q7)
              have P7 := Lib.hid P7
              clear RS Q7
              go_wp2_with fail
              go_roundw
              case rel => exact .inr (.inr ⟨rfl, sy2, P7, OD⟩)
              case measure => decide
          · have g1 : (n2 : Int) ≤ (j : Int) := by omega
            have g2 : decide ((j : Int) < (n2 : Int)) = false := decide_eq_false (by omega)
            have OD := Lib.hid (DN.out 2 sy1 _ (by decide) P6.out Q6.out)
            clear g Q6
            go_wp2_with fail
            go_roundw
            case rel => exact .inr (.inr ⟨rfl, sy1, P6, OD⟩)
            case measure => decide
        · have PN := Lib.hid P6.out.turn
          clear P6 v2 v3
          go_wp2_with fail
          go_roundw
          case rel => exact ⟨j + 1, sx1, sy1, by go_num, JL, PN, Q5, Q6⟩
          case measure => simp [intOf]; omega
    · have je : j = m := by have := JB.out; omega
      have jk : ((m : Nat) : Int) ≤ ((j : Nat) : Int) := by omega
      have jd : decide (((j : Nat) : Int) < ((m : Nat) : Int)) = false := decide_eq_false (by omega)
      have QX' : Hid (OrdS sx A) := by have := QX.out; rw [je, ← AL.out, List.take_length] at this; exact this
      have QY' : Hid (OrdS sy A.reverse) := by have := QY.out; rw [je, ← AL.out, ← List.length_reverse, List.take_length] at this; exact this
      have FX : Hid (Calls Try.prog 8 #[.pointer (some ⟨N1, 0, none⟩), .int .i64 65535, .int .i64 65535] wr fun r w' => ∃ p c fs s', r = .returned (.slice p m c) ∧ Pair w w2.heap.size wc w' (cTh N1 s' p m c fs) (tTh N2 sy) ∧ FirA sx fs ∧ (s'.l false).length + (s'.l true).length = 0) := by
        have := PP.out.fire QX'.out HM.out.2.2
        rw [AL.out] at this
        exact this
      clear QX QY PP JB jz je
      go_wp2_with fail
      refine FX.out.mono ?_; rintro r5 w5 ⟨pa, ca, fa, sx2, rfl, P5, FA5, E5⟩
      have FA5 := Lib.hid FA5
      have E5 := Lib.hid E5
      have FY : Hid (Calls Try.prog 8 #[.pointer (some ⟨N2, 0, none⟩), .int .i64 65535, .int .i64 65535] w5 fun r w' => ∃ p c fs s', r = .returned (.slice p m c) ∧ Pair w w2.heap.size wc w' (cTh N2 s' p m c fs) (cTh N1 sx2 pa m ca fa) ∧ FirA sy fs ∧ (s'.l false).length + (s'.l true).length = 0) := by
        have := P5.turn.fire QY'.out (fun a ha => HM.out.2.2 a (List.mem_reverse.1 ha))
        rw [List.length_reverse, AL.out] at this
        exact this
      clear P5 FX
      go_wp2_with fail
      refine FY.out.mono ?_; rintro r6 w6 ⟨pb, cb, fb, sy2, rfl, P6, FA6, E6⟩
      have P6 := Lib.hid P6
      have SA : Hid (∀ i, i < m → (gf fa i).t = (gf fb i).t ∧ (gf fa i).late = (gf fb i).late) := fun i hi => by
        refine same_at QX'.out QY'.out (fun a => List.mem_reverse.symm) FA5.out FA6 ?_
        have := P6.out.turn.own.1
        rw [cellsF_len] at this
        omega
      have CX := Lib.hid (P6.out.turn.count E5.out)
      have CY := Lib.hid (P6.out.count E6)
      have OA := Lib.hid P6.out.turn.own
      have OB := Lib.hid P6.out.own
      have L6 := Lib.hid P6.out.low
      clear FY FA5 FA6 E5 E6 P6 QX' QY' HS
      go_wp2_with (first
        | (go_at_call_of 11 N1; refine CX.out.mono ?_; rintro r7 w7 ⟨rfl, rfl⟩)
        | (go_at_call_of 11 N2; refine CY.out.mono ?_; rintro r7 w7 ⟨rfl, rfl⟩))
      clear CX CY
      go_loopw [19] (fun ii wx => ∃ i : Nat, ii = .int .i64 (i : Nat) ∧ Hid (Below w7.heap.size w7 wx) ∧ Hid (i ≤ m)) (fun ii _ => 1000 - (intOf ii).toNat)
      case atStart => exact ⟨0, rfl, Below.refl _ _, Nat.zero_le _⟩
      case round =>
        obtain ⟨i, rfl, LB, IB⟩ := hrel
        have i0 : (0 : Int) ≤ (i : Int) := by omega
        by_cases iz : i < m
        · have im : (i : Int) < (m : Int) := by omega
          obtain ⟨aa, ea, -, a1, a2, a3', a4, -⟩ := (OA.out.below LB.out).at iz
          obtain ⟨ab, eb, -, b1, b2, b3', b4, -⟩ := (OB.out.below LB.out).at iz
          obtain ⟨s1, s2⟩ := SA.out i iz
          subst ea eb
          rw [← s1] at b1 b2 b3'
          rw [← s2] at b4
          clear s1 s2
          obtain ⟨tt, htt⟩ : ∃ t, (gf fa i).t = t := ⟨_, rfl⟩
          obtain ⟨la, hla⟩ : ∃ t, (gf fa i).late = t := ⟨_, rfl⟩
          rw [htt] at a1 a2 a3' b1 b2 b3'
          rw [hla] at a4 b4
          obtain ⟨kb, kt, ke⟩ := tt
          dsimp only at a1 a2 a3' b1 b2 b3'
          have NQ := fun w => neq_tr w kb kt ke
          have IN : Hid (i + 1 ≤ m) := iz
          have LD : Hid (Below w7.heap.size w7 wr.drew) := LB.out.drew
          clear IB iz htt hla LB
          go_wp2_with fail
          go_region
          all_goals (
            go_wp2_with fail
            go_roundw
            case rel => exact ⟨i + 1, by go_num, LD, IN⟩
            case measure => simp [intOf]; omega)
        · have ie : ((m : Nat) : Int) ≤ ((i : Nat) : Int) := by omega
          have id : decide (((i : Nat) : Int) < ((m : Nat) : Int)) = false := decide_eq_false (by omega)
          clear IB iz
          go_wp2_with (go_at_call 9; refine (AV.out _).mono ?_; rintro r9 w9 ⟨rfl, l9⟩; have L9 := Lib.hid ((L6.out.trans (LB.out.mono L6.out.size)).trans (l9.mono (Nat.le_trans L6.out.size LB.out.size))); clear l9)
          go_ret
          exact ⟨rfl, L9.out⟩
end Go.Proofs.Ytbfmmeapjfljbaa
