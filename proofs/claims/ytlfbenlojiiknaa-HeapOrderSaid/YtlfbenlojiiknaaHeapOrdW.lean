/- HeapOrder: the walk. -/
import Derived.Test.YtlfbenlojiiknaaHeapOrdN
import Derived.Test.YtlfbenlojiiknaaHeapOrdU
import Derived.Test.YtlfbenlojiiknaaHeapOrdT
import Derived.Deep.AppendLies
import Derived.Test.YtlfbenlojiiknaaFrameH
import Derived.Deep.CutBlock
import Derived.Deep.CutRange
set_option maxRecDepth 100000
namespace Go.Proofs.Ytlfbenlojiiknaa
open Go.ChangeShapes Go.WideShapes Go.ChangeAt Go.RowKit Go.Maps HeapM

attribute [local go_sem ↓] neqI_eq
set_option maxHeartbeats 8000000 in
theorem order13_walk (C : HCode) (w : World) (p : Option Addr) (n c : Nat) (l : List Ac) (hp : HoldsH w p n c l) (hl : ∀ i, i < n → I64 (l.getD i zeroA).what ∧ ItOk (l.getD i zeroA).x) :
    Calls Try.prog 4 #[.slice p n c] w fun e w' => e = .returned (.bool true) ∧ Below w.heap.size w w' := by
  have NW : Hid (Calls Try.prog 9 #[.int .i64 60] w fun e w' => ∃ N, e = .returned (.tuple #[.pointer (some ⟨N, 0, none⟩), .int .i64 0]) ∧ HAt C w w' N 60 []) := C.new w w (Below.refl _ _) 60 (by decide) (by decide)
  have AW := Lib.hid (awake13_any C)
  have HP := Lib.hid hp
  have HL := Lib.hid hl
  have nb : (n : Int) ≤ 9223372036854775807 := by have := hp.cap; have := hp.max; unfold maxLen at this; omega
  have hmm := @run_makeMap Try.prog
  clear hp hl
  go_enter Try.func4, Try.ntmps4
  go_wp2_with fail
  refine NW.out.mono ?_; rintro e w1 ⟨N, rfl, h⟩
  have H := Lib.hid h
  clear h NW
  go_wp2_with fail
  refine (AW.out w1).mono ?_; rintro e w2 ⟨rfl, lo⟩
  replace H := Lib.hid (H.out.below lo)
  clear lo AW
  go_upto_region 5 with fail
  have I0 : Hid (OrdS C w (w2.alloc (.map #[] 0)).heap.size (w2.alloc (.map #[] 0)) (w2.alloc (.map #[] 0)) N w2.heap.size [] (.map [])) := ord_new H.out ((Below.refl _ _).alloc (Nat.le_refl _) _) (World.ownsMap_made w2 _ _ _) (Nat.le_refl _)
  clear H hmm
  generalize w2.alloc (.map #[] 0) = w3 at *
  generalize w2.heap.size = m at *
  go_upto_block 0 with fail
  go_cut [6, 7, 8, 9, 10, 11, 12, 13, 14, 16, 17, 18, 19, 20, 21, 22] from 43 to 228 (fun _ _ _ _ _ _ _ _ _ _ _ _ _ _ _ _ wx => ∃ L D, Hid (OrdS C w wx.heap.size wx wx N m L D))
  case first =>
    go_wp2_with fail
    go_loopw [43] (fun i wr => ∃ (q : Nat) (L : List It) (D : DataW Unit), i = .int .i64 (q : Nat) ∧ Hid (q ≤ n ∧ q ≤ 100) ∧ Hid (OrdS C w wr.heap.size wr wr N m L D)) (fun i _ => 1000 - (intOf i).toNat)
    case atStart => exact ⟨0, [], _, rfl, ⟨Nat.zero_le _, by decide⟩, I0.out⟩
    case round =>
      clear I0
      obtain ⟨q, L, D, rfl, hb, I⟩ := hrel
      have q0 : (0 : Int) ≤ (q : Int) := by omega
      have qb : (q : Int) ≤ 100 := by have := hb.out.2; omega
      by_cases z : n ≤ q
      · have z1 : (n : Int) ≤ (q : Int) := by omega
        have z2 : decide ((q : Int) < (n : Int)) = false := decide_eq_false (by omega)
        clear hb z HP HL
        go_wp2_with fail
        go_meet
        exact ⟨L, D, I⟩
      have h' : (q : Int) < (n : Int) := by omega
      have qn : q < n := by omega
      obtain ⟨a, rfl, c0, c1, c2, c3⟩ := (HP.out.below I.out.side.low).at qn
      have OK := HL.out q qn
      generalize l.getD q zeroA = ac at *
      obtain ⟨k, xi, xs, xt⟩ := ac
      dsimp only at c0 c1 c2 c3 OK
      have LT : Hid (Below wr.heap.size wr (wr.alloc (.cells #[.int .i64 k, .int .u64 (xi : Nat), .int .u64 (xs : Nat), .int .i64 xt] 37))) := (Below.refl _ _).alloc (Nat.le_refl _) _
      by_cases q80 : q = 100
      · have z3 : ((q : Int) == 100) = true := by rw [q80]; rfl
        have z4 : (q == 100) = true := by rw [q80]; rfl
        have z5 : decide (q = 100) = true := by rw [q80]; rfl
        have I2 : Hid (OrdS C w _ _ _ N m L D) := (I.out.below LT.out).start (Below.refl _ _)
        clear hb z q80 HP HL I LT
        go_wp2_with fail
        go_meet
        exact ⟨L, D, I2⟩
      have q79 : (q : Int) < 100 := by have := hb.out.2; omega
      have z3 : ((q : Int) == 100) = false := by rw [beq_eq_false_iff_ne]; omega
      have z4 : (q == 100) = false := by rw [beq_eq_false_iff_ne]; omega
      have z5 : decide (q = 100) = false := decide_eq_false q80
      have NB : Hid (q + 1 ≤ n ∧ q + 1 ≤ 100) := by have := hb.out.2; unfold Hid; omega
      clear hb z q80 HP HL
      have AX : Hid ((wr.alloc (.cells #[.int .i64 k, .int .u64 (xi : Nat), .int .u64 (xs : Nat), .int .i64 xt] 37)).heap[wr.heap.size]? = some (.cells #[.int .i64 k, .int .u64 (xi : Nat), .int .u64 (xs : Nat), .int .i64 xt] 37 (0, 0))) := heap_alloc_new _ _
      obtain ⟨y, B, ey, eB, yB⟩ := I.out.key xi
      have YB := Lib.hid yB
      have LK := Lib.hid (MapI.look (w := wr.alloc (.cells #[.int .i64 k, .int .u64 (xi : Nat), .int .u64 (xs : Nat), .int .i64 xt] 37)) (I.out.below LT.out).map OK.2.a ey eB)
      have EY := Lib.hid ey
      clear ey eB yB
      unfold itV at LK
      go_upto_region 9 with fail
      clear c0 c1 c2 c3
      generalize wr.alloc (.cells #[.int .i64 k, .int .u64 (xi : Nat), .int .u64 (xs : Nat), .int .i64 xt] 37) = v1 at *
      have BX : Hid (wr.heap.size < v1.heap.size) := (Array.getElem?_eq_some_iff.1 AX.out).1
      obtain ⟨bx, hbx⟩ : ∃ b, wr.heap.size = b := ⟨_, rfl⟩
      simp only [hbx] at AX BX ⊢
      have b1 := blk_cell (o := 1) AX.out
      simp only [List.getElem?_toArray, List.getElem?_cons_zero, List.getElem?_cons_succ] at b1
      have LK' := LK.out
      go_upto_region 10 with fail
      clear b1 LK LK'
      have AL : Below v1.heap.size v1 (v1.alloc (.cells #[.int .u64 (y.id : Nat), .int .u64 (y.seq : Nat), .int .i64 y.t] 34)) := (Below.refl _ _).alloc (Nat.le_refl _) _
      replace AX := Lib.hid ((AL.block _ BX.out).trans AX.out)
      have LB : Below wr.heap.size wr (v1.alloc (.cells #[.int .u64 (y.id : Nat), .int .u64 (y.seq : Nat), .int .i64 y.t] 34)) := LT.out.trans (AL.mono (by rw [hbx]; exact Nat.le_of_lt BX.out))
      generalize v1.alloc (.cells #[.int .u64 (y.id : Nat), .int .u64 (y.seq : Nat), .int .i64 y.t] 34) = v0 at *
      generalize v1.heap.size = by' at *
      have MV : Hid (OrdS C w bx v0 v0 N m L D) := by unfold Hid; rw [← hbx]; exact I.out.start LB
      clear LT AL LB I hbx
      have KC : Hid (∀ w' T1 T2 T3, Side w bx v0 w' T1 T2 T3 → (w'.cell? ⟨bx, 0, none⟩ = some (.int .i64 k) ∧ w'.cell? ⟨bx, 1, none⟩ = some (.int .u64 (xi : Nat)) ∧ w'.cell? ⟨bx, 2, none⟩ = some (.int .u64 (xs : Nat)) ∧ w'.cell? ⟨bx, 3, none⟩ = some (.int .i64 xt))) := fun w' T1 T2 T3 h =>
        ⟨h.cells (Nat.le_refl _) AX.out, h.cells (Nat.le_refl _) AX.out, h.cells (Nat.le_refl _) AX.out, h.cells (Nat.le_refl _) AX.out⟩
      obtain ⟨b0, b1, b2, b3⟩ := KC.out v0 _ _ _ MV.out.side
      clear AX BX
      have OX := Lib.hid OK.2
      clear OK
      go_upto_block 2 with fail
      go_cut [10, 11, 12, 13, 14, 16] from 60 to 170 (fun _ _ _ _ _ _ wx => ∃ L1 D1, Hid (OrdS C w bx v0 wx N m L1 D1))
      case first =>
        /- switch: begin -/
        by_cases k0 : k = 0
        · have j0 : (k == 0) = true := by rw [k0]; rfl
          clear k0
          as_aux_lemma =>
          have S0 := MV.out.side
          have PU := S0.hpush ⟨xi, xs, xt⟩ OX.out
          have LN := MV.out.len 3
          have fit := S0.hfit.1
          rcases YB.out with ⟨rfl, -, -, kk, hk, -⟩ | ⟨rfl, -, hk, ni⟩
          · rw [(push_there hk).1, (push_there hk).2] at PU
            have PU := Lib.hid PU
            unfold itV at PU
            dsimp only at PU
            clear S0 hk fit YB LN
            go_wp2_with fail
            refine PU.out.mono ?_; rintro e w6 ⟨rfl, T1⟩
            have P := Lib.hid (OrdS.mk T1 MV.out.mo MV.out.hp)
            clear T1 PU MV KC b0 b1 b2 b3
            go_wp2_with fail
            go_meet
            exact ⟨L, D, P⟩
          · obtain ⟨nl, hnl⟩ : ∃ nl, L.length = nl := ⟨_, rfl⟩
            by_cases full : 60 ≤ nl
            · rw [(push_full hk (by omega)).1, (push_full hk (by omega)).2] at PU
              have PU := Lib.hid PU
              unfold itV at PU
              dsimp only at PU
              rw [hnl] at LN
              have d1 : ¬ (nl : Int) < 60 := by omega
              have d2 : decide ((nl : Int) < 60) = false := decide_eq_false d1
              have d3 : decide (nl < 60) = false := decide_eq_false (by omega)
              clear S0 hk fit YB full
              go_wp2_with fail
              refine PU.out.mono ?_; rintro e w6 ⟨rfl, T1⟩
              have P := Lib.hid (OrdS.mk T1 MV.out.mo MV.out.hp)
              clear T1 PU MV KC b0 b1 b2 b3 LN
              go_wp2_with fail
              go_meet
              exact ⟨L, D, P⟩
            · rw [(push_in hk (by omega)).1, (push_in hk (by omega)).2] at PU
              have PU := Lib.hid PU
              unfold itV at PU
              dsimp only at PU
              rw [hnl] at LN
              have d1 : (nl : Int) < 60 := by omega
              have d2 : decide ((nl : Int) < 60) = true := decide_eq_true d1
              have d3 : decide (nl < 60) = true := decide_eq_true (by omega)
              have MO := Lib.hid ((MV.out.mo.push ⟨xi, xs, xt⟩ ni).perm (push_perm L ⟨xi, xs, xt⟩).symm)
              have HPN := Lib.hid (push_heap (⟨xi, xs, xt⟩ : It) MV.out.hp)
              have HNL := Lib.hid hnl
              have NM : Hid (nl < maxLen) := by unfold Hid maxLen; omega
              have MZ := Lib.hid MV.out.mo.size
              clear S0 hk fit YB full hnl ni
              go_wp2_with fail
              refine PU.out.mono ?_; rintro e w6 ⟨rfl, T1⟩
              have T1 := Lib.hid T1
              clear PU LN b0 b1 b2 b3
              obtain ⟨b0, b1, b2, b3⟩ := KC.out _ _ _ _ T1.out
              have M6 : Hid (MapI w6 m nl D) := by
                obtain ⟨n6, q6⟩ := T1.out.mmap
                have q7 := q6.tight
                rw [MZ.out, HNL.out] at q7
                exact q7
              have KX := Lib.hid (ki_of OX.out.a)
              clear MV KC
              go_wp2_with (at_mapUpdate; refine wpList_mapUpdate_in _ rfl _ _ _ 59 rfl 32 34 lawI Try.underlying59 RI m nl D rfl M6.out NM.out _ _ _ rfl rfl KX.out _ [] (RI_mk ⟨xi, xs, xt⟩) ?_; intro w7 m7 u7; have P := Lib.hid (OrdS.mk (T1.out.mput m7 u7.grown) MO.out HPN.out); clear m7 u7 T1)
              go_meet
              exact ⟨_, _, P⟩
        · have j0 : (k == 0) = false := by rw [beq_eq_false_iff_ne]; exact k0
          by_cases k1 : k = 1
          · have j1 : (k == 1) = true := by rw [k1]; rfl
            clear k0 k1
            as_aux_lemma =>
            have S0 := MV.out.side
            have PU := S0.hset ⟨xi, xs, xt⟩ OX.out
            rcases YB.out with ⟨rfl, -, hid, kk, hk, hy⟩ | ⟨rfl, -, hk, ni⟩
            · rw [(set_some hk).1, (set_some hk).2] at PU
              have PU := Lib.hid PU
              unfold itV at PU
              dsimp only at PU
              obtain ⟨kl, ek⟩ := place_some hk
              have MO := Lib.hid ((MV.out.mo.set S0.hnod kl ⟨xi, xs, xt⟩ ek).perm (set_perm' ⟨xi, xs, xt⟩ kl).symm)
              have HPN := Lib.hid (set_heap (⟨xi, xs, xt⟩ : It) kl MV.out.hp)
              obtain ⟨nl, hnl⟩ : ∃ nl, L.length = nl := ⟨_, rfl⟩
              have HNL := Lib.hid hnl
              have NM : Hid (nl < maxLen) := by have := S0.hfit; unfold Hid maxLen; omega
              have MZ := Lib.hid MV.out.mo.size
              clear S0 hk YB hnl hid hy kl ek
              go_wp2_with fail
              refine PU.out.mono ?_; rintro e w6 ⟨rfl, T1⟩
              have T1 := Lib.hid T1
              clear PU b0 b1 b2 b3
              obtain ⟨b0, b1, b2, b3⟩ := KC.out _ _ _ _ T1.out
              have M6 : Hid (MapI w6 m nl D) := by
                obtain ⟨n6, q6⟩ := T1.out.mmap
                have q7 := q6.tight
                rw [MZ.out, HNL.out] at q7
                exact q7
              have KX := Lib.hid (ki_of OX.out.a)
              clear MV KC
              go_wp2_with (at_mapUpdate; refine wpList_mapUpdate_in _ rfl _ _ _ 59 rfl 32 34 lawI Try.underlying59 RI m nl D rfl M6.out NM.out _ _ _ rfl rfl KX.out _ [] (RI_mk ⟨xi, xs, xt⟩) ?_; intro w7 m7 u7; have P := Lib.hid (OrdS.mk (T1.out.mput m7 u7.grown) MO.out HPN.out); clear m7 u7 T1)
              go_meet
              exact ⟨_, _, P⟩
            · rw [(set_none hk).1, (set_none hk).2] at PU
              have PU := Lib.hid PU
              unfold itV at PU
              dsimp only at PU
              clear S0 hk YB ni
              go_wp2_with fail
              refine PU.out.mono ?_; rintro e w6 ⟨rfl, T1⟩
              have P := Lib.hid (OrdS.mk T1 MV.out.mo MV.out.hp)
              clear T1 PU MV KC b0 b1 b2 b3
              go_wp2_with fail
              go_meet
              exact ⟨L, D, P⟩
          · have j1 : (k == 1) = false := by rw [beq_eq_false_iff_ne]; exact k1
            by_cases k2 : k = 2
            · have j2 : (k == 2) = true := by rw [k2]; rfl
              clear k0 k1 k2
              as_aux_lemma =>
              /- remove: begin -/
              have S0 := MV.out.side
              have PU := S0.hrem xi OX.out.a
              have KX := Lib.hid (ki_of OX.out.a)
              have MZ := Lib.hid MV.out.mo.size
              rcases YB.out with ⟨rfl, -, hid, kk, hk, hy⟩ | ⟨rfl, -, hk, ni⟩
              · rw [(rem_some hk).1, (rem_some hk).2.1, (rem_some hk).2.2, hy] at PU
                have PU := Lib.hid PU
                unfold itV at PU
                obtain ⟨kl, ek⟩ := place_some hk
                have MO := Lib.hid (MV.out.mo.rem S0.hnod (rem_perm kl))
                rw [ek] at MO
                have HPN := Lib.hid (rem_heap kk MV.out.hp)
                have AK := Lib.hid EY.out
                obtain ⟨nl, hnl⟩ : ∃ nl, L.length = nl := ⟨_, rfl⟩
                have HNL := Lib.hid hnl
                clear S0 hk YB hnl hid hy kl ek EY
                go_wp2_with fail
                refine PU.out.mono ?_; rintro e w6 ⟨rfl, T1⟩
                have T1 := Lib.hid T1
                clear PU b0 b1 b2 b3
                go_upto_region 24 with fail
                have BY := heap_alloc_new w6 (.cells #[.int .u64 (y.id : Nat), .int .u64 (y.seq : Nat), .int .i64 y.t] 34)
                have T2 := Lib.hid (T1.out.below ((Below.refl _ _).alloc (Nat.le_refl _) (.cells #[.int .u64 (y.id : Nat), .int .u64 (y.seq : Nat), .int .i64 y.t] 34)))
                have y0 := blk_cell (o := 0) BY
                have y1 := blk_cell (o := 1) BY
                have y2 := blk_cell (o := 2) BY
                simp only [List.getElem?_toArray, List.getElem?_cons_zero, List.getElem?_cons_succ] at y0 y1 y2
                clear BY T1
                generalize w6.alloc (.cells #[.int .u64 (y.id : Nat), .int .u64 (y.seq : Nat), .int .i64 y.t] 34) = w7 at *
                generalize w6.heap.size = by2 at *
                obtain ⟨b0, b1, b2, b3⟩ := KC.out _ _ _ _ T2.out
                have M6 : Hid (MapI w7 m nl D) := by
                  obtain ⟨n6, q6⟩ := T2.out.mmap
                  have q7 := q6.tight
                  rw [MZ.out, HNL.out] at q7
                  exact q7
                have LK1 := M6.out.look1 OX.out.a AK.out
                unfold itV at LK1
                have NE := fun W => neq_it W y y true (decide_eq_true rfl)
                clear MV KC
                go_upto_region 26 with fail
                clear NE LK1 y0 y1 y2
                go_wp2_with (at_delete; refine wpList_delete_own _ rfl _ _ 59 32 rfl 34 lawI Try.underlying59 RI m nl D rfl M6.out _ _ rfl KX.out ?_; intro w8 m8 u8; have P := Lib.hid (OrdS.mk (T2.out.mput m8 u8.grown) MO.out HPN.out); clear m8 u8 T2)
                go_meet
                exact ⟨_, _, P⟩
              · rw [(rem_none hk).1, (rem_none hk).2.1, (rem_none hk).2.2, show itV zeroI = .agg #[.int .u64 0, .int .u64 0, .int .i64 0] from rfl] at PU
                have PU := Lib.hid PU
                have MO := Lib.hid MV.out.mo
                have HPN := Lib.hid MV.out.hp
                have DD := Lib.hid (MV.out.mo.del_none ni)
                obtain ⟨nl, hnl⟩ : ∃ nl, L.length = nl := ⟨_, rfl⟩
                have HNL := Lib.hid hnl
                clear S0 hk YB hnl ni EY
                go_wp2_with fail
                refine PU.out.mono ?_; rintro e w6 ⟨rfl, T1⟩
                have T1 := Lib.hid T1
                clear PU b0 b1 b2 b3
                go_upto_region 24 with fail
                have T2 := Lib.hid (T1.out.below ((Below.refl _ _).alloc (Nat.le_refl _) (.cells #[.int .u64 0, .int .u64 0, .int .i64 0] 34)))
                clear T1
                generalize w6.alloc (.cells #[.int .u64 0, .int .u64 0, .int .i64 0] 34) = w7 at *
                generalize w6.heap.size = by2 at *
                obtain ⟨b0, b1, b2, b3⟩ := KC.out _ _ _ _ T2.out
                have M6 : Hid (MapI w7 m nl D) := by
                  obtain ⟨n6, q6⟩ := T2.out.mmap
                  have q7 := q6.tight
                  rw [MZ.out, HNL.out] at q7
                  exact q7
                clear MV KC
                go_upto_region 26 with fail
                go_wp2_with (at_delete; refine wpList_delete_own _ rfl _ _ 59 32 rfl 34 lawI Try.underlying59 RI m nl D rfl M6.out _ _ rfl KX.out ?_; intro w8 m8 u8; rw [DD.out] at m8; have P := Lib.hid (OrdS.mk (T2.out.mput m8 u8.grown) MO.out HPN.out); clear m8 u8 T2)
                go_meet
                exact ⟨_, _, P⟩
              /- remove: end -/
            · have j2 : (k == 2) = false := by rw [beq_eq_false_iff_ne]; exact k2
              by_cases k3 : k = 3
              · have j3 : (k == 3) = true := by rw [k3]; rfl
                clear k0 k1 k2 k3
                as_aux_lemma =>
                /- pop: begin -/
                have S0 := MV.out.side
                have PU := S0.hpop
                have MZ := Lib.hid MV.out.mo.size
                by_cases z : L.length = 0
                · rw [(pop_none z).1, (pop_none z).2.1, (pop_none z).2.2, show itV zeroI = .agg #[.int .u64 0, .int .u64 0, .int .i64 0] from rfl] at PU
                  have PU := Lib.hid PU
                  have MO := Lib.hid MV.out.mo
                  have HPN := Lib.hid MV.out.hp
                  have DD : Hid (D.del (ki 0) = D) := MV.out.mo.del_none (by rw [List.length_eq_zero_iff.1 z]; simp)
                  have HD0 : Hid (∀ kl, Maps.has D kl = true → False) := fun kl hk => by
                    have s := MZ.out
                    rw [z] at s
                    obtain ⟨es, rfl, -⟩ := MO.out.tidy
                    rw [Maps.size_eq] at s
                    rw [List.length_eq_zero_iff.1 s] at hk
                    cases hk
                  have HNL := Lib.hid z
                  have K0 := Lib.hid (ki_of (d := 0) (by decide))
                  clear S0 YB z EY
                  go_wp2_with fail
                  refine PU.out.mono ?_; rintro e w6 ⟨rfl, T1⟩
                  have T1 := Lib.hid T1
                  clear PU b0 b1 b2 b3
                  go_upto_region 29 with fail
                  have BY := heap_alloc_new w6 (.cells #[.int .u64 0, .int .u64 0, .int .i64 0] 34)
                  have T2 := Lib.hid (T1.out.below ((Below.refl _ _).alloc (Nat.le_refl _) (.cells #[.int .u64 0, .int .u64 0, .int .i64 0] 34)))
                  have y0 := blk_cell (o := 0) BY
                  simp only [List.getElem?_toArray, List.getElem?_cons_zero] at y0
                  clear T1 BY
                  generalize w6.alloc (.cells #[.int .u64 0, .int .u64 0, .int .i64 0] 34) = w7 at *
                  generalize w6.heap.size = by2 at *
                  have M6 : Hid (MapI w7 m 0 D) := by
                    obtain ⟨n6, q6⟩ := T2.out.mmap
                    have q7 := q6.tight
                    rw [MZ.out, HNL.out] at q7
                    exact q7
                  have LN := M6.out.len_run 3
                  rw [MZ.out, HNL.out] at LN
                  clear MV KC
                  go_upto_region 31 with fail
                  clear LN
                  go_upto_region 32 with (at_delete; refine wpList_delete_own _ rfl _ _ 59 32 rfl 34 lawI Try.underlying59 RI m 0 D rfl M6.out _ _ rfl K0.out ?_; intro w8 m8 u8; rw [DD.out] at m8; have P := Lib.hid (T2.out.mput (D' := D) m8 u8.grown); have M8 : Hid (MapI w8 m 0 D) := m8; clear m8 u8 T2 M6)
                  clear y0
                  go_upto_region 33 with (at_range; refine wpList_range_own _ rfl _ 59 rfl 32 34 lawI Try.underlying59 RI m 0 D rfl M8.out ?_; intro w9 r9 g9 s9; have P9 := Lib.hid (P.out.mrange r9 g9 (Nat.le_refl _)); clear r9 g9 s9 P M8)
                  generalize w8.heap.size = r at *
                  go_wp2_with fail
                  go_frame
                  go_loopw [16] (fun _ wr => ∃ (left : Lit → Bool) (cnt : Nat), Hid (∀ kl, left kl = true → Maps.has D kl = true) ∧ Hid (Side w bx v0 wr (hTh C N 60 L) (gTh m r D left cnt) noTh)) (fun _ wr => wr.rangeLeft m r)
                  case atStart => exact ⟨_, _, Lib.hid (fun kl h => h), P9.out⟩
                  case round =>
                    clear P9
                    obtain ⟨left, cnt, hl, P⟩ := hrel
                    obtain ⟨nr, R⟩ := P.out.gmap
                    have R := Lib.hid R
                    go_wp2_with (at_next; refine wpList_next_it _ rfl _ rfl m r nr D left cnt L rfl R.out MO.out hl.out ?_ ?_)
                    · intro _ _
                      have P2 := Lib.hid (OrdS.mk P.out.gend MO.out HPN.out)
                      clear P R
                      go_wp2_with fail
                      go_meet
                      exact ⟨_, _, P2⟩
                    · intro x _ _ _ lk
                      exact (HD0.out _ (hl.out _ lk)).elim
                · have l0 : 0 < L.length := by omega
                  obtain ⟨x0, hx0⟩ : ∃ x, gt L 0 = x := ⟨_, rfl⟩
                  rw [(pop_some l0).1, (pop_some l0).2.1, (pop_some l0).2.2, hx0] at PU
                  have PU := Lib.hid PU
                  unfold itV at PU
                  have m0 : x0 ∈ L := by rw [← hx0]; exact gt_mem l0
                  have MO : Hid (MoD (D.del (ki x0.id)) (remL L 0)) := by have := MV.out.mo.rem S0.hnod (rem_perm l0); rw [hx0] at this; exact this
                  have HPN := Lib.hid (rem_heap 0 MV.out.hp)
                  have AK : Hid (D.atKey (ki x0.id) (datI zeroI) = datI x0) := MV.out.mo.at_ x0 m0 _
                  have XO : Hid (x0.id < 18446744073709551616) := (S0.hoks x0 m0).a
                  have AH : Hid (∀ y, y ∈ remL L 0 → ahd x0 y = true) := fun y hy => by
                    have pm := rem_perm l0
                    have yl : y ∈ L := pm.mem_iff.1 (List.mem_cons_of_mem _ hy)
                    have ne : y ≠ gt L 0 := fun e => by
                      have nd := Nod.perm pm.symm S0.hnod
                      unfold Nod at nd
                      rw [List.map_cons, List.nodup_cons] at nd
                      exact nd.1 (by rw [← e]; exact List.mem_map.2 ⟨y, hy, rfl⟩)
                    rw [← hx0]
                    exact MV.out.hp.ahead yl ne
                  have AC : Hid (∀ w' a b, Calls Try.prog 27 #[itV a, itV b] w' fun e w'' => e = .returned (.bool (ahd a b)) ∧ Below w'.heap.size w' w'') := C.ahead
                  obtain ⟨nl, hnl⟩ : ∃ nl, L.length = nl := ⟨_, rfl⟩
                  have HNL := Lib.hid hnl
                  have n0 : (0 : Int) < (nl : Int) := by omega
                  have n1 : decide ((0 : Int) < (nl : Int)) = true := decide_eq_true n0
                  have n2 : decide (0 < nl) = true := decide_eq_true (by omega)
                  have KX := Lib.hid (ki_of XO.out)
                  clear S0 YB z EY l0 hx0 m0 hnl
                  go_wp2_with fail
                  refine PU.out.mono ?_; rintro e w6 ⟨rfl, T1⟩
                  have T1 := Lib.hid T1
                  clear PU b0 b1 b2 b3
                  go_upto_region 29 with fail
                  have T2 := Lib.hid (T1.out.add (T' := boxTh w6.heap.size (.cells #[.int .u64 (x0.id : Nat), .int .u64 (x0.seq : Nat), .int .i64 x0.t] 34 (0, 0))) ((Below.refl w6.heap.size w6).alloc (Nat.le_refl _) (.cells #[.int .u64 (x0.id : Nat), .int .u64 (x0.seq : Nat), .int .i64 x0.t] 34)) (F' := fun J => J = w6.heap.size) ⟨heap_alloc_new _ _, fun _ => Iff.rfl⟩ (fun J hJ => by rw [hJ]; exact Nat.le_refl _))
                  clear T1
                  generalize w6.alloc (.cells #[.int .u64 (x0.id : Nat), .int .u64 (x0.seq : Nat), .int .i64 x0.t] 34) = w7 at *
                  generalize w6.heap.size = by2 at *
                  have BY := T2.out.box
                  have y0 := blk_cell (o := 0) BY
                  have y1 := blk_cell (o := 1) BY
                  have y2 := blk_cell (o := 2) BY
                  simp only [List.getElem?_toArray, List.getElem?_cons_zero, List.getElem?_cons_succ] at y0 y1 y2
                  have M6 : Hid (MapI w7 m nl D) := by
                    obtain ⟨n6, q6⟩ := T2.out.mmap
                    have q7 := q6.tight
                    rw [MZ.out, HNL.out] at q7
                    exact q7
                  have LN := M6.out.len_run 3
                  rw [MZ.out, HNL.out] at LN
                  have LK1 := M6.out.look1 XO.out AK.out
                  unfold itV at LK1
                  have NE := fun W => neq_it W x0 x0 true (decide_eq_true rfl)
                  clear MV KC BY
                  go_upto_region 31 with fail
                  clear LN LK1 NE y1 y2
                  go_upto_region 32 with (at_delete; refine wpList_delete_own _ rfl _ _ 59 32 rfl 34 lawI Try.underlying59 RI m nl D rfl M6.out _ _ rfl KX.out ?_; intro w8 m8 u8; have P := Lib.hid (T2.out.mput (D' := D.del (ki x0.id)) m8 u8.grown); have M8 : Hid (MapI w8 m nl (D.del (ki x0.id))) := m8; clear m8 u8 T2 M6)
                  clear y0
                  generalize D.del (ki x0.id) = D2 at *
                  go_upto_region 33 with (at_range; refine wpList_range_own _ rfl _ 59 rfl 32 34 lawI Try.underlying59 RI m nl D2 rfl M8.out ?_; intro w9 r9 g9 s9; have P9 := Lib.hid (P.out.mrange r9 g9 (Nat.le_refl _)); clear r9 g9 s9 P M8)
                  generalize w8.heap.size = r at *
                  go_wp2_with fail
                  go_frame
                  go_loopw [16] (fun _ wr => ∃ (left : Lit → Bool) (cnt : Nat), Hid (∀ kl, left kl = true → Maps.has D2 kl = true) ∧ Hid (Side w bx v0 wr (hTh C N 60 (remL L 0)) (gTh m r D2 left cnt) (boxTh by2 (.cells #[.int .u64 (x0.id : Nat), .int .u64 (x0.seq : Nat), .int .i64 x0.t] 34 (0, 0))))) (fun _ wr => wr.rangeLeft m r)
                  case atStart => exact ⟨_, _, Lib.hid (fun kl h => h), P9.out⟩
                  case round =>
                    clear P9
                    obtain ⟨left, cnt, hl, P⟩ := hrel
                    obtain ⟨nr, R⟩ := P.out.gmap
                    have R := Lib.hid R
                    go_wp2_with (at_next; refine wpList_next_it _ rfl _ rfl m r nr D2 left cnt (remL L 0) rfl R.out MO.out hl.out ?_ ?_)
                    · intro _ _
                      have P2 := Lib.hid (OrdS.mk P.out.gend.drop MO.out HPN.out)
                      clear P R
                      go_wp2_with fail
                      go_meet
                      exact ⟨_, _, P2⟩
                    · intro x w10 cnt2 hx lk r10 lt10 g10 en
                      have P10 := Lib.hid (P.out.gnext r10 g10)
                      have MS : Hid (w10.rangeLeft m r < wr.rangeLeft m r) := by unfold Hid; rw [World.ranges.left_eq r10, World.ranges.left_eq R.out]; exact lt10
                      have HL2 : Hid (∀ kl, (left kl && !kl.sameKey (ki x.id)) = true → Maps.has D2 kl = true) := fun kl h => hl.out kl (by simp at h; exact h.1)
                      have A1 := Lib.hid (AH.out x hx)
                      unfold itV at en
                      clear P R r10 lt10 g10 lk hx hl
                      go_upto_region 35 with fail
                      clear en
                      have BB := heap_alloc_new w10 (.cells #[.int .u64 (x.id : Nat), .int .u64 (x.seq : Nat), .int .i64 x.t] 34)
                      have T11 := Lib.hid (P10.out.below ((Below.refl _ _).alloc (Nat.le_refl _) (.cells #[.int .u64 (x.id : Nat), .int .u64 (x.seq : Nat), .int .i64 x.t] 34)))
                      have MS2 : Hid ((w10.alloc (.cells #[.int .u64 (x.id : Nat), .int .u64 (x.seq : Nat), .int .i64 x.t] 34)).rangeLeft m r < wr.rangeLeft m r) := by
                        obtain ⟨n1, R1⟩ := P10.out.gmap
                        obtain ⟨n2, R2⟩ := T11.out.gmap
                        have q := MS.out
                        rw [World.ranges.left_eq R1] at q
                        unfold Hid
                        rw [World.ranges.left_eq R2]
                        exact q
                      have a0 := blk_cell (o := 0) BB
                      have a1 := blk_cell (o := 1) BB
                      have a2 := blk_cell (o := 2) BB
                      simp only [List.getElem?_toArray, List.getElem?_cons_zero, List.getElem?_cons_succ] at a0 a1 a2
                      clear P10 MS BB
                      generalize w10.alloc (.cells #[.int .u64 (x.id : Nat), .int .u64 (x.seq : Nat), .int .i64 x.t] 34) = w11 at *
                      generalize w10.heap.size = by3 at *
                      have BY := T11.out.box
                      have y0 := blk_cell (o := 0) BY
                      have y1 := blk_cell (o := 1) BY
                      have y2 := blk_cell (o := 2) BY
                      simp only [List.getElem?_toArray, List.getElem?_cons_zero, List.getElem?_cons_succ] at y0 y1 y2
                      have AC1 := Lib.hid (AC.out w11 x0 x)
                      rw [A1.out] at AC1
                      unfold itV at AC1
                      clear BY
                      go_wp2_with fail
                      refine AC1.out.mono ?_; rintro e w12 ⟨rfl, b12⟩
                      have T12 := Lib.hid (T11.out.below b12)
                      have MS3 : Hid (w12.rangeLeft m r < wr.rangeLeft m r) := by
                        obtain ⟨n1, R1⟩ := T11.out.gmap
                        obtain ⟨n2, R2⟩ := T12.out.gmap
                        have q := MS2.out
                        rw [World.ranges.left_eq R1] at q
                        unfold Hid
                        rw [World.ranges.left_eq R2]
                        exact q
                      clear AC1 b12 T11 MS2 y0 y1 y2 a0 a1 a2 A1
                      go_wp2
                      go_roundw
                      case rel => exact ⟨_, _, HL2, T12⟩
                      case measure => exact MS3.out
                /- pop: end -/
              · have j3 : (k == 3) = false := by rw [beq_eq_false_iff_ne]; exact k3
                clear k0 k1 k2 k3 KC YB
                go_wp2_with fail
                go_meet
                exact ⟨L, D, MV⟩
        /- switch: end -/
      case rest =>
      obtain ⟨L1, D1, J⟩ := hcut
      clear MV b0 b1 b2 b3 YB EY OX KC
      as_aux_lemma =>
      /- row: begin -/
      have RW := Lib.hid J.out.side.hrow
      obtain ⟨nl, hnl⟩ : ∃ nl, L1.length = nl := ⟨_, rfl⟩
      have HNL := Lib.hid hnl
      rw [hnl] at RW
      have n60 : (nl : Int) ≤ 60 := by have := J.out.side.hfit.1; omega
      clear hnl
      go_wp2_with fail
      refine RW.out.mono ?_; rintro e w20 ⟨p2, c2, rfl, hr, b20⟩
      have HR := Lib.hid hr
      have J2 : Hid (OrdS C w w20.heap.size w20 w20 N m L1 D1) := (J.out.below b20).start (Below.refl _ _)
      have LN := J2.out.len 3
      rw [HNL.out] at LN
      have nn : ((nl : Int) != (nl : Int)) = false := by simp
      clear J RW hr b20
      go_upto_region 40 with fail
      clear LN nn
      go_wp2_with fail
      go_loopw [180] (fun i wr => ∃ (j : Nat), i = .int .i64 (j : Nat) ∧ Hid (j ≤ nl) ∧ Hid (Below w20.heap.size w20 wr)) (fun i _ => 1000 - (intOf i).toNat)
      case atStart => exact ⟨0, rfl, Nat.zero_le _, Below.refl _ _⟩
      case round =>
        obtain ⟨j, rfl, hj, low⟩ := hrel
        have j0 : (0 : Int) ≤ (j : Int) := by omega
        have jl : (j : Int) ≤ 60 := by have := hj.out; omega
        by_cases z : nl ≤ j
        · have z1 : (nl : Int) ≤ (j : Int) := by omega
          have z2 : decide ((j : Int) < (nl : Int)) = false := decide_eq_false (by omega)
          have I2 : Hid (OrdS C w wr.heap.size wr wr N m L1 D1) := (J2.out.below low.out).start (Below.refl _ _)
          clear hj z J2 HR low HNL
          go_wp2
          go_roundw
          case rel => exact ⟨q + 1, L1, D1, by go_num, NB.out, I2.out⟩
          case measure => simp [intOf]; omega
        have jn : (j : Int) < (nl : Int) := by omega
        have JL : Hid (j < L1.length) := by have := HNL.out; unfold Hid; omega
        have JB : Hid (j + 1 ≤ nl) := by unfold Hid; omega
        obtain ⟨x, hx⟩ : ∃ x, gt L1 j = x := ⟨_, rfl⟩
        obtain ⟨a2, rfl, r0, r1, r2⟩ := (HR.out.below low.out).at (i := j) (by omega)
        rw [hx] at r0 r1 r2
        have mx : x ∈ L1 := by rw [← hx]; exact gt_mem JL.out
        have XO : Hid (x.id < 18446744073709551616) := (J2.out.side.hoks x mx).a
        have PLX : place L1 x.id = some j := place_of J2.out.side.hnod JL.out (by rw [hx])
        have AK : Hid (D1.atKey (ki x.id) (datI zeroI) = datI x) := J2.out.mo.at_ x mx _
        have FI : Hid (∀ w', Below w20.heap.size w20 w' → Calls Try.prog 22 #[.pointer (some ⟨N, 0, none⟩), .int .u64 (x.id : Nat)] w' fun e w'' => e = .returned (.tuple #[.agg #[.int .u64 (x.id : Nat), .int .u64 (x.seq : Nat), .int .i64 x.t], .int .i64 (j : Nat), .bool true]) ∧ Below w'.heap.size w' w'') := fun w' b => by
          have f := (J2.out.below b).side.hfind x.id XO.out
          have e1 : findK L1 x.id = (j : Int) := by unfold findK; rw [PLX]
          rw [(rem_some PLX).2.1, e1, PLX, hx] at f
          exact f.mono fun e w'' ⟨e2, b2⟩ => ⟨e2, b2⟩
        have LKX : Hid (∀ w', Below w20.heap.size w20 w' → (Instr.lookup 59 (.map (some m)) (.int .u64 (x.id : Nat)) false).run Try.prog w' = .ok (.agg #[.int .u64 (x.id : Nat), .int .u64 (x.seq : Nat), .int .i64 x.t]) w') := fun w' b => (J2.out.below b).map.look1 XO.out AK.out
        have NE := fun W => neq_it W x x true (decide_eq_true rfl)
        have jj : ((j : Int) != (j : Int)) = false := by simp
        have AC : Hid (∀ w' a b, Calls Try.prog 27 #[itV a, itV b] w' fun e w'' => e = .returned (.bool (ahd a b)) ∧ Below w'.heap.size w' w'') := C.ahead
        have HH : Hid (0 < j → ahd x (gt L1 (par j)) = false) := fun h0 => by rw [← hx]; exact J2.out.hp j h0 JL.out
        clear z hj mx PLX AK hx
        go_upto_region 43 with fail
        have B19 := heap_alloc_new wr (.cells #[.int .u64 (x.id : Nat), .int .u64 (x.seq : Nat), .int .i64 x.t] 34)
        have L19 := Lib.hid (low.out.trans (((Below.refl _ _).alloc (Nat.le_refl _) (.cells #[.int .u64 (x.id : Nat), .int .u64 (x.seq : Nat), .int .i64 x.t] 34) : Below wr.heap.size wr _).mono low.out.size))
        have x0 := blk_cell (o := 0) B19
        simp only [List.getElem?_toArray, List.getElem?_cons_zero] at x0
        have B19 := Lib.hid B19
        clear r0 r1 r2 low
        generalize wr.alloc (.cells #[.int .u64 (x.id : Nat), .int .u64 (x.seq : Nat), .int .i64 x.t] 34) = w21 at *
        generalize wr.heap.size = k19 at *
        have FI2 := Lib.hid (FI.out w21 L19.out)
        clear FI
        go_wp2_with fail
        refine FI2.out.mono ?_; rintro e w22 ⟨rfl, b22⟩
        have B22 := Lib.hid ((b22.block _ (Array.getElem?_eq_some_iff.1 B19.out).1).trans B19.out)
        have L22 := Lib.hid (L19.out.trans (b22.mono L19.out.size))
        clear FI2 b22 B19 L19 x0
        go_upto_region 44 with fail
        have AL : Below w22.heap.size w22 (w22.alloc (.cells #[.int .u64 (x.id : Nat), .int .u64 (x.seq : Nat), .int .i64 x.t] 34)) := (Below.refl _ _).alloc (Nat.le_refl _) _
        have B20 := Lib.hid (heap_alloc_new w22 (.cells #[.int .u64 (x.id : Nat), .int .u64 (x.seq : Nat), .int .i64 x.t] 34))
        have B23 := Lib.hid ((AL.block _ (Array.getElem?_eq_some_iff.1 B22.out).1).trans B22.out)
        have L23 := Lib.hid (L22.out.trans (AL.mono L22.out.size))
        clear AL B22 L22
        generalize w22.alloc (.cells #[.int .u64 (x.id : Nat), .int .u64 (x.seq : Nat), .int .i64 x.t] 34) = w23 at *
        generalize w22.heap.size = k20 at *
        have KX : Hid (∀ w', Below w23.heap.size w23 w' → (w'.cell? ⟨k19, 0, none⟩ = some (.int .u64 (x.id : Nat)) ∧ w'.cell? ⟨k19, 1, none⟩ = some (.int .u64 (x.seq : Nat)) ∧ w'.cell? ⟨k19, 2, none⟩ = some (.int .i64 x.t)) ∧ (w'.cell? ⟨k20, 0, none⟩ = some (.int .u64 (x.id : Nat)) ∧ w'.cell? ⟨k20, 1, none⟩ = some (.int .u64 (x.seq : Nat)) ∧ w'.cell? ⟨k20, 2, none⟩ = some (.int .i64 x.t)) ∧
            (Instr.lookup 59 (.map (some m)) (.int .u64 (x.id : Nat)) false).run Try.prog w' = .ok (.agg #[.int .u64 (x.id : Nat), .int .u64 (x.seq : Nat), .int .i64 x.t]) w') := fun w' b => by
          have e1 := (b.block _ (Array.getElem?_eq_some_iff.1 B23.out).1).trans B23.out
          have e2 := (b.block _ (Array.getElem?_eq_some_iff.1 B20.out).1).trans B20.out
          exact ⟨⟨blk_cell e1, blk_cell e1, blk_cell e1⟩, ⟨blk_cell e2, blk_cell e2, blk_cell e2⟩, LKX.out w' (L23.out.trans (b.mono L23.out.size))⟩
        have HB0 : Below w23.heap.size w23 w23.drew := (Below.refl _ _).drew
        clear B20 B23 LKX
        by_cases z : j = 0
        · subst z
          have RL : Hid (Below w20.heap.size w20 w23.drew) := L23.out.trans (HB0.mono L23.out.size)
          clear AC HH L23
          as_aux_lemma =>
          go_wp2_with fail
          /- r44z: begin -/
          refine wp_region_held_drew (S := fun w' => (w'.cell? ⟨k19, 0, none⟩ = some (.int .u64 (x.id : Nat)) ∧ w'.cell? ⟨k19, 1, none⟩ = some (.int .u64 (x.seq : Nat)) ∧ w'.cell? ⟨k19, 2, none⟩ = some (.int .i64 x.t)) ∧ (w'.cell? ⟨k20, 0, none⟩ = some (.int .u64 (x.id : Nat)) ∧ w'.cell? ⟨k20, 1, none⟩ = some (.int .u64 (x.seq : Nat)) ∧ w'.cell? ⟨k20, 2, none⟩ = some (.int .i64 x.t)) ∧ (Instr.lookup 59 (.map (some m)) (.int .u64 (x.id : Nat)) false).run Try.prog w' = .ok (.agg #[.int .u64 (x.id : Nat), .int .u64 (x.seq : Nat), .int .i64 x.t]) w') (by kernel_rfl) (KX.out _ HB0) (fun hHeld => ?_)
          refine wpAnyH_take (i := 0) (v := ?_) (by (simp only [List.getElem?_toArray, List.getElem?_cons_zero]; exact rfl)) (by kernel_rfl) (by kernel_rfl) (by kernel_rfl) (by exact fun _ _ _ h => h) (Or.inl ⟨by rfl, ?_⟩) (by assumption) ?_
          rotate_left
          · (intro w hSw; (try dsimp only at hSw); first | (go_simp; done) | (go_simp; with_reducible rfl))
          try simp only [Act.put, List.setIfInBounds_toArray, List.set_cons_zero, List.set_cons_succ]
          refine wpAnyH_take (i := 1) (v := ?_) (by (simp only [List.getElem?_toArray, List.getElem?_cons_zero, List.getElem?_cons_succ]; exact rfl)) (by kernel_rfl) (by kernel_rfl) (by kernel_rfl) (by exact fun _ _ _ h => h) (Or.inl ⟨by rfl, ?_⟩) (by assumption) ?_
          rotate_left
          · (intro w hSw; (try dsimp only at hSw); first | (go_simp; done) | (go_simp; with_reducible rfl))
          try simp only [Act.put, List.setIfInBounds_toArray, List.set_cons_zero, List.set_cons_succ]
          refine wpAnyH_take (i := 2) (v := ?_) (by (simp only [List.getElem?_toArray, List.getElem?_cons_zero, List.getElem?_cons_succ]; exact rfl)) (by kernel_rfl) (by kernel_rfl) (by kernel_rfl) (by exact fun _ _ _ h => h) (Or.inl ⟨by rfl, ?_⟩) (by assumption) ?_
          rotate_left
          · (intro w hSw; (try dsimp only at hSw); first | (go_simp; done) | (go_simp; with_reducible rfl))
          try simp only [Act.put, List.setIfInBounds_toArray, List.set_cons_zero, List.set_cons_succ]
          refine wpAnyH_take (i := 3) (v := undef) (by (simp only [List.getElem?_toArray, List.getElem?_cons_zero, List.getElem?_cons_succ]; exact rfl)) (by kernel_rfl) (by kernel_rfl) (by kernel_rfl) (by exact fun _ _ _ h => h) (Or.inr ⟨by rfl, rfl⟩) (by assumption) ?_
          try simp only [Act.put, List.setIfInBounds_toArray, List.set_cons_zero, List.set_cons_succ]
          refine wpAnyH_take (i := 4) (v := undef) (by (simp only [List.getElem?_toArray, List.getElem?_cons_zero, List.getElem?_cons_succ]; exact rfl)) (by kernel_rfl) (by kernel_rfl) (by kernel_rfl) (by exact fun _ _ _ h => h) (Or.inr ⟨by rfl, rfl⟩) (by assumption) ?_
          try simp only [Act.put, List.setIfInBounds_toArray, List.set_cons_zero, List.set_cons_succ]
          refine wpAnyH_take (i := 5) (v := undef) (by (simp only [List.getElem?_toArray, List.getElem?_cons_zero, List.getElem?_cons_succ]; exact rfl)) (by kernel_rfl) (by kernel_rfl) (by kernel_rfl) (by exact fun _ _ _ h => h) (Or.inr ⟨by rfl, rfl⟩) (by assumption) ?_
          try simp only [Act.put, List.setIfInBounds_toArray, List.set_cons_zero, List.set_cons_succ]
          refine wpAnyH_take (i := 6) (v := undef) (by (simp only [List.getElem?_toArray, List.getElem?_cons_zero, List.getElem?_cons_succ]; exact rfl)) (by kernel_rfl) (by kernel_rfl) (by kernel_rfl) (by exact fun _ _ _ h => h) (Or.inr ⟨by rfl, rfl⟩) (by assumption) ?_
          try simp only [Act.put, List.setIfInBounds_toArray, List.set_cons_zero, List.set_cons_succ]
          refine wpAnyH_take (i := 7) (v := undef) (by (simp only [List.getElem?_toArray, List.getElem?_cons_zero, List.getElem?_cons_succ]; exact rfl)) (by kernel_rfl) (by kernel_rfl) (by kernel_rfl) (by exact fun _ _ _ h => h) (Or.inr ⟨by rfl, rfl⟩) (by assumption) ?_
          try simp only [Act.put, List.setIfInBounds_toArray, List.set_cons_zero, List.set_cons_succ]
          refine wpAnyH_take (i := 8) (v := undef) (by (simp only [List.getElem?_toArray, List.getElem?_cons_zero, List.getElem?_cons_succ]; exact rfl)) (by kernel_rfl) (by kernel_rfl) (by kernel_rfl) (by exact fun _ _ _ h => h) (Or.inr ⟨by rfl, rfl⟩) (by assumption) ?_
          try simp only [Act.put, List.setIfInBounds_toArray, List.set_cons_zero, List.set_cons_succ]
          refine wpAnyH_take (i := 9) (v := undef) (by (simp only [List.getElem?_toArray, List.getElem?_cons_zero, List.getElem?_cons_succ]; exact rfl)) (by kernel_rfl) (by kernel_rfl) (by kernel_rfl) (by exact fun _ _ _ h => h) (Or.inr ⟨by rfl, rfl⟩) (by assumption) ?_
          try simp only [Act.put, List.setIfInBounds_toArray, List.set_cons_zero, List.set_cons_succ]
          refine wpAnyH_take (i := 10) (v := undef) (by (simp only [List.getElem?_toArray, List.getElem?_cons_zero, List.getElem?_cons_succ]; exact rfl)) (by kernel_rfl) (by kernel_rfl) (by kernel_rfl) (by exact fun _ _ _ h => h) (Or.inr ⟨by rfl, rfl⟩) (by assumption) ?_
          try simp only [Act.put, List.setIfInBounds_toArray, List.set_cons_zero, List.set_cons_succ]
          refine wpAnyH_take (i := 11) (v := ?_) (by (simp only [List.getElem?_toArray, List.getElem?_cons_zero, List.getElem?_cons_succ]; exact rfl)) (by kernel_rfl) (by kernel_rfl) (by kernel_rfl) (by exact fun _ _ _ h => h) (Or.inl ⟨by rfl, ?_⟩) (by assumption) ?_
          rotate_left
          · (intro w hSw; (try dsimp only at hSw); first | (go_simp; done) | (go_simp; with_reducible rfl))
          try simp only [Act.put, List.setIfInBounds_toArray, List.set_cons_zero, List.set_cons_succ]
          refine wpAnyH_take (i := 12) (v := ?_) (by (simp only [List.getElem?_toArray, List.getElem?_cons_zero, List.getElem?_cons_succ]; exact rfl)) (by kernel_rfl) (by kernel_rfl) (by kernel_rfl) (by exact fun _ _ _ h => h) (Or.inl ⟨by rfl, ?_⟩) (by assumption) ?_
          rotate_left
          · (intro w hSw; (try dsimp only at hSw); first | (go_simp; done) | (go_simp; with_reducible rfl))
          try simp only [Act.put, List.setIfInBounds_toArray, List.set_cons_zero, List.set_cons_succ]
          refine wpAnyH_take (i := 13) (v := ?_) (by (simp only [List.getElem?_toArray, List.getElem?_cons_zero, List.getElem?_cons_succ]; exact rfl)) (by kernel_rfl) (by kernel_rfl) (by kernel_rfl) (by exact fun _ _ _ h => h) (Or.inl ⟨by rfl, ?_⟩) (by assumption) ?_
          rotate_left
          · (intro w hSw; (try dsimp only at hSw); first | (go_simp; done) | (go_simp; with_reducible rfl))
          try simp only [Act.put, List.setIfInBounds_toArray, List.set_cons_zero, List.set_cons_succ]
          refine wpAnyH_take (i := 14) (v := ?_) (by (simp only [List.getElem?_toArray, List.getElem?_cons_zero, List.getElem?_cons_succ]; exact rfl)) (by kernel_rfl) (by kernel_rfl) (by kernel_rfl) (by exact fun _ _ _ h => h) (Or.inl ⟨by rfl, ?_⟩) (by assumption) ?_
          rotate_left
          · (intro w hSw; (try dsimp only at hSw); first | (go_simp; done) | (go_simp; with_reducible rfl))
          try simp only [Act.put, List.setIfInBounds_toArray, List.set_cons_zero, List.set_cons_succ]
          refine wpAnyH_take (i := 15) (v := ?_) (by (simp only [List.getElem?_toArray, List.getElem?_cons_zero, List.getElem?_cons_succ]; exact rfl)) (by kernel_rfl) (by kernel_rfl) (by kernel_rfl) (by exact fun _ _ _ h => h) (Or.inl ⟨by rfl, ?_⟩) (by assumption) ?_
          rotate_left
          · (intro w hSw; (try dsimp only at hSw); first | (go_simp; done) | (go_simp; with_reducible rfl))
          try simp only [Act.put, List.setIfInBounds_toArray, List.set_cons_zero, List.set_cons_succ]
          refine wpAnyH_take (i := 16) (v := ?_) (by (simp only [List.getElem?_toArray, List.getElem?_cons_zero, List.getElem?_cons_succ]; exact rfl)) (by kernel_rfl) (by kernel_rfl) (by kernel_rfl) (by exact fun _ _ _ h => h) (Or.inl ⟨by rfl, ?_⟩) (by assumption) ?_
          rotate_left
          · (intro w hSw; (try dsimp only at hSw); first | (go_simp; done) | (go_simp; with_reducible rfl))
          try simp only [Act.put, List.setIfInBounds_toArray, List.set_cons_zero, List.set_cons_succ]
          refine wpAnyH_take (i := 17) (v := ?_) (by (simp only [List.getElem?_toArray, List.getElem?_cons_zero, List.getElem?_cons_succ]; exact rfl)) (by kernel_rfl) (by kernel_rfl) (by kernel_rfl) (by exact fun _ _ _ h => h) (Or.inl ⟨by rfl, ?_⟩) (by assumption) ?_
          rotate_left
          · (intro w hSw; (try dsimp only at hSw); first | (go_simp; done) | (go_simp; with_reducible rfl))
          try simp only [Act.put, List.setIfInBounds_toArray, List.set_cons_zero, List.set_cons_succ]
          refine wpAnyH_take (i := 18) (v := ?_) (by (simp only [List.getElem?_toArray, List.getElem?_cons_zero, List.getElem?_cons_succ]; exact rfl)) (by kernel_rfl) (by kernel_rfl) (by kernel_rfl) (by exact fun _ _ _ h => h) (Or.inl ⟨by rfl, ?_⟩) (by assumption) ?_
          rotate_left
          · (intro w hSw; (try dsimp only at hSw); first | (go_simp; done) | (go_simp; with_reducible rfl))
          try simp only [Act.put, List.setIfInBounds_toArray, List.set_cons_zero, List.set_cons_succ]
          refine wpAnyH_take (i := 19) (v := ?_) (by (simp only [List.getElem?_toArray, List.getElem?_cons_zero, List.getElem?_cons_succ]; exact rfl)) (by kernel_rfl) (by kernel_rfl) (by kernel_rfl) (by exact fun _ _ _ h => h) (Or.inl ⟨by rfl, ?_⟩) (by assumption) ?_
          rotate_left
          · (intro w hSw; (try dsimp only at hSw); first | (go_simp; done) | (go_simp; with_reducible rfl))
          try simp only [Act.put, List.setIfInBounds_toArray, List.set_cons_zero, List.set_cons_succ]
          refine wpAnyH_take (i := 20) (v := ?_) (by (simp only [List.getElem?_toArray, List.getElem?_cons_zero, List.getElem?_cons_succ]; exact rfl)) (by kernel_rfl) (by kernel_rfl) (by kernel_rfl) (by exact fun _ _ _ h => h) (Or.inl ⟨by rfl, ?_⟩) (by assumption) ?_
          rotate_left
          · (intro w hSw; (try dsimp only at hSw); first | (go_simp; done) | (go_simp; with_reducible rfl))
          try simp only [Act.put, List.setIfInBounds_toArray, List.set_cons_zero, List.set_cons_succ]
          refine wpAnyH_take (i := 21) (v := ?_) (by (simp only [List.getElem?_toArray, List.getElem?_cons_zero, List.getElem?_cons_succ]; exact rfl)) (by kernel_rfl) (by kernel_rfl) (by kernel_rfl) (by exact fun _ _ _ h => h) (Or.inl ⟨by rfl, ?_⟩) (by assumption) ?_
          rotate_left
          · (intro w hSw; (try dsimp only at hSw); first | (go_simp; done) | (go_simp; with_reducible rfl))
          try simp only [Act.put, List.setIfInBounds_toArray, List.set_cons_zero, List.set_cons_succ]
          refine wpAnyH_take (i := 22) (v := ?_) (by (simp only [List.getElem?_toArray, List.getElem?_cons_zero, List.getElem?_cons_succ]; exact rfl)) (by kernel_rfl) (by kernel_rfl) (by kernel_rfl) (by exact fun _ _ _ h => h) (Or.inl ⟨by rfl, ?_⟩) (by assumption) ?_
          rotate_left
          · (intro w hSw; (try dsimp only at hSw); first | (go_simp; done) | (go_simp; with_reducible rfl))
          try simp only [Act.put, List.setIfInBounds_toArray, List.set_cons_zero, List.set_cons_succ]
          refine wpAnyH_take (i := 23) (v := ?_) (by (simp only [List.getElem?_toArray, List.getElem?_cons_zero, List.getElem?_cons_succ]; exact rfl)) (by kernel_rfl) (by kernel_rfl) (by kernel_rfl) (by exact fun _ _ _ h => h) (Or.inl ⟨by rfl, ?_⟩) (by assumption) ?_
          rotate_left
          · (intro w hSw; (try dsimp only at hSw); first | (go_simp; done) | (go_simp; with_reducible rfl))
          try simp only [Act.put, List.setIfInBounds_toArray, List.set_cons_zero, List.set_cons_succ]
          refine wpAnyH_take (i := 24) (v := ?_) (by (simp only [List.getElem?_toArray, List.getElem?_cons_zero, List.getElem?_cons_succ]; exact rfl)) (by kernel_rfl) (by kernel_rfl) (by kernel_rfl) (by exact fun _ _ _ h => h) (Or.inl ⟨by rfl, ?_⟩) (by assumption) ?_
          rotate_left
          · (intro w hSw; (try dsimp only at hSw); first | (go_simp; done) | (go_simp; with_reducible rfl))
          try simp only [Act.put, List.setIfInBounds_toArray, List.set_cons_zero, List.set_cons_succ]
          refine wpAnyH_take (i := 25) (v := ?_) (by (simp only [List.getElem?_toArray, List.getElem?_cons_zero, List.getElem?_cons_succ]; exact rfl)) (by kernel_rfl) (by kernel_rfl) (by kernel_rfl) (by exact fun _ _ _ h => h) (Or.inl ⟨by rfl, ?_⟩) (by assumption) ?_
          rotate_left
          · (intro w hSw; (try dsimp only at hSw); first | (go_simp; done) | (go_simp; with_reducible rfl))
          try simp only [Act.put, List.setIfInBounds_toArray, List.set_cons_zero, List.set_cons_succ]
          refine wpAnyH_take (i := 26) (v := ?_) (by (simp only [List.getElem?_toArray, List.getElem?_cons_zero, List.getElem?_cons_succ]; exact rfl)) (by kernel_rfl) (by kernel_rfl) (by kernel_rfl) (by exact fun _ _ _ h => h) (Or.inl ⟨by rfl, ?_⟩) (by assumption) ?_
          rotate_left
          · (intro w hSw; (try dsimp only at hSw); first | (go_simp; done) | (go_simp; with_reducible rfl))
          try simp only [Act.put, List.setIfInBounds_toArray, List.set_cons_zero, List.set_cons_succ]
          refine wpAnyH_take (i := 27) (v := ?_) (by (simp only [List.getElem?_toArray, List.getElem?_cons_zero, List.getElem?_cons_succ]; exact rfl)) (by kernel_rfl) (by kernel_rfl) (by kernel_rfl) (by exact fun _ _ _ h => h) (Or.inl ⟨by rfl, ?_⟩) (by assumption) ?_
          rotate_left
          · (intro w hSw; (try dsimp only at hSw); first | (go_simp; done) | (go_simp; with_reducible rfl))
          try simp only [Act.put, List.setIfInBounds_toArray, List.set_cons_zero, List.set_cons_succ]
          refine wpAnyH_take (i := 28) (v := ?_) (by (simp only [List.getElem?_toArray, List.getElem?_cons_zero, List.getElem?_cons_succ]; exact rfl)) (by kernel_rfl) (by kernel_rfl) (by kernel_rfl) (by exact fun _ _ _ h => h) (Or.inl ⟨by rfl, ?_⟩) (by assumption) ?_
          rotate_left
          · (intro w hSw; (try dsimp only at hSw); first | (go_simp; done) | (go_simp; with_reducible rfl))
          try simp only [Act.put, List.setIfInBounds_toArray, List.set_cons_zero, List.set_cons_succ]
          refine wpAnyH_take (i := 29) (v := ?_) (by (simp only [List.getElem?_toArray, List.getElem?_cons_zero, List.getElem?_cons_succ]; exact rfl)) (by kernel_rfl) (by kernel_rfl) (by kernel_rfl) (by exact fun _ _ _ h => h) (Or.inl ⟨by rfl, ?_⟩) (by assumption) ?_
          rotate_left
          · (intro w hSw; (try dsimp only at hSw); first | (go_simp; done) | (go_simp; with_reducible rfl))
          try simp only [Act.put, List.setIfInBounds_toArray, List.set_cons_zero, List.set_cons_succ]
          refine wpAnyH_take (i := 30) (v := ?_) (by (simp only [List.getElem?_toArray, List.getElem?_cons_zero, List.getElem?_cons_succ]; exact rfl)) (by kernel_rfl) (by kernel_rfl) (by kernel_rfl) (by exact fun _ _ _ h => h) (Or.inl ⟨by rfl, ?_⟩) (by assumption) ?_
          rotate_left
          · (intro w hSw; (try dsimp only at hSw); first | (go_simp; done) | (go_simp; with_reducible rfl))
          try simp only [Act.put, List.setIfInBounds_toArray, List.set_cons_zero, List.set_cons_succ]
          refine wpAnyH_take (i := 31) (v := ?_) (by (simp only [List.getElem?_toArray, List.getElem?_cons_zero, List.getElem?_cons_succ]; exact rfl)) (by kernel_rfl) (by kernel_rfl) (by kernel_rfl) (by exact fun _ _ _ h => h) (Or.inl ⟨by rfl, ?_⟩) (by assumption) ?_
          rotate_left
          · (intro w hSw; (try dsimp only at hSw); first | (go_simp; done) | (go_simp; with_reducible rfl))
          try simp only [Act.put, List.setIfInBounds_toArray, List.set_cons_zero, List.set_cons_succ]
          refine wpAnyH_take (i := 32) (v := ?_) (by (simp only [List.getElem?_toArray, List.getElem?_cons_zero, List.getElem?_cons_succ]; exact rfl)) (by kernel_rfl) (by kernel_rfl) (by kernel_rfl) (by exact fun _ _ _ h => h) (Or.inl ⟨by rfl, ?_⟩) (by assumption) ?_
          rotate_left
          · (intro w hSw; (try dsimp only at hSw); first | (go_simp; done) | (go_simp; with_reducible rfl))
          try simp only [Act.put, List.setIfInBounds_toArray, List.set_cons_zero, List.set_cons_succ]
          refine wpAnyH_take (i := 33) (v := ?_) (by (simp only [List.getElem?_toArray, List.getElem?_cons_zero, List.getElem?_cons_succ]; exact rfl)) (by kernel_rfl) (by kernel_rfl) (by kernel_rfl) (by exact fun _ _ _ h => h) (Or.inl ⟨by rfl, ?_⟩) (by assumption) ?_
          rotate_left
          · (intro w hSw; (try dsimp only at hSw); first | (go_simp; done) | (go_simp; with_reducible rfl))
          try simp only [Act.put, List.setIfInBounds_toArray, List.set_cons_zero, List.set_cons_succ]
          refine wpAnyH_done (by kernel_rfl) ?_ _
          /- r44z: end -/
          go_wp2
          go_roundw
          case rel => exact ⟨1, by go_num, JB.out, RL.out⟩
          case measure => simp [intOf]
        · have jp : 0 < j := by omega
          have jp' : (0 : Int) < (j : Int) := by omega
          have dj : decide ((0 : Int) < (j : Int)) = true := decide_eq_true jp'
          have dj2 : decide (0 < j) = true := decide_eq_true jp
          obtain ⟨q2, u, hq, q2l, hu, uq, w1', w2', w3', w4', q20, q2n⟩ := par_nums jp (by omega : j < nl) (by omega)
          obtain ⟨y2, a1, r1⟩ := ord_row C HR.out L23.out q2l (by have := HH.out jp; rw [hq] at this; exact this)
          have A1 := Lib.hid a1
          have SS := Lib.hid (fun w' b => And.intro (KX.out w' b) (r1 w' b))
          have RL : Hid (∀ w', Below w23.heap.size w23 w' → Below w20.heap.size w20 w') := fun w' b => L23.out.trans (b.mono L23.out.size)
          clear KX AC HH L23 z hq a1 r1 q2l HR
          as_aux_lemma =>
          go_wp2_with fail
          /- r44m: begin -/
          refine wp_region_held_drew (S := fun w' => ((w'.cell? ⟨k19, 0, none⟩ = some (.int .u64 (x.id : Nat)) ∧ w'.cell? ⟨k19, 1, none⟩ = some (.int .u64 (x.seq : Nat)) ∧ w'.cell? ⟨k19, 2, none⟩ = some (.int .i64 x.t)) ∧ (w'.cell? ⟨k20, 0, none⟩ = some (.int .u64 (x.id : Nat)) ∧ w'.cell? ⟨k20, 1, none⟩ = some (.int .u64 (x.seq : Nat)) ∧ w'.cell? ⟨k20, 2, none⟩ = some (.int .i64 x.t)) ∧ (Instr.lookup 59 (.map (some m)) (.int .u64 (x.id : Nat)) false).run Try.prog w' = .ok (.agg #[.int .u64 (x.id : Nat), .int .u64 (x.seq : Nat), .int .i64 x.t]) w') ∧ (w'.cell? (a2.add (q2 * 3)) = some (.int .u64 (y2.id : Nat)) ∧ w'.cell? ⟨(a2.add (q2 * 3)).block, (a2.add (q2 * 3)).off + 1, none⟩ = some (.int .u64 (y2.seq : Nat)) ∧ w'.cell? ⟨(a2.add (q2 * 3)).block, (a2.add (q2 * 3)).off + 2, none⟩ = some (.int .i64 y2.t))) (by kernel_rfl) (SS.out _ HB0) (fun hHeld => ?_)
          refine wpAnyH_take (i := 0) (v := ?_) (by (simp only [List.getElem?_toArray, List.getElem?_cons_zero]; exact rfl)) (by kernel_rfl) (by kernel_rfl) (by kernel_rfl) (by exact fun _ _ _ h => h) (Or.inl ⟨by rfl, ?_⟩) (by assumption) ?_
          rotate_left
          · (intro w hSw; (try dsimp only at hSw); first | (go_simp; done) | (go_simp; with_reducible rfl))
          try simp only [Act.put, List.setIfInBounds_toArray, List.set_cons_zero, List.set_cons_succ]
          refine wpAnyH_take (i := 1) (v := ?_) (by (simp only [List.getElem?_toArray, List.getElem?_cons_zero, List.getElem?_cons_succ]; exact rfl)) (by kernel_rfl) (by kernel_rfl) (by kernel_rfl) (by exact fun _ _ _ h => h) (Or.inl ⟨by rfl, ?_⟩) (by assumption) ?_
          rotate_left
          · (intro w hSw; (try dsimp only at hSw); first | (go_simp; done) | (go_simp; with_reducible rfl))
          try simp only [Act.put, List.setIfInBounds_toArray, List.set_cons_zero, List.set_cons_succ]
          refine wpAnyH_take (i := 2) (v := ?_) (by (simp only [List.getElem?_toArray, List.getElem?_cons_zero, List.getElem?_cons_succ]; exact rfl)) (by kernel_rfl) (by kernel_rfl) (by kernel_rfl) (by exact fun _ _ _ h => h) (Or.inl ⟨by rfl, ?_⟩) (by assumption) ?_
          rotate_left
          · (intro w hSw; (try dsimp only at hSw); first | (go_simp; done) | (go_simp; with_reducible rfl))
          try simp only [Act.put, List.setIfInBounds_toArray, List.set_cons_zero, List.set_cons_succ]
          refine wpAnyH_take (i := 3) (v := ?_) (by (simp only [List.getElem?_toArray, List.getElem?_cons_zero, List.getElem?_cons_succ]; exact rfl)) (by kernel_rfl) (by kernel_rfl) (by kernel_rfl) (by exact fun _ _ _ h => h) (Or.inl ⟨by rfl, ?_⟩) (by assumption) ?_
          rotate_left
          · (intro w hSw; (try dsimp only at hSw); first | (go_simp; done) | (go_simp; with_reducible rfl))
          try simp only [Act.put, List.setIfInBounds_toArray, List.set_cons_zero, List.set_cons_succ]
          refine wpAnyH_take (i := 4) (v := ?_) (by (simp only [List.getElem?_toArray, List.getElem?_cons_zero, List.getElem?_cons_succ]; exact rfl)) (by kernel_rfl) (by kernel_rfl) (by kernel_rfl) (by exact fun _ _ _ h => h) (Or.inl ⟨by rfl, ?_⟩) (by assumption) ?_
          rotate_left
          · (intro w hSw; (try dsimp only at hSw); first | (go_simp; done) | (go_simp; with_reducible rfl))
          try simp only [Act.put, List.setIfInBounds_toArray, List.set_cons_zero, List.set_cons_succ]
          refine wpAnyH_take (i := 5) (v := ?_) (by (simp only [List.getElem?_toArray, List.getElem?_cons_zero, List.getElem?_cons_succ]; exact rfl)) (by kernel_rfl) (by kernel_rfl) (by kernel_rfl) (by exact fun _ _ _ h => h) (Or.inl ⟨by rfl, ?_⟩) (by assumption) ?_
          rotate_left
          · (intro w hSw; (try dsimp only at hSw); first | (go_simp; done) | (go_simp; with_reducible rfl))
          try simp only [Act.put, List.setIfInBounds_toArray, List.set_cons_zero, List.set_cons_succ]
          refine wpAnyH_take (i := 6) (v := ?_) (by (simp only [List.getElem?_toArray, List.getElem?_cons_zero, List.getElem?_cons_succ]; exact rfl)) (by kernel_rfl) (by kernel_rfl) (by kernel_rfl) (by exact fun _ _ _ h => h) (Or.inl ⟨by rfl, ?_⟩) (by assumption) ?_
          rotate_left
          · (intro w hSw; (try dsimp only at hSw); first | (go_simp; done) | (go_simp; with_reducible rfl))
          try simp only [Act.put, List.setIfInBounds_toArray, List.set_cons_zero, List.set_cons_succ]
          refine wpAnyH_take (i := 7) (v := ?_) (by (simp only [List.getElem?_toArray, List.getElem?_cons_zero, List.getElem?_cons_succ]; exact rfl)) (by kernel_rfl) (by kernel_rfl) (by kernel_rfl) (by exact fun _ _ _ h => h) (Or.inl ⟨by rfl, ?_⟩) (by assumption) ?_
          rotate_left
          · (intro w hSw; (try dsimp only at hSw); first | (go_simp; done) | (go_simp; with_reducible rfl))
          try simp only [Act.put, List.setIfInBounds_toArray, List.set_cons_zero, List.set_cons_succ]
          refine wpAnyH_take (i := 8) (v := ?_) (by (simp only [List.getElem?_toArray, List.getElem?_cons_zero, List.getElem?_cons_succ]; exact rfl)) (by kernel_rfl) (by kernel_rfl) (by kernel_rfl) (by exact fun _ _ _ h => h) (Or.inl ⟨by rfl, ?_⟩) (by assumption) ?_
          rotate_left
          · (intro w hSw; (try dsimp only at hSw); first | (go_simp; done) | (go_simp; with_reducible rfl))
          try simp only [Act.put, List.setIfInBounds_toArray, List.set_cons_zero, List.set_cons_succ]
          refine wpAnyH_take (i := 9) (v := ?_) (by (simp only [List.getElem?_toArray, List.getElem?_cons_zero, List.getElem?_cons_succ]; exact rfl)) (by kernel_rfl) (by kernel_rfl) (by kernel_rfl) (by exact fun _ _ _ h => h) (Or.inl ⟨by rfl, ?_⟩) (by assumption) ?_
          rotate_left
          · (intro w hSw; (try dsimp only at hSw); first | (go_simp; done) | (go_simp; with_reducible rfl))
          try simp only [Act.put, List.setIfInBounds_toArray, List.set_cons_zero, List.set_cons_succ]
          refine wpAnyH_ready (rs := [10]) (by kernel_rfl) (by simp) ?_
          refine AllReadyH.cons (by (simp only [List.getElem?_toArray, List.getElem?_cons_zero, List.getElem?_cons_succ]; exact rfl)) (fun K hK => ?_) AllReadyH.nil
          go_simp
          (go_at_call 27; refine (A1.out _ HB0).mono ?_; rintro e w24 ⟨rfl, HB1⟩)
          go_wp2_with fail
          refine hK.out _ _ (SS.out _ HB1) (fun hHeld => ?_)
          clear hK K
          try simp only [Act.put, List.setIfInBounds_toArray, List.set_cons_zero, List.set_cons_succ]
          refine wpAnyH_take (i := 11) (v := ?_) (by (simp only [List.getElem?_toArray, List.getElem?_cons_zero, List.getElem?_cons_succ]; exact rfl)) (by kernel_rfl) (by kernel_rfl) (by kernel_rfl) (by exact fun _ _ _ h => h) (Or.inl ⟨by rfl, ?_⟩) (by assumption) ?_
          rotate_left
          · (intro w hSw; (try dsimp only at hSw); first | (go_simp; done) | (go_simp; with_reducible rfl))
          try simp only [Act.put, List.setIfInBounds_toArray, List.set_cons_zero, List.set_cons_succ]
          refine wpAnyH_take (i := 12) (v := ?_) (by (simp only [List.getElem?_toArray, List.getElem?_cons_zero, List.getElem?_cons_succ]; exact rfl)) (by kernel_rfl) (by kernel_rfl) (by kernel_rfl) (by exact fun _ _ _ h => h) (Or.inl ⟨by rfl, ?_⟩) (by assumption) ?_
          rotate_left
          · (intro w hSw; (try dsimp only at hSw); first | (go_simp; done) | (go_simp; with_reducible rfl))
          try simp only [Act.put, List.setIfInBounds_toArray, List.set_cons_zero, List.set_cons_succ]
          refine wpAnyH_take (i := 13) (v := ?_) (by (simp only [List.getElem?_toArray, List.getElem?_cons_zero, List.getElem?_cons_succ]; exact rfl)) (by kernel_rfl) (by kernel_rfl) (by kernel_rfl) (by exact fun _ _ _ h => h) (Or.inl ⟨by rfl, ?_⟩) (by assumption) ?_
          rotate_left
          · (intro w hSw; (try dsimp only at hSw); first | (go_simp; done) | (go_simp; with_reducible rfl))
          try simp only [Act.put, List.setIfInBounds_toArray, List.set_cons_zero, List.set_cons_succ]
          refine wpAnyH_take (i := 14) (v := ?_) (by (simp only [List.getElem?_toArray, List.getElem?_cons_zero, List.getElem?_cons_succ]; exact rfl)) (by kernel_rfl) (by kernel_rfl) (by kernel_rfl) (by exact fun _ _ _ h => h) (Or.inl ⟨by rfl, ?_⟩) (by assumption) ?_
          rotate_left
          · (intro w hSw; (try dsimp only at hSw); first | (go_simp; done) | (go_simp; with_reducible rfl))
          try simp only [Act.put, List.setIfInBounds_toArray, List.set_cons_zero, List.set_cons_succ]
          refine wpAnyH_take (i := 15) (v := ?_) (by (simp only [List.getElem?_toArray, List.getElem?_cons_zero, List.getElem?_cons_succ]; exact rfl)) (by kernel_rfl) (by kernel_rfl) (by kernel_rfl) (by exact fun _ _ _ h => h) (Or.inl ⟨by rfl, ?_⟩) (by assumption) ?_
          rotate_left
          · (intro w hSw; (try dsimp only at hSw); first | (go_simp; done) | (go_simp; with_reducible rfl))
          try simp only [Act.put, List.setIfInBounds_toArray, List.set_cons_zero, List.set_cons_succ]
          refine wpAnyH_take (i := 16) (v := ?_) (by (simp only [List.getElem?_toArray, List.getElem?_cons_zero, List.getElem?_cons_succ]; exact rfl)) (by kernel_rfl) (by kernel_rfl) (by kernel_rfl) (by exact fun _ _ _ h => h) (Or.inl ⟨by rfl, ?_⟩) (by assumption) ?_
          rotate_left
          · (intro w hSw; (try dsimp only at hSw); first | (go_simp; done) | (go_simp; with_reducible rfl))
          try simp only [Act.put, List.setIfInBounds_toArray, List.set_cons_zero, List.set_cons_succ]
          refine wpAnyH_take (i := 17) (v := ?_) (by (simp only [List.getElem?_toArray, List.getElem?_cons_zero, List.getElem?_cons_succ]; exact rfl)) (by kernel_rfl) (by kernel_rfl) (by kernel_rfl) (by exact fun _ _ _ h => h) (Or.inl ⟨by rfl, ?_⟩) (by assumption) ?_
          rotate_left
          · (intro w hSw; (try dsimp only at hSw); first | (go_simp; done) | (go_simp; with_reducible rfl))
          try simp only [Act.put, List.setIfInBounds_toArray, List.set_cons_zero, List.set_cons_succ]
          refine wpAnyH_take (i := 18) (v := ?_) (by (simp only [List.getElem?_toArray, List.getElem?_cons_zero, List.getElem?_cons_succ]; exact rfl)) (by kernel_rfl) (by kernel_rfl) (by kernel_rfl) (by exact fun _ _ _ h => h) (Or.inl ⟨by rfl, ?_⟩) (by assumption) ?_
          rotate_left
          · (intro w hSw; (try dsimp only at hSw); first | (go_simp; done) | (go_simp; with_reducible rfl))
          try simp only [Act.put, List.setIfInBounds_toArray, List.set_cons_zero, List.set_cons_succ]
          refine wpAnyH_take (i := 19) (v := ?_) (by (simp only [List.getElem?_toArray, List.getElem?_cons_zero, List.getElem?_cons_succ]; exact rfl)) (by kernel_rfl) (by kernel_rfl) (by kernel_rfl) (by exact fun _ _ _ h => h) (Or.inl ⟨by rfl, ?_⟩) (by assumption) ?_
          rotate_left
          · (intro w hSw; (try dsimp only at hSw); first | (go_simp; done) | (go_simp; with_reducible rfl))
          try simp only [Act.put, List.setIfInBounds_toArray, List.set_cons_zero, List.set_cons_succ]
          refine wpAnyH_take (i := 20) (v := ?_) (by (simp only [List.getElem?_toArray, List.getElem?_cons_zero, List.getElem?_cons_succ]; exact rfl)) (by kernel_rfl) (by kernel_rfl) (by kernel_rfl) (by exact fun _ _ _ h => h) (Or.inl ⟨by rfl, ?_⟩) (by assumption) ?_
          rotate_left
          · (intro w hSw; (try dsimp only at hSw); first | (go_simp; done) | (go_simp; with_reducible rfl))
          try simp only [Act.put, List.setIfInBounds_toArray, List.set_cons_zero, List.set_cons_succ]
          refine wpAnyH_take (i := 21) (v := ?_) (by (simp only [List.getElem?_toArray, List.getElem?_cons_zero, List.getElem?_cons_succ]; exact rfl)) (by kernel_rfl) (by kernel_rfl) (by kernel_rfl) (by exact fun _ _ _ h => h) (Or.inl ⟨by rfl, ?_⟩) (by assumption) ?_
          rotate_left
          · (intro w hSw; (try dsimp only at hSw); first | (go_simp; done) | (go_simp; with_reducible rfl))
          try simp only [Act.put, List.setIfInBounds_toArray, List.set_cons_zero, List.set_cons_succ]
          refine wpAnyH_take (i := 22) (v := ?_) (by (simp only [List.getElem?_toArray, List.getElem?_cons_zero, List.getElem?_cons_succ]; exact rfl)) (by kernel_rfl) (by kernel_rfl) (by kernel_rfl) (by exact fun _ _ _ h => h) (Or.inl ⟨by rfl, ?_⟩) (by assumption) ?_
          rotate_left
          · (intro w hSw; (try dsimp only at hSw); first | (go_simp; done) | (go_simp; with_reducible rfl))
          try simp only [Act.put, List.setIfInBounds_toArray, List.set_cons_zero, List.set_cons_succ]
          refine wpAnyH_take (i := 23) (v := ?_) (by (simp only [List.getElem?_toArray, List.getElem?_cons_zero, List.getElem?_cons_succ]; exact rfl)) (by kernel_rfl) (by kernel_rfl) (by kernel_rfl) (by exact fun _ _ _ h => h) (Or.inl ⟨by rfl, ?_⟩) (by assumption) ?_
          rotate_left
          · (intro w hSw; (try dsimp only at hSw); first | (go_simp; done) | (go_simp; with_reducible rfl))
          try simp only [Act.put, List.setIfInBounds_toArray, List.set_cons_zero, List.set_cons_succ]
          refine wpAnyH_take (i := 24) (v := ?_) (by (simp only [List.getElem?_toArray, List.getElem?_cons_zero, List.getElem?_cons_succ]; exact rfl)) (by kernel_rfl) (by kernel_rfl) (by kernel_rfl) (by exact fun _ _ _ h => h) (Or.inl ⟨by rfl, ?_⟩) (by assumption) ?_
          rotate_left
          · (intro w hSw; (try dsimp only at hSw); first | (go_simp; done) | (go_simp; with_reducible rfl))
          try simp only [Act.put, List.setIfInBounds_toArray, List.set_cons_zero, List.set_cons_succ]
          refine wpAnyH_take (i := 25) (v := ?_) (by (simp only [List.getElem?_toArray, List.getElem?_cons_zero, List.getElem?_cons_succ]; exact rfl)) (by kernel_rfl) (by kernel_rfl) (by kernel_rfl) (by exact fun _ _ _ h => h) (Or.inl ⟨by rfl, ?_⟩) (by assumption) ?_
          rotate_left
          · (intro w hSw; (try dsimp only at hSw); first | (go_simp; done) | (go_simp; with_reducible rfl))
          try simp only [Act.put, List.setIfInBounds_toArray, List.set_cons_zero, List.set_cons_succ]
          refine wpAnyH_take (i := 26) (v := ?_) (by (simp only [List.getElem?_toArray, List.getElem?_cons_zero, List.getElem?_cons_succ]; exact rfl)) (by kernel_rfl) (by kernel_rfl) (by kernel_rfl) (by exact fun _ _ _ h => h) (Or.inl ⟨by rfl, ?_⟩) (by assumption) ?_
          rotate_left
          · (intro w hSw; (try dsimp only at hSw); first | (go_simp; done) | (go_simp; with_reducible rfl))
          try simp only [Act.put, List.setIfInBounds_toArray, List.set_cons_zero, List.set_cons_succ]
          refine wpAnyH_take (i := 27) (v := ?_) (by (simp only [List.getElem?_toArray, List.getElem?_cons_zero, List.getElem?_cons_succ]; exact rfl)) (by kernel_rfl) (by kernel_rfl) (by kernel_rfl) (by exact fun _ _ _ h => h) (Or.inl ⟨by rfl, ?_⟩) (by assumption) ?_
          rotate_left
          · (intro w hSw; (try dsimp only at hSw); first | (go_simp; done) | (go_simp; with_reducible rfl))
          try simp only [Act.put, List.setIfInBounds_toArray, List.set_cons_zero, List.set_cons_succ]
          refine wpAnyH_take (i := 28) (v := ?_) (by (simp only [List.getElem?_toArray, List.getElem?_cons_zero, List.getElem?_cons_succ]; exact rfl)) (by kernel_rfl) (by kernel_rfl) (by kernel_rfl) (by exact fun _ _ _ h => h) (Or.inl ⟨by rfl, ?_⟩) (by assumption) ?_
          rotate_left
          · (intro w hSw; (try dsimp only at hSw); first | (go_simp; done) | (go_simp; with_reducible rfl))
          try simp only [Act.put, List.setIfInBounds_toArray, List.set_cons_zero, List.set_cons_succ]
          refine wpAnyH_take (i := 29) (v := ?_) (by (simp only [List.getElem?_toArray, List.getElem?_cons_zero, List.getElem?_cons_succ]; exact rfl)) (by kernel_rfl) (by kernel_rfl) (by kernel_rfl) (by exact fun _ _ _ h => h) (Or.inl ⟨by rfl, ?_⟩) (by assumption) ?_
          rotate_left
          · (intro w hSw; (try dsimp only at hSw); first | (go_simp; done) | (go_simp; with_reducible rfl))
          try simp only [Act.put, List.setIfInBounds_toArray, List.set_cons_zero, List.set_cons_succ]
          refine wpAnyH_take (i := 30) (v := ?_) (by (simp only [List.getElem?_toArray, List.getElem?_cons_zero, List.getElem?_cons_succ]; exact rfl)) (by kernel_rfl) (by kernel_rfl) (by kernel_rfl) (by exact fun _ _ _ h => h) (Or.inl ⟨by rfl, ?_⟩) (by assumption) ?_
          rotate_left
          · (intro w hSw; (try dsimp only at hSw); first | (go_simp; done) | (go_simp; with_reducible rfl))
          try simp only [Act.put, List.setIfInBounds_toArray, List.set_cons_zero, List.set_cons_succ]
          refine wpAnyH_take (i := 31) (v := ?_) (by (simp only [List.getElem?_toArray, List.getElem?_cons_zero, List.getElem?_cons_succ]; exact rfl)) (by kernel_rfl) (by kernel_rfl) (by kernel_rfl) (by exact fun _ _ _ h => h) (Or.inl ⟨by rfl, ?_⟩) (by assumption) ?_
          rotate_left
          · (intro w hSw; (try dsimp only at hSw); first | (go_simp; done) | (go_simp; with_reducible rfl))
          try simp only [Act.put, List.setIfInBounds_toArray, List.set_cons_zero, List.set_cons_succ]
          refine wpAnyH_take (i := 32) (v := ?_) (by (simp only [List.getElem?_toArray, List.getElem?_cons_zero, List.getElem?_cons_succ]; exact rfl)) (by kernel_rfl) (by kernel_rfl) (by kernel_rfl) (by exact fun _ _ _ h => h) (Or.inl ⟨by rfl, ?_⟩) (by assumption) ?_
          rotate_left
          · (intro w hSw; (try dsimp only at hSw); first | (go_simp; done) | (go_simp; with_reducible rfl))
          try simp only [Act.put, List.setIfInBounds_toArray, List.set_cons_zero, List.set_cons_succ]
          refine wpAnyH_take (i := 33) (v := ?_) (by (simp only [List.getElem?_toArray, List.getElem?_cons_zero, List.getElem?_cons_succ]; exact rfl)) (by kernel_rfl) (by kernel_rfl) (by kernel_rfl) (by exact fun _ _ _ h => h) (Or.inl ⟨by rfl, ?_⟩) (by assumption) ?_
          rotate_left
          · (intro w hSw; (try dsimp only at hSw); first | (go_simp; done) | (go_simp; with_reducible rfl))
          try simp only [Act.put, List.setIfInBounds_toArray, List.set_cons_zero, List.set_cons_succ]
          refine wpAnyH_done (by kernel_rfl) ?_ _
          /- r44m: end -/
          have RW := Lib.hid (RL.out _ HB1)
          go_wp2
          go_roundw
          case rel => exact ⟨j + 1, by go_num, JB.out, RW.out⟩
          case measure => simp [intOf]; omega
      /- row: end -/
  case rest =>
  obtain ⟨L, D, J⟩ := hcut
  as_aux_lemma =>
  /- tail: begin -/
  have W0 := Lib.hid J.out.side.want0
  have MO := Lib.hid J.out.mo
  have HPN := Lib.hid J.out.hp
  have ND := Lib.hid J.out.side.hnod
  have M0 := Lib.hid J.out.map
  have FT' := Lib.hid J.out.side.hfit
  obtain ⟨nl, hnl⟩ : ∃ nl, L.length = nl := ⟨_, rfl⟩
  have HNL := Lib.hid hnl
  obtain ⟨iI, hi, hz0, hz1, hz2⟩ := infoI_of infoP
  clear J hnl I0
  go_upto_region 50 with (at_range; refine wpList_range_own _ rfl _ 59 rfl 32 34 lawI Try.underlying59 RI m L.length D rfl M0.out ?_; intro w9 r9 g9 s9; have P9 := Lib.hid (W0.out.mrange r9 g9 (Nat.le_refl _)); clear r9 g9 s9 W0 M0)
  generalize wc.heap.size = r at *
  go_wp2_with fail
  go_frame
  go_loopw [23] (fun s wr => ∃ (p5 : Option Addr) (n5 c5 : Nat) (ws : List It) (left : Lit → Bool) (cnt : Nat), s = .slice p5 n5 c5 ∧ Hid (∀ kl, left kl = true → Maps.has D kl = true) ∧ Hid (WantS L left ws) ∧ Hid (Side w r wc wr (hTh C N 60 L) (gTh m r D left cnt) (wTh p5 n5 c5 ws))) (fun _ wr => wr.rangeLeft m r)
  case atStart => exact ⟨none, 0, 0, [], _, _, rfl, Lib.hid (fun kl h => h), Lib.hid (want_start MO.out), P9.out⟩
  case round =>
    clear P9
    obtain ⟨p5, n5, c5, ws, left, cnt, rfl, hl, WS, P⟩ := hrel
    obtain ⟨nr, R⟩ := P.out.gmap
    have R := Lib.hid R
    have N5 : Hid (ws.length = n5) := P.out.wown.holds.len
    go_wp2_with (at_next; refine wpList_next_it _ rfl _ rfl m r nr D left cnt L rfl R.out MO.out hl.out ?_ ?_)
    · intro _ e0
      have PW := Lib.hid (WS.out.done ND.out e0)
      have P2 := Lib.hid P.out.gend
      clear P R e0 WS hl hi hz0 hz1 hz2
      as_aux_lemma =>
      /- sorted: begin -/
      have SO := Lib.hid (psort13 wr p5 n5 c5 ws P2.out.wown (by have := FT'.out; have := N5.out; have := PW.out.length_eq; omega))
      go_wp2_with fail
      refine SO.out.mono ?_; rintro e w20 ⟨rfl, ts, pm, so, hr, gr⟩
      have P3 := Lib.hid (P2.out.wsort hr gr)
      have PT := Lib.hid (pm.trans PW.out)
      have ST := Lib.hid so
      have TL : Hid (ts.length = n5) := by unfold Hid; rw [pm.length_eq]; exact N5.out
      have n60 : (n5 : Int) ≤ 60 := by have := FT'.out; have := N5.out; have := PW.out.length_eq; omega
      clear SO pm so hr gr P2 PW N5
      go_wp2_with fail
      go_loopw [243] (fun i wr => ∃ (j : Nat) (l' : List It), i = .int .i64 (j : Nat) ∧ Hid (j ≤ n5) ∧ Hid (l'.Perm (ts.drop j)) ∧ Hid (Heap l') ∧ Hid (Side w wr.heap.size wr wr (hTh C N 60 l') (mTh m D) (rdTh p5 n5 c5 ts))) (fun i _ => 1000 - (intOf i).toNat)
      case atStart => exact ⟨0, L, rfl, Nat.zero_le _, Lib.hid PT.out.symm, HPN, Lib.hid (Side.start P3.out (Below.refl _ _))⟩
      case round =>
        clear P3 PT HPN
        obtain ⟨j, l', rfl, hj, pl, hp', S⟩ := hrel
        have j0 : (0 : Int) ≤ (j : Int) := by omega
        have jl : (j : Int) ≤ 60 := by have := hj.out; omega
        by_cases z : n5 ≤ j
        · have z1 : (n5 : Int) ≤ (j : Int) := by omega
          have z2 : decide ((j : Int) < (n5 : Int)) = false := decide_eq_false (by omega)
          have e0 : l' = [] := by
            have q := pl.out.length_eq
            rw [List.length_drop, TL.out] at q
            exact List.length_eq_zero_iff.1 (by omega)
          have LN := Lib.hid S.out.hlen
          rw [e0] at LN
          have LW := Lib.hid S.out.low
          clear hj z pl hp' S e0 ST TL
          go_wp2_with fail
          refine LN.out.mono ?_; rintro e w30 ⟨rfl, b30⟩
          have F := Lib.hid (LW.out.trans (b30.mono LW.out.size))
          clear b30 LN LW
          go_wp2
          go_ret
          exact ⟨rfl, F.out⟩
        have jn : (j : Int) < (n5 : Int) := by omega
        have JB : Hid (j + 1 ≤ n5) := by unfold Hid; omega
        obtain ⟨e1, e2, e3, e4, e5⟩ := pop_next hp'.out pl.out TL.out (by omega : j < n5) ST.out
        obtain ⟨x, hx⟩ : ∃ x, gt ts j = x := ⟨_, rfl⟩
        obtain ⟨a2, rfl, r0, r1, r2⟩ := S.out.wread.at (i := j) (by omega)
        rw [hx] at r0 r1 r2 e2
        have NP := Lib.hid e4
        have NH := Lib.hid e5
        have NE := fun W => neq_it W x x true (decide_eq_true rfl)
        have AX := Lib.hid (heap_alloc_new wr (.cells #[.int .u64 (x.id : Nat), .int .u64 (x.seq : Nat), .int .i64 x.t] 34))
        have S2 := Lib.hid (Side.start S.out ((Below.refl _ _).alloc (Nat.le_refl _) (.cells #[.int .u64 (x.id : Nat), .int .u64 (x.seq : Nat), .int .i64 x.t] 34)))
        have E3 := Lib.hid e3
        have PO := fun (w' : World) (h : Side w wr.heap.size (wr.alloc (.cells #[.int .u64 (x.id : Nat), .int .u64 (x.seq : Nat), .int .i64 x.t] 34)) w' (hTh C N 60 l') (mTh m D) (rdTh (some a2) n5 c5 ts)) => h.hpop
        rw [e1, e2, e3] at PO
        have PO := Lib.hid PO
        unfold itV at PO
        clear z hj pl hp' e1 e2 e3 e4 e5 hx S
        go_upto_region 57 with fail
        clear r0 r1 r2
        generalize wr.alloc (.cells #[.int .u64 (x.id : Nat), .int .u64 (x.seq : Nat), .int .i64 x.t] 34) = w21 at *
        obtain ⟨k27, hk27⟩ : ∃ k, wr.heap.size = k := ⟨_, rfl⟩
        simp only [hk27] at AX S2 PO ⊢
        clear hk27
        go_wp2_with fail
        refine (PO.out w21 S2.out).mono ?_; rintro e w22 ⟨rfl, s22⟩
        have S3 := Lib.hid s22
        clear s22 PO S2
        go_upto_region 58 with fail
        have BB := heap_alloc_new w22 (.cells #[.int .u64 (x.id : Nat), .int .u64 (x.seq : Nat), .int .i64 x.t] 34)
        have S4 := Lib.hid (S3.out.below ((Below.refl _ _).alloc (Nat.le_refl _) (.cells #[.int .u64 (x.id : Nat), .int .u64 (x.seq : Nat), .int .i64 x.t] 34)))
        have y0 := blk_cell (o := 0) BB
        have y1 := blk_cell (o := 1) BB
        have y2 := blk_cell (o := 2) BB
        have x0 := S4.out.cells (o := 0) (Nat.le_refl _) AX.out
        have x1 := S4.out.cells (o := 1) (Nat.le_refl _) AX.out
        have x2 := S4.out.cells (o := 2) (Nat.le_refl _) AX.out
        simp only [List.getElem?_toArray, List.getElem?_cons_zero, List.getElem?_cons_succ] at y0 y1 y2 x0 x1 x2
        clear BB S3 AX
        generalize w22.alloc (.cells #[.int .u64 (x.id : Nat), .int .u64 (x.seq : Nat), .int .i64 x.t] 34) = w23 at *
        generalize w22.heap.size = k28 at *
        have S5 := Lib.hid (Side.start S4.out (Below.refl _ _))
        clear S4
        go_wp2
        go_roundw
        case rel => exact ⟨j + 1, _, by go_num, JB.out, NP, NH, S5⟩
        case measure => simp [intOf]; omega
      /- sorted: end -/
    · intro x w10 cnt2 hx lk r10 lt10 g10 en
      have P10 := Lib.hid (P.out.gnext r10 g10)
      have MS : Hid (w10.rangeLeft m r < wr.rangeLeft m r) := by unfold Hid; rw [World.ranges.left_eq r10, World.ranges.left_eq R.out]; exact lt10
      have HL2 : Hid (∀ kl, (left kl && !kl.sameKey (ki x.id)) = true → Maps.has D kl = true) := fun kl h => hl.out kl (by simp at h; exact h.1)
      have W2 := Lib.hid (WS.out.step ND.out hx lk)
      have LEN : Hid (n5 + 1 ≤ 60) := by
        have q := len_of_sub _ _ (nod_nodup W2.out.nod) W2.out.sub
        rw [List.length_append, N5.out] at q
        have := FT'.out.1
        simp at q
        unfold Hid
        omega
      unfold itV at en
      clear P R r10 lt10 g10 lk hx hl WS
      go_upto_region 52 with fail
      clear en
      have BB := heap_alloc_new w10 (.cells #[.int .u64 (x.id : Nat), .int .u64 (x.seq : Nat), .int .i64 x.t] 34)
      have T11 := Lib.hid (P10.out.below ((Below.refl _ _).alloc (Nat.le_refl _) (.cells #[.int .u64 (x.id : Nat), .int .u64 (x.seq : Nat), .int .i64 x.t] 34)))
      have a0 := blk_cell (o := 0) BB
      have a1 := blk_cell (o := 1) BB
      have a2 := blk_cell (o := 2) BB
      simp only [List.getElem?_toArray, List.getElem?_cons_zero, List.getElem?_cons_succ] at a0 a1 a2
      clear BB
      generalize w10.alloc (.cells #[.int .u64 (x.id : Nat), .int .u64 (x.seq : Nat), .int .i64 x.t] 34) = w11 at *
      generalize w10.heap.size = by3 at *
      have T12 := Lib.hid (T11.out.below ((Below.refl _ _).alloc (Nat.le_refl _) (.cells #[.int .u64 (x.id : Nat), .int .u64 (x.seq : Nat), .int .i64 x.t] 34)))
      have ONE : Hid (∀ u ∈ ([.int .u64 (x.id : Nat), .int .u64 (x.seq : Nat), .int .i64 x.t] : List Value), u.oneCell' = true) := by
        intro u hu
        simp only [List.mem_cons, List.not_mem_nil, or_false] at hu
        rcases hu with rfl | rfl | rfl <;> rfl
      have BM : Hid (n5 + 1 ≤ maxLen) := by have := LEN.out; unfold Hid maxLen; omega
      have BY : Hid ((n5 + 1) * 24 ≤ 140737488355328) := by have := LEN.out; unfold Hid; omega
      have OW := Lib.hid T12.out.wown
      unfold OwnI at OW
      go_wp2_with (at_builtin; refine wpList_append_lies _ rfl _ _ 56 rfl 0 34 iI (.agg #[.int .u64 0, .int .u64 0, .int .i64 0]) 3 24 Try.underlying56 hi hz0 hz1 hz2 (by rfl) (by decide) (.slice p5 n5 c5) n5 (cellsI ws) rfl OW.out ⟨w11.heap.size, 0, none⟩ 1 1 [.int .u64 (x.id : Nat), .int .u64 (x.seq : Nat), .int .i64 x.t] rfl rfl (World.news_of_block (heap_alloc_new w11 _)) ONE.out (by decide) BM.out BY.out (Nat.zero_le _) _ rfl ?_; intro g14 cap14 w14 o14 gr14 m14 lt14; have T14 := Lib.hid (T12.out.wadd o14 gr14 m14); clear o14 gr14 m14 lt14)
      have MS3 : Hid (w14.rangeLeft m r < wr.rangeLeft m r) := by
        obtain ⟨n1, R1⟩ := P10.out.gmap
        obtain ⟨n2, R2⟩ := T14.out.gmap
        have q := MS.out
        rw [World.ranges.left_eq R1] at q
        unfold Hid
        rw [World.ranges.left_eq R2]
        exact q
      clear a0 a1 a2 T12 T11 P10 MS OW ONE BM BY
      go_roundw
      case rel => exact ⟨_, _, _, _, _, _, rfl, HL2, W2, T14⟩
      case measure => exact MS3.out
  /- tail: end -/
end Go.Proofs.Ytlfbenlojiiknaa
