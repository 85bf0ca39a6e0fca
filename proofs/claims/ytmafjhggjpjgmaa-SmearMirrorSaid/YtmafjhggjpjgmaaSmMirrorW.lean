/- SmearMirror, the walk: the other way round; each alone. -/
import Derived.Test.YtmafjhggjpjgmaaSmJ
import Derived.Test.YtmafjhggjpjgmaaSmO
import Derived.Test.YtmafjhggjpjgmaaMask
import Derived.Deep.AppendLies
set_option maxRecDepth 100000
namespace Go.Proofs.Ytmafjhggjpjgmaa
open Go.ChangeShapes Go.WideShapes Go.ChangeAt Go.RowKit SmM

theorem wr15 {x : Int} (h : I64 x) : wrap64 x = x ∧ IntKind.i64.wrap x = x := by
  unfold I64 at h
  rw [IntKind.wrap_i64]
  unfold wrap64
  omega
theorem gap_turn : ∀ {l : List Lp}, GapL l → GapL (l.map turnL)
  | [], _ => trivial
  | [_], _ => trivial
  | _ :: y :: l, h => ⟨h.1, gap_turn (l := y :: l) h.2⟩
theorem ok_turn {l : List Lp} (h : OkL l) : OkL (l.map turnL) := by
  refine ⟨fun y hy => ?_, gap_turn h.2⟩
  obtain ⟨x, hx, rfl⟩ := List.mem_map.1 hy
  have q := h.1 x hx
  refine ⟨q.1, q.2.1, ?_⟩
  show -x.k = 1 ∨ -x.k = -1
  rcases q.2.2 with e | e <;> rw [e] <;> simp
theorem turn_take {l : List Lp} {i : Nat} (h : i < l.length) : (l.map turnL).take (i + 1) = (l.map turnL).take i ++ [turnL (gl l i)] := by
  rw [← List.map_take, ← List.map_take, List.take_succ_eq_append_getElem h, List.map_append, gl_of h]
  rfl
set_option maxHeartbeats 4000000 in
theorem mirror15_walk (C : SCode) (w : World) (p : Option Addr) (n c : Nat) (gs : List Gp) (h : HoldsG w p n c gs) (hh : ∀ g ∈ gs, g.h < 65536) (t : Int) :
    Calls Try.prog 8 #[.slice p n c, .int .i64 t] w fun e w' => e = .returned (.bool true) ∧ Below w.heap.size w w' := by
  have MA := Lib.hid (made15 C w p n c gs h hh)
  have AW := Lib.hid (awake15 C)
  have l32 := List.length_take_le 32 gs
  have OK := Lib.hid (mk_ok l32)
  have FA := Lib.hid (mk_far l32)
  have LL : Hid ((mkL dayI (gs.take 32)).length ≤ 32) := by unfold Hid; rw [mk_len]; exact l32
  generalize mkL dayI (gs.take 32) = l at *
  obtain ⟨u, hu⟩ : ∃ u, bits .and .i64 t 2305843009213693951 = u := ⟨_, rfl⟩
  have ub := mask_low t 2305843009213693951 (by decide)
  rw [show ((2305843009213693951 : Nat) : Int) = 2305843009213693951 from rfl, hu] at ub
  have UB := Lib.hid ub
  have UI : Hid (I64 u) := by unfold Hid I64; omega
  have NU : Hid (nearI u = u) := near_of ub.1 (by unfold topI; omega)
  obtain ⟨iL, hiL, hz0, hz1, hz2⟩ := infoLp_of infoLp
  clear h hh l32 ub
  go_enter Try.func8, Try.ntmps8
  go_wp2_with fail
  refine MA.out.mono ?_; rintro e w1 ⟨N, F, p', m, c', rfl, t1, h1, b1⟩
  have T1 := Lib.hid t1
  have H1 := Lib.hid h1
  have L1 := Lib.hid b1
  have mb : (m : Int) ≤ 32 := by have := h1.len; have := LL.out; omega
  clear t1 b1 h1 MA
  go_wp2_with fail
  refine (AW.out w1).mono ?_; rintro e w2 ⟨rfl, k2⟩
  have K2 := Lib.hid k2
  clear k2 AW
  go_wp2_with fail
  clear hu
  go_loopw [7, 8, 32] (fun ts ss ii wr => ∃ (p3 : Option Addr) (c3 i : Nat) (sm : Int), ts = .slice p3 i c3 ∧ ss = .int .i64 sm ∧ ii = .int .i64 (i : Nat) ∧ Hid (sm = takenI (l.take i) u ∧ i ≤ m) ∧ Hid (OwnL wr w1.heap.size p3 i c3 ((l.map turnL).take i)) ∧ Hid (Below w1.heap.size w1 wr)) (fun _ _ ii _ => 1000 - (intOf ii).toNat)
  case atStart => exact ⟨none, 0, 0, 0, rfl, rfl, rfl, ⟨by rw [List.take_zero]; rfl, Nat.zero_le _⟩, by rw [List.take_zero]; exact ⟨rfl, .inl ⟨rfl, rfl⟩⟩, K2⟩
  case round =>
    clear K2
    obtain ⟨p3, c3, i, sm, rfl, rfl, rfl, I, O, L⟩ := hrel
    have i0 : (0 : Int) ≤ (i : Int) := by omega
    by_cases y : i < m
    · have y1 : (i : Int) < (m : Int) := by omega
      obtain ⟨ap, rfl, c0, c1⟩ := (H1.out.below L.out).cell i y
      have il : i < l.length := by rw [H1.out.len]; exact y
      obtain ⟨x, hx⟩ : ∃ x, gl l i = x := ⟨_, rfl⟩
      have XI := FA.out x (by rw [← hx]; exact gl_mem il)
      rw [hx] at c0 c1
      have TT := taken_take il u
      rw [hx, ← I.out.1] at TT
      have TN := turn_take il
      rw [hx] at TN
      have XO : OkL [x] := ⟨fun z hz => by
        obtain rfl := List.mem_singleton.1 hz
        exact ⟨XI.1, by unfold topI; omega, XI.2.2⟩, trivial⟩
      have T1x : takenI [x] (nearI u) = oneI x u := by rw [NU.out, taken_cons]; show _ + (0 : Int) = _; omega
      have ob := one_bound x u
      have sb := taken_bound (l.take i) u
      rw [← I.out.1, List.length_take] at sb
      obtain ⟨o, ho⟩ : ∃ o, oneI x u = o := ⟨_, rfl⟩
      rw [ho] at TT T1x ob
      obtain ⟨Wa, hWa⟩ : ∃ Wa, (wr.alloc (.cells #[.int .i64 x.t, .int .i64 x.k] 26)).alloc (.cells #[.int .i64 x.t, .int .i64 x.k] 26) = Wa := ⟨_, rfl⟩
      have A1 : Below wr.heap.size wr (wr.alloc (.cells #[.int .i64 x.t, .int .i64 x.k] 26)) := (Below.refl _ _).alloc (Nat.le_refl _) _
      have Y1 := heap_alloc_new wr (.cells #[.int .i64 x.t, .int .i64 x.k] 26)
      have Z1 := sz_alloc wr (.cells #[.int .i64 x.t, .int .i64 x.k] 26)
      have A2 : Below (wr.alloc (.cells #[.int .i64 x.t, .int .i64 x.k] 26)).heap.size (wr.alloc (.cells #[.int .i64 x.t, .int .i64 x.k] 26)) Wa := by rw [← hWa]; exact (Below.refl _ _).alloc (Nat.le_refl _) _
      have Y2 : Wa.heap[wr.heap.size + 1]? = some (.cells #[.int .i64 x.t, .int .i64 x.k] 26 (0, 0)) := by rw [← hWa, ← Z1]; exact heap_alloc_new _ _
      have Y3 := (A2.block wr.heap.size (by omega)).trans Y1
      have LA := Lib.hid (A1.trans (A2.mono A1.size))
      have NG := Lib.hid (new_good C (own_made (B := 0) Y2 (l := [x]) (n := 1) rfl rfl (by decide) (Nat.zero_le _)).holds XO (by decide))
      have bY := (Array.getElem?_eq_some_iff.1 Y3).1
      have YC : Hid (∀ w', Below Wa.heap.size Wa w' → w'.cell? ⟨wr.heap.size, 0, none⟩ = some (.int .i64 x.t) ∧ w'.cell? ⟨wr.heap.size, 1, none⟩ = some (.int .i64 x.k)) := fun w' k =>
        ⟨blk_cell ((k.block _ bY).trans Y3), blk_cell ((k.block _ bY).trans Y3)⟩
      obtain ⟨s2, hs2⟩ : ∃ s2, sm + o = s2 := ⟨_, rfl⟩
      rw [hs2] at TT
      have SI : I64 s2 := by unfold I64; have := LL.out; omega
      obtain ⟨nk, hnk⟩ : ∃ nk, -x.k = nk := ⟨_, rfl⟩
      have NI : I64 nk := by unfold I64; rcases XI.2.2 with e | e <;> rw [e] at hnk <;> omega
      have TN2 : turnL x = ⟨x.t, nk⟩ := by rw [← hnk]; rfl
      rw [TN2] at TN
      have NX : Hid ((s2 = takenI (l.take (i + 1)) u ∧ i + 1 ≤ m) ∧ (l.map turnL).take (i + 1) = (l.map turnL).take i ++ [⟨x.t, nk⟩]) := ⟨⟨TT.symm, y⟩, TN⟩
      have TX := Lib.hid T1x
      have W1 := Lib.hid (wr15 SI)
      have W2 := Lib.hid (wr15 NI)
      have BM : Hid (i + 1 ≤ maxLen) := by unfold Hid maxLen; omega
      have BY : Hid ((i + 1) * 16 ≤ 140737488355328) := by unfold Hid; omega
      obtain ⟨xt, xk⟩ := x
      dsimp only at *
      clear y il XI hx TT TN XO T1x ob sb ho A1 Y1 Z1 A2 Y2 Y3 bY SI NI TN2 I
      go_wp2_with fail
      clear hWa
      refine NG.out.mono ?_; rintro e w5 ⟨N', F', rfl, t5, -, b5⟩
      have T5 := Lib.hid t5
      have B5 := Lib.hid b5
      have TA : Hid (Calls Try.prog 19 #[.pointer (some ⟨N', 0, none⟩), .int .i64 u] w5 fun e w'' => e = .returned (.int .i64 o) ∧ Below w5.heap.size w5 w'') :=
        (C.taken u t5 UI.out).mono fun e w'' ⟨a, b⟩ => ⟨by rw [a, TX.out], b⟩
      clear t5 b5 NG
      obtain ⟨e1, e2⟩ := W1.out
      go_wp2_with fail
      refine TA.out.mono ?_; rintro e w6 ⟨rfl, b6⟩
      have B6 := Lib.hid (B5.out.trans (b6.mono B5.out.size))
      obtain ⟨y0, y2⟩ := YC.out _ B6.out
      have L6 := Lib.hid (L.out.trans ((LA.out.trans (B6.out.mono LA.out.size)).mono L.out.size))
      have OW : Hid (w6.ownsRow w1.heap.size 26 2 (.slice p3 i c3) i (cellsL ((l.map turnL).take i))) := own_keep O.out (LA.out.trans (B6.out.mono LA.out.size))
      obtain ⟨e3, e4⟩ := W2.out
      clear b6 B5 T5 TA YC LA O L W1 W2 c0 c1
      go_wp2_with (at_builtin; refine wpList_append_own _ rfl _ _ 22 rfl w1.heap.size 26 iL (.agg #[.int .i64 0, .int .i64 0]) 2 16 Try.underlying22 hiL hz0 hz1 hz2 rfl (by decide) _ _ _ rfl (World.ownsRow.alloc OW.out _) ⟨w6.heap.size, 0, none⟩ 1 1 (twoL ⟨xt, nk⟩) rfl rfl (two_new rfl _ _ _) (twoL_one _) BM.out BY.out (L6.out.alloc L6.out.size _).size ?_)
      intro v w7 ow g mm
      have L7 : Hid (Below w1.heap.size w1 w7) := (L6.out.alloc L6.out.size _).grown g (L6.out.alloc L6.out.size _).size (fun j hj => (World.ownsRow.lt OW.out j hj).1)
      have O7 : Hid (w7.ownsRow w1.heap.size 26 2 v (i + 1) (cellsL ((l.map turnL).take (i + 1)))) := by
        rw [NX.out.2, cellsL_app, cellsL_cons]
        exact ow
      clear ow g mm OW L6 y0 y2 B6
      obtain ⟨p4, c4, rfl⟩ := own_slice O7.out
      go_wp2_with fail
      go_roundw
      case rel => exact ⟨p4, c4, i + 1, s2, rfl, rfl, by go_num, NX.out.1, O7, L7⟩
      case measure => simp [intOf]; omega
    · have y1 : (m : Int) ≤ (i : Int) := by omega
      have y2 : decide ((i : Int) < (m : Int)) = false := decide_eq_false (by omega)
      have e : l.take i = l := List.take_of_length_le (by rw [H1.out.len]; omega)
      have e' : (l.map turnL).take i = l.map turnL := List.take_of_length_le (by rw [List.length_map, H1.out.len]; omega)
      have I2 := I.out
      have O2 := O.out
      rw [e] at I2
      rw [e'] at O2
      obtain ⟨I3, I4⟩ := I2
      have NT := Lib.hid (new_good C O2.holds (ok_turn OK.out) (by omega))
      have sb := taken_bound l u
      rw [← I3] at sb
      have TK : Hid (takenI l (nearI u) = sm) := by unfold Hid; rw [NU.out, I3]
      have TL : Hid (toI l u = u - sm) := by unfold Hid toI; rw [NU.out, ← I3]
      have TT : Hid (toI (l.map turnL) u = u + sm) := by
        unfold Hid toI
        rw [NU.out, taken_turn (fun y hy => (OK.out.1 y hy).2.2), ← I3]
        omega
      have TZ : Hid (toI [] u = u) := by unfold Hid toI; rw [NU.out]; show u - (0 : Int) = u; omega
      obtain ⟨a, ha⟩ : ∃ a, u - sm = a := ⟨_, rfl⟩
      obtain ⟨b, hb⟩ : ∃ b, u + sm = b := ⟨_, rfl⟩
      obtain ⟨z, hz⟩ : ∃ z, a + b = z := ⟨_, rfl⟩
      have hz2' : 2 * u = z := by omega
      have zi : I64 z := by unfold I64; have := UB.out; omega
      obtain ⟨e1, e2⟩ := wr15 zi
      rw [ha] at TL
      rw [hb] at TT
      have LB := L
      clear y I e e' sb ha hb zi O O2 I3 I4
      go_wp2_with fail
      refine NT.out.mono ?_; rintro e w5 ⟨N2, F2, rfl, t5, -, b5⟩
      have T5 := Lib.hid t5
      have L5 := Lib.hid (LB.out.trans (b5.mono LB.out.size))
      have NN := Lib.hid (new_good C (w := w5) (p := none) (n := 0) (c := 0) (l := []) ⟨rfl, Nat.le_refl _, Nat.zero_le _, fun i hi => absurd hi (by omega)⟩ ⟨fun y hy => (by cases hy), trivial⟩ (by decide))
      clear t5 b5 NT
      go_wp2_with fail
      refine NN.out.mono ?_; rintro e w6 ⟨N3, F3, rfl, t6, -, b6⟩
      have T6 := Lib.hid t6
      have T5' := Lib.hid (C.below T5.out b6)
      have L6 := Lib.hid (L5.out.trans (b6.mono L5.out.size))
      have K6 : Below w6.heap.size w6 w6 := Below.refl _ _
      clear t6 b6 NN T5
      go_wp2_with fail
      refine (C.to_ u (C.below T1.out L6.out) UI.out).mono ?_; rintro e w7 ⟨rfl, b7⟩
      rw [TL.out]
      have K7 := K6.trans b7
      go_wp2_with fail
      refine (C.to_ u (C.below T5'.out K7) UI.out).mono ?_; rintro e w8 ⟨rfl, b8⟩
      rw [TT.out]
      have K8 := K7.trans (b8.mono K7.size)
      clear K6 K7 b7 b8
      go_wp2_with fail
      refine (C.to_ u (C.below T6.out K8) UI.out).mono ?_; rintro e w9 ⟨rfl, b9⟩
      rw [TZ.out]
      have K9 := K8.trans (b9.mono K8.size)
      clear K8 b9
      go_wp2_with fail
      refine (C.taken u (C.below T1.out (L6.out.trans (K9.mono L6.out.size))) UI.out).mono ?_; rintro e w10 ⟨rfl, b10⟩
      rw [TK.out]
      have L10 := Lib.hid (L1.out.trans ((L6.out.trans ((K9.trans (b10.mono K9.size)).mono L6.out.size)).mono L1.out.size))
      clear K9 b10 TL TT TZ TK
      go_wp2
      go_ret
      exact ⟨rfl, L10.out⟩
end Go.Proofs.Ytmafjhggjpjgmaa
