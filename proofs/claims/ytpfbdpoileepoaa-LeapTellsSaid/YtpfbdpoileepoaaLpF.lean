/- Layer 16 (leap), work ahead, the laws': the chapter's table; alive; leaps told by days. -/
import Derived.Test.YtpfbdpoileepoaaLpS
import Derived.Test.YtpfbdpoileepoaaSmJ
import Derived.Deep.AppendLies
set_option maxRecDepth 100000
namespace Go.Proofs.Ytpfbdpoileepoaa
open Go.ChangeShapes Go.WideShapes Go.ChangeAt Go.RowKit SmM

theorem okT_I {l : List Lp} {e b : Int} (h : OkT l e b) : (∀ y ∈ l, I64 y.t ∧ I64 y.k) ∧ I64 e ∧ I64 b := by
  obtain ⟨a, -, c, d⟩ := h
  refine ⟨fun y hy => ?_, ?_, ?_⟩
  · have q := a.1 y hy
    unfold dayI topI at q
    unfold I64
    omega
  · unfold topI at c; unfold I64; omega
  · unfold I64; omega
/-- Leaps that make a table. -/
theorem newT_good (C : LCode) {w : World} {p : Option Addr} {n c : Nat} {l : List Lp} {e b : Int} (h : HoldsL w p n c l) (ok : OkT l e b) :
    Calls Try.prog 10 #[.slice p n c, .int .i64 e, .int .i64 b] w fun r w9 => ∃ N F, r = .returned (.tuple #[.pointer (some ⟨N, 0, none⟩), .int .i64 0]) ∧ C.Tb w9 F N l e b ∧ (∀ M, F M → w.heap.size ≤ M) ∧ Below w.heap.size w w9 := by
  have I := okT_I ok
  refine (C.new e b h I.1 I.2.1 I.2.2).mono fun r w9 h9 => ?_
  obtain ⟨b9, ⟨-, N, F, e9, t9, f9⟩ | ⟨x, nx, x0, -⟩⟩ := h9
  · exact ⟨N, F, e9, t9, f9, b9⟩
  · exact absurd (newT_one nx (.inr ⟨ok.2.1, .inr ⟨rfl, ok⟩⟩)) x0
def ch1 : List Lp := [⟨172800000000000, 1⟩]
theorem ch1_ok : OkT ch1 777600000000000 10 := by
  refine ⟨⟨fun y hy => ?_, trivial⟩, by decide, by unfold topI; decide, by decide⟩
  obtain rfl := List.mem_singleton.1 hy
  unfold dayI topI
  decide
theorem one16 (C : LCode) (w : World) : Calls Try.prog 29 #[] w fun r w9 => ∃ N F, r = .returned (.tuple #[.pointer (some ⟨N, 0, none⟩), .int .i64 0]) ∧ C.Tb w9 F N ch1 777600000000000 10 ∧ (∀ M, F M → w.heap.size ≤ M) ∧ Below w.heap.size w w9 := by
  have L0 := Lib.hid ((Below.refl w.heap.size w).alloc (Nat.le_refl _) (.cells #[.int .i64 172800000000000, .int .i64 1] 33))
  have N1 := Lib.hid (newT_good C (own_made (B := 0) (heap_alloc_new w (.cells #[.int .i64 172800000000000, .int .i64 1] 33)) (l := ch1) (n := 1) rfl rfl (by decide) (Nat.zero_le _)).holds ch1_ok)
  go_enter Try.func29, Try.ntmps29
  go_wp2_with fail
  refine N1.out.mono ?_; rintro e w1 ⟨N, F, rfl, t1, f1, b1⟩
  have F1 : Hid (∃ N' F', Ending.returned (.tuple #[.pointer (some ⟨N, 0, none⟩), .int .i64 0]) = .returned (.tuple #[.pointer (some ⟨N', 0, none⟩), .int .i64 0]) ∧ C.Tb w1 F' N' ch1 777600000000000 10 ∧ (∀ M, F' M → w.heap.size ≤ M) ∧ Below w.heap.size w w1) :=
    ⟨N, F, rfl, t1, fun M hM => Nat.le_trans L0.out.size (f1 M hM), L0.out.trans (b1.mono L0.out.size)⟩
  clear t1 f1 b1 N1
  go_wp2
  go_ret2
  exact F1.out
theorem alive16 (C : LCode) (w : World) : Calls Try.prog 12 #[] w fun r w' => r = .returned (.bool true) ∧ Below w.heap.size w w' := by
  have ON := Lib.hid (one16 C w)
  go_enter Try.func12, Try.ntmps12
  go_wp2_with fail
  refine ON.out.mono ?_; rintro e w1 ⟨N, F, rfl, t1, -, b1⟩
  have T1 := Lib.hid t1
  have L1 := Lib.hid b1
  have K1 : Below w1.heap.size w1 w1 := Below.refl _ _
  have LA : Hid (∀ w' t v i, Below w1.heap.size w1 w' → TmI t → labI ch1 10 t = v → insB ch1 t = i → Calls Try.prog 21 #[.pointer (some ⟨N, 0, none⟩), .int .i64 t] w' fun e w'' => e = .returned (.tuple #[.int .i64 v, .bool i]) ∧ Below w1.heap.size w1 w'') := fun w' t v i k tm h g =>
    (C.label t (C.below T1.out k) tm).mono fun e w'' ⟨a, b⟩ => ⟨by rw [a, h, g], k.trans (b.mono k.size)⟩
  have BI : Hid (∀ w' t v, Below w1.heap.size w1 w' → TmI t → bitsI ch1 777600000000000 t = v → Calls Try.prog 28 #[.pointer (some ⟨N, 0, none⟩), .int .i64 t] w' fun e w'' => e = .returned (.int .u8 (v : Nat)) ∧ Below w1.heap.size w1 w'') := fun w' t v k tm h =>
    (C.bits t (C.below T1.out k) tm).mono fun e w'' ⟨a, b⟩ => ⟨by rw [a, h], k.trans (b.mono k.size)⟩
  clear t1 b1 ON
  go_wp2_with fail
  refine (LA.out _ 172799999999999 172789999999999 false K1 (by unfold TmI; decide) (by decide +kernel) (by decide +kernel)).mono ?_; rintro e w2 ⟨rfl, k2⟩
  go_wp2_with fail
  refine (LA.out _ 172800000000000 172789000000000 true k2 (by unfold TmI; decide) (by decide +kernel) (by decide +kernel)).mono ?_; rintro e w3 ⟨rfl, k3⟩
  have k4 := k3.alloc k3.size (.cells #[.int .u8 1, .int .u8 3, .int .u8 1, .int .u8 0] 5)
  have V1 : Hid (Calls Try.prog 18 #[.slice (some ⟨w3.heap.size, 0, none⟩) 4 4] (w3.alloc (.cells #[.int .u8 1, .int .u8 3, .int .u8 1, .int .u8 0] 5)) fun e w'' => e = .returned (.tuple #[.int .u8 1, .bool true]) ∧ Below (w3.alloc (.cells #[.int .u8 1, .int .u8 3, .int .u8 1, .int .u8 0] 5)).heap.size (w3.alloc (.cells #[.int .u8 1, .int .u8 3, .int .u8 1, .int .u8 0] 5)) w'') :=
    (C.vote (l := [1, 3, 1, 0]) (blk_holds (heap_alloc_new w3 _) rfl (by decide)) (by decide) (by decide)).mono fun e w'' ⟨a, b⟩ => ⟨a.trans (by rw [show voteN [1, 3, 1, 0] = (1, true) by decide]; rfl), b⟩
  clear K1 k2 k3
  go_wp2_with fail
  refine V1.out.mono ?_; rintro e w5 ⟨rfl, b5⟩
  have k5 := k4.trans (b5.mono k4.size)
  have k6 := k5.alloc k5.size (.cells #[.int .u8 1, .int .u8 0] 5)
  have V2 : Hid (Calls Try.prog 18 #[.slice (some ⟨w5.heap.size, 0, none⟩) 2 2] (w5.alloc (.cells #[.int .u8 1, .int .u8 0] 5)) fun e w'' => e = .returned (.tuple #[.int .u8 0, .bool false]) ∧ Below (w5.alloc (.cells #[.int .u8 1, .int .u8 0] 5)).heap.size (w5.alloc (.cells #[.int .u8 1, .int .u8 0] 5)) w'') :=
    (C.vote (l := [1, 0]) (blk_holds (heap_alloc_new w5 _) rfl (by decide)) (by decide) (by decide)).mono fun e w'' ⟨a, b⟩ => ⟨a.trans (by rw [show voteN [1, 0] = (0, false) by decide]; rfl), b⟩
  clear k4 b5 V1 k5
  go_wp2_with fail
  refine V2.out.mono ?_; rintro e w7 ⟨rfl, b7⟩
  have k7 := k6.trans (b7.mono k6.size)
  clear k6 b7 V2
  go_wp2_with fail
  refine (BI.out _ 86399999999999 0 k7 (by unfold TmI; decide) (by decide +kernel)).mono ?_; rintro e w8 ⟨rfl, k8⟩
  go_wp2_with fail
  refine (BI.out _ 86400000000000 1 k8 (by unfold TmI; decide) (by decide +kernel)).mono ?_; rintro e w9 ⟨rfl, k9⟩
  go_wp2_with fail
  refine (BI.out _ 172800000000000 0 k9 (by unfold TmI; decide) (by decide +kernel)).mono ?_; rintro e w10 ⟨rfl, k10⟩
  go_wp2_with fail
  refine (BI.out _ 777600000000000 3 k10 (by unfold TmI; decide) (by decide +kernel)).mono ?_; rintro e w11 ⟨rfl, k11⟩
  have L11 := Lib.hid (L1.out.trans (k11.mono L1.out.size))
  clear k7 k8 k9 k10 k11 LA BI
  go_wp2
  go_ret
  exact ⟨rfl, L11.out⟩
set_option maxHeartbeats 4000000 in
theorem made16 (C : LCode) (w : World) (p : Option Addr) (n c : Nat) (ds : List Nat) (h : Holds w p n c (valsN .u8 ds)) (hd : ∀ d ∈ ds, d < 256) (b : Int) (hb : -1000 ≤ b ∧ b ≤ 1000) :
    Calls Try.prog 20 #[.slice p n c, .int .i64 b] w fun r w' => ∃ N F p' m c', r = .returned (.tuple #[.pointer (some ⟨N, 0, none⟩), .slice p' m c']) ∧ C.Tb w' F N (mkD dayI (ds.take 20)) topI b ∧ HoldsL w' p' m c' (mkD dayI (ds.take 20)) ∧ (∀ M, F M → w.heap.size ≤ M) ∧ Below w.heap.size w w' := by
  have nb : (n : Int) ≤ 9223372036854775807 := by have := h.cap; have := h.max; unfold maxLen at this; omega
  have ln : ds.length = n := by have := h.len; rwa [valsN_len] at this
  have HD := Lib.hid h
  have LN := Lib.hid ln
  have HH : Hid (∀ i, i < n → ds.getD i 0 < 256) := fun i hi => by
    rw [List.getD_eq_getElem?_getD, List.getElem?_eq_getElem (by omega)]
    exact hd _ (List.getElem_mem _)
  have TKN : Hid (∀ i, i < n → ds.take (i + 1) = ds.take i ++ [ds.getD i 0]) := fun i hi => by
    rw [List.take_succ_eq_append_getElem (by omega), List.getD_eq_getElem?_getD, List.getElem?_eq_getElem (by omega)]
    rfl
  have OKT : Hid (OkT (mkD dayI (ds.take 20)) topI b) := ⟨mkD_ok (List.length_take_le 20 ds), by rw [mkD_len]; have := List.length_take_le 20 ds; omega, ⟨by unfold topI; decide, Int.le_refl _⟩, hb⟩
  obtain ⟨iL, hiL, hz0, hz1, hz2⟩ := infoLp_of infoLp
  clear h hd ln hb
  go_enter Try.func20, Try.ntmps20
  go_wp2_with fail
  go_loopw [6, 7, 8] (fun lp aa ii wr => ∃ (p3 : Option Addr) (c3 i : Nat) (a : Int), lp = .slice p3 i c3 ∧ aa = .int .i64 a ∧ ii = .int .i64 (i : Nat) ∧ Hid ((i ≤ n ∧ i ≤ 20) ∧ a = endD dayI (ds.take i)) ∧ Hid (OwnL wr w.heap.size p3 i c3 (mkD dayI (ds.take i))) ∧ Hid (Below w.heap.size w wr)) (fun _ _ ii _ => 1000 - (intOf ii).toNat)
  case atStart => exact ⟨none, 0, 0, 86400000000000, rfl, rfl, rfl, ⟨⟨Nat.zero_le _, Nat.zero_le _⟩, by rw [List.take_zero]; rfl⟩, by rw [List.take_zero]; exact ⟨rfl, .inl ⟨rfl, rfl⟩⟩, Below.refl _ _⟩
  case round =>
    obtain ⟨p3, c3, i, a, rfl, rfl, rfl, I, O, L⟩ := hrel
    have i0 : (0 : Int) ≤ (i : Int) := by omega
    have i20 : (i : Int) ≤ 20 := by have := I.out.1.2; omega
    by_cases z : i < n ∧ i < 20
    · obtain ⟨z, z'⟩ := z
      have z1 : (i : Int) < (n : Int) := by omega
      have z2 : decide ((i : Int) < (n : Int)) = true := decide_eq_true z1
      have z3 : decide ((i : Int) < 20) = true := decide_eq_true (by omega)
      obtain ⟨ap, rfl, cz⟩ := (HD.out.below L.out).atN z
      have GH := HH.out i z
      have TN := TKN.out i z
      obtain ⟨d, hd⟩ : ∃ d, ds.getD i 0 = d := ⟨_, rfl⟩
      rw [hd] at cz GH TN
      have a01 : (86400000000000 : Int) ≤ a ∧ a ≤ 1000000000000000000 := by
        have e := endD_in dayI (ds.take i)
        rw [← I.out.2] at e
        have l := List.length_take_le i ds
        unfold dayI at e
        omega
      obtain ⟨r, hr⟩ : ∃ r : Nat, d % 100 = r := ⟨_, rfl⟩
      obtain ⟨q, hq⟩ : ∃ q : Nat, d % 2 = q := ⟨_, rfl⟩
      have tr : ((d : Nat) : Int).tmod 100 = ((r : Nat) : Int) := by rw [Int.tmod_eq_emod_of_nonneg (by omega)]; omega
      have tq : ((d : Nat) : Int).tmod 2 = ((q : Nat) : Int) := by rw [Int.tmod_eq_emod_of_nonneg (by omega)]; omega
      have u1 : IntKind.u8.wrap ((r : Nat) : Int) = ((r : Nat) : Int) := by rw [IntKind.wrap_u8]; omega
      have u2 : IntKind.u8.wrap ((q : Nat) : Int) = ((q : Nat) : Int) := by rw [IntKind.wrap_u8]; omega
      obtain ⟨s1, hs1⟩ : ∃ s1, 2 + ((r : Nat) : Int) = s1 := ⟨_, rfl⟩
      obtain ⟨s2, hs2⟩ : ∃ s2, s1 * 86400000000000 = s2 := ⟨_, rfl⟩
      obtain ⟨s3, hs3⟩ : ∃ s3, a + s2 = s3 := ⟨_, rfl⟩
      obtain ⟨s4, hs4⟩ : ∃ s4, 2 * ((q : Nat) : Int) = s4 := ⟨_, rfl⟩
      obtain ⟨s5, hs5⟩ : ∃ s5, 1 - s4 = s5 := ⟨_, rfl⟩
      have NX : Hid (((i + 1 ≤ n ∧ i + 1 ≤ 20) ∧ s3 = endD dayI (ds.take (i + 1))) ∧ mkD dayI (ds.take (i + 1)) = mkD dayI (ds.take i) ++ [⟨s3, s5⟩]) := by
        have e := I.out.2
        have hh : hopD d = s2 := by unfold hopD; rw [hr]; omega
        refine ⟨⟨by omega, ?_⟩, ?_⟩
        · rw [TN, endD_app, ← e, hh]; omega
        · rw [TN, mkD_app, ← e]
          unfold lpD
          rw [hh, hq, hs3, hs4, hs5]
      have I1 : Hid (I64 ((r : Nat) : Int) ∧ I64 ((q : Nat) : Int) ∧ I64 s1 ∧ I64 s2 ∧ I64 s3 ∧ I64 s4 ∧ I64 s5) := by unfold Hid I64; omega
      have BM : Hid (i + 1 ≤ maxLen) := by unfold Hid maxLen; omega
      have BY : Hid ((i + 1) * 16 ≤ 140737488355328) := by unfold Hid; omega
      obtain ⟨e1, e2⟩ := wr16 I1.out.1
      obtain ⟨e3, e4⟩ := wr16 I1.out.2.1
      obtain ⟨e5, e6⟩ := wr16 I1.out.2.2.1
      obtain ⟨e7, e8⟩ := wr16 I1.out.2.2.2.1
      obtain ⟨e9, e10⟩ := wr16 I1.out.2.2.2.2.1
      obtain ⟨e11, e12⟩ := wr16 I1.out.2.2.2.2.2.1
      obtain ⟨e13, e14⟩ := wr16 I1.out.2.2.2.2.2.2
      have OW : Hid (wr.ownsRow w.heap.size 33 2 (.slice p3 i c3) i (cellsL (mkD dayI (ds.take i)))) := O
      clear z z' I GH TN hd hr hq a01 O
      go_wp2_with (at_builtin; refine wpList_append_own _ rfl _ _ 22 rfl w.heap.size 33 iL (.agg #[.int .i64 0, .int .i64 0]) 2 16 Try.underlying22 hiL hz0 hz1 hz2 rfl (by decide) _ _ _ rfl (World.ownsRow.alloc OW.out _) ⟨wr.heap.size, 0, none⟩ 1 1 (twoL ⟨s3, s5⟩) rfl rfl (two_new rfl _ _ _) (twoL_one _) BM.out BY.out (L.out.alloc L.out.size _).size ?_)
      intro v w3 o g m
      have L3 : Hid (Below w.heap.size w w3) := (L.out.alloc L.out.size _).grown g (L.out.alloc L.out.size _).size (fun j hj => (World.ownsRow.lt OW.out j hj).1)
      have O3 : Hid (w3.ownsRow w.heap.size 33 2 v (i + 1) (cellsL (mkD dayI (ds.take (i + 1))))) := by
        rw [NX.out.2, cellsL_app, cellsL_cons]
        exact o
      clear o g m OW L e1 e2 e3 e4 e5 e6 e7 e8 e9 e10 e11 e12 e13 e14 tr tq u1 u2 hs1 hs2 hs3 hs4 hs5
      obtain ⟨p4, c4, rfl⟩ := own_slice O3.out
      go_wp2_with fail
      go_roundw
      case rel => exact ⟨p4, c4, i + 1, s3, rfl, rfl, by go_num, NX.out.1, O3, L3⟩
      case measure => simp [intOf]; omega
    · have e : ds.take i = ds.take 20 := by
        by_cases q : i < n
        · have : i = 20 := by have := I.out.1; omega
          rw [this]
        · rw [List.take_of_length_le (by rw [LN.out]; omega), List.take_of_length_le (by rw [LN.out]; have := I.out.1; omega)]
      have O' := O.out
      rw [e] at O'
      have HL := Lib.hid O'.holds
      have NG := Lib.hid (newT_good C O'.holds OKT.out)
      by_cases q : i < n
      · have z1 : (i : Int) < (n : Int) := by omega
        have z2 : decide ((i : Int) < (n : Int)) = true := decide_eq_true z1
        have z3 : decide ((i : Int) < 20) = false := decide_eq_false (by omega)
        have z4 : ¬ (i : Int) < 20 := by omega
        clear z q I O O' e
        go_wp2_with fail
        refine NG.out.mono ?_; rintro r9 w9 ⟨N, F, rfl, t9, f9, l9⟩
        have G : Hid (∃ N' F' p' m c', Ending.returned (.tuple #[.pointer (some ⟨N, 0, none⟩), .slice p3 i c3]) = .returned (.tuple #[.pointer (some ⟨N', 0, none⟩), .slice p' m c']) ∧ C.Tb w9 F' N' (mkD dayI (ds.take 20)) topI b ∧ HoldsL w9 p' m c' (mkD dayI (ds.take 20)) ∧ (∀ M, F' M → w.heap.size ≤ M) ∧ Below w.heap.size w w9) :=
          ⟨N, F, p3, i, c3, rfl, t9, HL.out.below l9, fun M hM => Nat.le_trans L.out.size (f9 M hM), L.out.trans (l9.mono L.out.size)⟩
        clear t9 f9 l9 NG HL L
        go_wp2
        go_ret2
        exact G.out
      · have z1 : (n : Int) ≤ (i : Int) := by omega
        have z2 : decide ((i : Int) < (n : Int)) = false := decide_eq_false (by omega)
        clear z q I O O' e
        go_wp2_with fail
        refine NG.out.mono ?_; rintro r9 w9 ⟨N, F, rfl, t9, f9, l9⟩
        have G : Hid (∃ N' F' p' m c', Ending.returned (.tuple #[.pointer (some ⟨N, 0, none⟩), .slice p3 i c3]) = .returned (.tuple #[.pointer (some ⟨N', 0, none⟩), .slice p' m c']) ∧ C.Tb w9 F' N' (mkD dayI (ds.take 20)) topI b ∧ HoldsL w9 p' m c' (mkD dayI (ds.take 20)) ∧ (∀ M, F' M → w.heap.size ≤ M) ∧ Below w.heap.size w w9) :=
          ⟨N, F, p3, i, c3, rfl, t9, HL.out.below l9, fun M hM => Nat.le_trans L.out.size (f9 M hM), L.out.trans (l9.mono L.out.size)⟩
        clear t9 f9 l9 NG HL L
        go_wp2
        go_ret2
        exact G.out
end Go.Proofs.Ytpfbdpoileepoaa
