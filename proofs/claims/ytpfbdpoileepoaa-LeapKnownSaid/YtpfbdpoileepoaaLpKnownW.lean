/- LeapKnown, the walk, work ahead: the chapter's rows; ends; none. 'ZC': the cells of a table that New did not make (the program's struct); 'ZN': it is as none. -/
import Derived.Test.YtpfbdpoileepoaaLpF
import Derived.Laws.MakeOwn
set_option maxRecDepth 100000
namespace Go.Proofs.Ytpfbdpoileepoaa
open Go.ChangeShapes Go.WideShapes Go.ChangeAt Go.RowKit SmM

theorem newT_arg {l : List Lp} {e b : Int} (h : ¬ OkT l e b) (n : l.length ≤ 32) : NewT l e b 1 := .inr ⟨n, .inl ⟨rfl, h⟩⟩
theorem newT_ok {l : List Lp} {e b : Int} (h : OkT l e b) : NewT l e b 0 := .inr ⟨h.2.1, .inr ⟨rfl, h⟩⟩
theorem newT_tells (C : LCode) {w : World} {p : Option Addr} {n c : Nat} {l : List Lp} {e b r : Int} (h : HoldsL w p n c l) (hi : ∀ y ∈ l, I64 y.t ∧ I64 y.k) (he : I64 e) (hb : I64 b) (hr : NewT l e b r) :
    Calls Try.prog 10 #[.slice p n c, .int .i64 e, .int .i64 b] w fun q w9 => ∃ P, q = .returned (.tuple #[.pointer P, .int .i64 r]) ∧ Below w.heap.size w w9 := by
  refine (C.new e b h hi he hb).mono fun q w9 h9 => ?_
  obtain ⟨b9, ⟨o, N, F, e9, -⟩ | ⟨r', ne, -, e9⟩⟩ := h9
  · obtain rfl := newT_one hr (newT_ok o)
    exact ⟨_, e9, b9⟩
  · obtain rfl := newT_one hr ne
    exact ⟨_, e9, b9⟩
/-- Add, whose answer is known. -/
theorem add_tells (C : LCode) {w : World} {F : Nat → Prop} {N : Nat} {l : List Lp} {e b : Int} (h : C.Tb w F N l e b) (y : Lp) (e' x : Int) (i1 : I64 y.t) (i2 : I64 y.k) (i3 : I64 e') (hx : AddT l e b y e' x) {B : Nat} (bF : ∀ M, F M → B ≤ M) (bw : B ≤ w.heap.size) :
    Calls Try.prog 16 #[.pointer (some ⟨N, 0, none⟩), .agg #[.int .i64 y.t, .int .i64 y.k], .int .i64 e'] w fun r w' => r = .returned (.int .i64 x) ∧ ∃ F', C.Tb w' F' N (if x = 0 then l ++ [y] else l) (if x = 0 then e' else e) b ∧ (∀ M, F' M → B ≤ M) ∧ Below B w w' := by
  refine (C.add y e' h i1 i2 i3).mono fun r w' ⟨x', F', er, ax, t', f', _, low⟩ => ?_
  obtain rfl := addT_one hx ax
  refine ⟨er, F', t', fun M hM => ?_, low B (bF N (C.self h)) bw⟩
  rcases f' M hM with q | q
  · exact bF M q
  · omega
def zz33 : List Lp := List.replicate 33 ⟨0, 0⟩
theorem make33' : ∃ K : Array Value, K.toList = cellsL zz33 ∧ ∀ w, (Instr.makeSlice 22 (.int .i64 33) (.int .i64 33)).run Try.prog w = .ok (.slice (some ⟨w.heap.size, 0, none⟩) 33 33) (w.alloc (.cells K 33)) := by
  obtain ⟨i, hi, h0, h1, h2⟩ := infoLp_of infoLp
  refine ⟨madeCells (Value.agg #[.int .i64 0, .int .i64 0]).cells 66, by kernel_rfl, fun w => ?_⟩
  have r := run_make (P := Try.prog) w 22 33 i _ Try.underlying22 hi h0 .i64 .i64 33 33 (by omega) (by omega) (by rw [h2]; decide) (by omega)
  rw [h1] at r
  exact r
theorem zz33_in : ∀ y ∈ zz33, I64 y.t ∧ I64 y.k := by
  intro y hy
  obtain rfl := List.eq_of_mem_replicate hy
  exact ⟨by unfold I64; decide, by unfold I64; decide⟩
def ch2 : List Lp := [⟨172800000000000, 1⟩, ⟨432000000000000, -1⟩]
theorem ch2_ok (e : Int) (h : 0 ≤ e ∧ e ≤ topI) : OkT ch2 e 10 := by
  refine ⟨⟨fun y hy => ?_, by decide, trivial⟩, by decide, h, by decide⟩
  simp only [ch2, List.mem_cons, List.not_mem_nil, or_false] at hy
  unfold dayI topI
  rcases hy with rfl | rfl <;> decide
theorem a1_add : AddT ch1 777600000000000 10 ⟨259200000000000, -1⟩ 777600000000000 1 := by
  refine ⟨1, newT_arg (fun q => ?_) (by decide), .inl ⟨by decide, rfl⟩⟩
  exact absurd q.1.2.1 (by decide)
theorem a2_add : AddT ch1 777600000000000 10 ⟨432000000000000, -1⟩ 691200000000000 1 := ⟨0, newT_ok (ch2_ok _ (by unfold topI; decide)), .inr ⟨rfl, .inl ⟨by decide, rfl⟩⟩⟩
theorem a3_add : AddT ch1 777600000000000 10 ⟨432000000000000, -1⟩ 1728000000000000 0 := ⟨0, newT_ok (ch2_ok _ (by unfold topI; decide)), .inr ⟨rfl, .inr ⟨by decide, rfl⟩⟩⟩
theorem holdsL_nil (w : World) : HoldsL w none 0 0 [] := ⟨rfl, Nat.le_refl _, Nat.zero_le _, fun i hi => absurd hi (by omega)⟩
set_option maxHeartbeats 8000000 in
theorem known16_walk (C : LCode) (ZN : ∀ w : World, C.Nt (w.alloc (.cells #[.bool false, .slice none 0 0, .int .i64 0, .int .i64 0] 67)) (some ⟨w.heap.size, 0, none⟩)) (w : World) : Calls Try.prog 9 #[] w fun e w' => e = .returned (.bool true) ∧ Below w.heap.size w w' := by
  have AW := Lib.hid (alive16 C)
  have Z0 := Lib.hid (ZN w)
  have L0 := Lib.hid ((Below.refl w.heap.size w).alloc (Nat.le_refl _) (.cells #[.bool false, .slice none 0 0, .int .i64 0, .int .i64 0] 67))
  obtain ⟨V, hV⟩ : ∃ V, w.alloc (.cells #[.bool false, .slice none 0 0, .int .i64 0, .int .i64 0] 67) = V := ⟨_, rfl⟩
  rw [hV] at Z0 L0
  have K0 : Below V.heap.size V V := Below.refl _ _
  clear ZN
  go_enter Try.func9, Try.ntmps9
  go_wp2_with fail
  clear hV
  refine (C.label_nt 5 (C.nt _)).mono ?_; rintro e w1 ⟨rfl, b1⟩
  have k1 := K0.trans (b1.mono K0.size)
  go_wp2_with fail
  refine (C.even_nt 5 false (C.nkeep Z0.out k1)).mono ?_; rintro e w2 ⟨rfl, b2⟩
  have k2 := k1.trans (b2.mono k1.size)
  go_wp2_with fail
  refine (C.next_nt 0 (C.nt _)).mono ?_; rintro e w3 ⟨rfl, b3⟩
  have k3 := k2.trans (b3.mono k2.size)
  have k4 := k3.alloc k3.size (.cells #[.int .i64 0, .int .i64 0] 33)
  clear K0 b1 k1 b2 k2 b3 k3
  go_wp2_with fail
  refine (C.offset_nt 0 (C.nt _)).mono ?_; rintro e w5 ⟨rfl, b5⟩
  have k5 := k4.trans (b5.mono k4.size)
  go_wp2_with fail
  refine (C.bits_nt 0 (C.nkeep Z0.out k5)).mono ?_; rintro e w6 ⟨rfl, b6⟩
  have k6 := k5.trans (b6.mono k5.size)
  go_wp2_with fail
  refine (C.add_nt ⟨0, 0⟩ 0 (C.nt _)).mono ?_; rintro e w7 ⟨rfl, b7⟩
  have k7 := k6.trans (b7.mono k6.size)
  clear b5 k4 k5 b6 k6 b7
  go_wp2_with fail
  refine (C.list_nt (C.nt _)).mono ?_; rintro e w8 ⟨⟨q8, d8, rfl⟩, b8⟩
  have k8 := k7.trans (b8.mono k7.size)
  go_wp2_with fail
  refine (C.copy_nt (C.nkeep Z0.out k8)).mono ?_; rintro e w9 ⟨rfl, b9⟩
  have L9 := Lib.hid (L0.out.trans ((k8.trans (b9.mono k8.size)).mono L0.out.size))
  clear k7 b8 k8 b9 Z0 L0
  have K9 : Below w9.heap.size w9 w9 := Below.refl _ _
  go_wp2_with fail
  refine (newT_tells C (holdsL_nil _) (fun y hy => by cases hy) (e := -1) (b := 0) (by unfold I64; decide) (by unfold I64; decide) (newT_arg (fun q => absurd q.2.2.1.1 (by decide)) (by decide))).mono ?_; rintro e w10 ⟨P10, rfl, b10⟩
  have k10 := K9.trans (b10.mono K9.size)
  go_wp2_with fail
  refine (newT_tells C (holdsL_nil _) (fun y hy => by cases hy) (e := 0) (b := 1001) (by unfold I64; decide) (by unfold I64; decide) (newT_arg (fun q => absurd q.2.2.2.2 (by decide)) (by decide))).mono ?_; rintro e w11 ⟨P11, rfl, b11⟩
  have k11 := k10.trans (b11.mono k10.size)
  have k12 := k11.alloc k11.size (.cells #[.int .i64 5, .int .i64 1] 33)
  have N3 := Lib.hid (newT_tells C (own_made (B := 0) (heap_alloc_new w11 (.cells #[.int .i64 5, .int .i64 1] 33)) (l := [⟨5, 1⟩]) (n := 1) rfl rfl (by decide) (Nat.zero_le _)).holds (fun y hy => by obtain rfl := List.mem_singleton.1 hy; exact ⟨by unfold I64; decide, by unfold I64; decide⟩) (e := 0) (b := 0) (by unfold I64; decide) (by unfold I64; decide) (newT_arg (fun q => absurd (q.1.1 ⟨5, 1⟩ (List.mem_singleton.2 rfl)).1 (by decide)) (by decide)))
  clear K9 b10 k10 b11 k11
  go_wp2_with fail
  refine N3.out.mono ?_; rintro e w13 ⟨P13, rfl, b13⟩
  have k13 := k12.trans (b13.mono k12.size)
  obtain ⟨Kc, hKc, mk⟩ := make33'
  have k14 := k13.alloc k13.size (.cells Kc 33)
  have N4 := Lib.hid (newT_tells C (own_made (B := 0) (heap_alloc_new w13 (.cells Kc 33)) (l := zz33) (n := 33) hKc (by decide) (by decide) (Nat.zero_le _)).holds zz33_in (e := 0) (b := 0) (by unfold I64; decide) (by unfold I64; decide) (r := 7) (.inl ⟨rfl, by decide⟩))
  clear b13 k12 k13 N3 hKc
  go_wp2_with fail
  refine N4.out.mono ?_; rintro e w15 ⟨P15, rfl, b15⟩
  have L15 := Lib.hid (L9.out.trans ((k14.trans (b15.mono k14.size)).mono L9.out.size))
  clear b15 k14 N4 mk L9
  go_wp2_with fail
  refine (one16 C w15).mono ?_; rintro e w16 ⟨N, F, rfl, t16, f16, b16⟩
  have A1 := Lib.hid (add_tells C t16 ⟨259200000000000, -1⟩ 777600000000000 1 (by unfold I64; decide) (by unfold I64; decide) (by unfold I64; decide) a1_add f16 b16.size)
  have L16 := Lib.hid b16
  clear t16 f16 b16
  go_wp2_with fail
  refine A1.out.mono ?_; rintro e w17 ⟨rfl, F17, t17, f17, b17⟩
  have k17 := L16.out.trans b17
  simp only [show ¬ (1 : Int) = 0 by decide, if_false] at t17
  have A2 := Lib.hid (add_tells C t17 ⟨432000000000000, -1⟩ 691200000000000 1 (by unfold I64; decide) (by unfold I64; decide) (by unfold I64; decide) a2_add f17 k17.size)
  clear t17 f17 b17 A1 L16
  go_wp2_with fail
  refine A2.out.mono ?_; rintro e w18 ⟨rfl, F18, t18, f18, b18⟩
  have k18 := k17.trans b18
  simp only [show ¬ (1 : Int) = 0 by decide, if_false] at t18
  have A3 := Lib.hid (add_tells C t18 ⟨432000000000000, -1⟩ 1728000000000000 0 (by unfold I64; decide) (by unfold I64; decide) (by unfold I64; decide) a3_add f18 k18.size)
  clear t18 f18 b18 A2 k17
  go_wp2_with fail
  refine A3.out.mono ?_; rintro e w19 ⟨rfl, F19, t19, f19, b19⟩
  have t19' : C.Tb w19 F19 N ch2 1728000000000000 10 := t19
  have T19 := Lib.hid t19'
  have L19 := Lib.hid (L15.out.trans ((k18.trans b19).mono L15.out.size))
  have K19 : Below w19.heap.size w19 w19 := Below.refl _ _
  have BI : Hid (∀ w' t v, Below w19.heap.size w19 w' → TmI t → bitsI ch2 1728000000000000 t = v → Calls Try.prog 28 #[.pointer (some ⟨N, 0, none⟩), .int .i64 t] w' fun e w'' => e = .returned (.int .u8 (v : Nat)) ∧ Below w19.heap.size w19 w'') := fun w' t v k tm h =>
    (C.bits t (C.below T19.out k) tm).mono fun e w'' ⟨a, b⟩ => ⟨by rw [a, h], k.trans (b.mono k.size)⟩
  have OF : Hid (∀ w', Below w19.heap.size w19 w' → Calls Try.prog 23 #[.pointer (some ⟨N, 0, none⟩), .int .i64 432000000000000] w' fun e w'' => e = .returned (.int .i64 10) ∧ Below w19.heap.size w19 w'') := fun w' k =>
    (C.offset 432000000000000 (C.below T19.out k) (by unfold TmI; decide)).mono fun e w'' ⟨a, b⟩ => ⟨by rw [a, show offI ch2 10 432000000000000 = 10 by decide +kernel], k.trans (b.mono k.size)⟩
  clear t19 t19' f19 b19 A3 k18
  go_wp2_with fail
  refine (C.vote (l := []) (Holds.nil _ _ _ (Nat.zero_le _) (fun _ => rfl)) (by decide) (by decide)).mono ?_; rintro e w20 ⟨rfl, b20⟩
  rw [show voteN [] = (0, false) by decide]
  have k20 := K19.trans (b20.mono K19.size)
  have k21 := k20.alloc k20.size (.cells #[.int .u8 3, .int .u8 3, .int .u8 200] 5)
  have V1 := Lib.hid (C.vote (l := [3, 3, 200]) (blk_holds (heap_alloc_new w20 (.cells #[.int .u8 3, .int .u8 3, .int .u8 200] 5)) rfl (by decide)) (by decide) (by decide))
  rw [show voteN [3, 3, 200] = (0, false) by decide] at V1
  clear K19 b20 k20
  go_wp2_with fail
  refine V1.out.mono ?_; rintro e w22 ⟨rfl, b22⟩
  have k22 := k21.trans (b22.mono k21.size)
  have k23 := k22.alloc k22.size (.cells #[.int .u8 2, .int .u8 2, .int .u8 1] 5)
  have V2 := Lib.hid (C.vote (l := [2, 2, 1]) (blk_holds (heap_alloc_new w22 (.cells #[.int .u8 2, .int .u8 2, .int .u8 1] 5)) rfl (by decide)) (by decide) (by decide))
  rw [show voteN [2, 2, 1] = (2, true) by decide] at V2
  clear k21 b22 k22 V1
  go_wp2_with fail
  refine V2.out.mono ?_; rintro e w24 ⟨rfl, b24⟩
  have k24 := k23.trans (b24.mono k23.size)
  clear k23 b24 V2
  go_wp2_with fail
  refine (BI.out _ 345600000000000 2 k24 (by unfold TmI; decide) (by decide +kernel)).mono ?_; rintro e w25 ⟨rfl, k25⟩
  go_wp2_with fail
  refine (BI.out _ 345599999999999 0 k25 (by unfold TmI; decide) (by decide +kernel)).mono ?_; rintro e w26 ⟨rfl, k26⟩
  go_wp2_with fail
  refine (BI.out _ 1641600000000000 0 k26 (by unfold TmI; decide) (by decide +kernel)).mono ?_; rintro e w27 ⟨rfl, k27⟩
  go_wp2_with fail
  refine (BI.out _ 1728000000000000 3 k27 (by unfold TmI; decide) (by decide +kernel)).mono ?_; rintro e w28 ⟨rfl, k28⟩
  go_wp2_with fail
  refine (OF.out _ k28).mono ?_; rintro e w29 ⟨rfl, k29⟩
  clear k24 k25 k26 k27 k28 BI OF
  go_wp2_with fail
  refine (AW.out _).mono ?_; rintro e w30 ⟨rfl, b30⟩
  have L30 := Lib.hid (L19.out.trans ((k29.trans (b30.mono k29.size)).mono L19.out.size))
  clear k29 b30
  go_wp2
  go_ret
  exact ⟨rfl, L30.out⟩
end Go.Proofs.Ytpfbdpoileepoaa
