/- SmearTells, the walk: tables as the chapter says them; what is handed in stays, what is told is new. -/
import Derived.Test.YtmafjhggjpjgmaaSmJ
import Derived.Test.YtmafjhggjpjgmaaSmH
import Derived.Test.YtmafjhggjpjgmaaSmQ
import Derived.Test.YtmafjhggjpjgmaaSmR
set_option maxRecDepth 100000
namespace Go.Proofs.Ytmafjhggjpjgmaa
open Go.ChangeShapes Go.WideShapes Go.ChangeAt Go.RowKit SmM

theorem wr15 {x : Int} (h : I64 x) : wrap64 x = x ∧ IntKind.i64.wrap x = x := by
  unfold I64 at h
  rw [IntKind.wrap_i64]
  unfold wrap64
  omega
theorem holdsL_take {w : World} {p : Option Addr} {n c : Nat} {l : List Lp} (h : HoldsL w p n c l) {m : Nat} (hm : m ≤ n) : HoldsL w p m c (l.take m) :=
  ⟨by rw [List.length_take, h.len]; omega, Nat.le_trans hm h.cap, h.max, fun i hi => by
    have e : gl (l.take m) i = gl l i := by
      rw [gl_of (by rw [List.length_take, h.len]; omega), gl_of (by rw [h.len]; omega), List.getElem_take]
    rw [e]
    exact h.cell i (by omega)⟩
theorem holdsL_none (w : World) : HoldsL w none 0 0 [] := ⟨rfl, Nat.le_refl _, Nat.zero_le _, fun i hi => absurd hi (by omega)⟩
theorem below_drewN' (w : World) (k : Nat) : Below w.heap.size w (w.drewN k) := below_drewN (Below.refl _ _) k
set_option maxHeartbeats 8000000 in
theorem tells15_core (C : SCode) (LN : ∀ w', Calls Try.prog 21 #[.pointer none] w' fun e w'' => ∃ q d, e = .returned (.slice q 0 d) ∧ OwnL w'' w'.heap.size q 0 d [] ∧ Below w'.heap.size w' w'')
    (w : World) (p : Option Addr) (n c m : Nat) (l : List Lp) (EM : min (n : Int) 40 = (m : Int)) (mc : (m : Int) ≤ (c : Int)) (h : HoldsL w p m c l) (hi : ∀ y ∈ l, I64 y.t ∧ I64 y.k)
    (q : Option Addr) (k d : Nat) (zs : List Int) (ht : Holds w q k d (valsI .i64 zs)) (hz : ∀ z ∈ zs, I64 z) :
    Calls Try.prog 3 #[.slice p n c, .slice q k d] w fun e w' => e = .returned (.bool true) ∧ Below w.heap.size w w' := by
  have EI : (if (40 : Int) < (n : Int) then (40 : Int) else (n : Int)) = (m : Int) := by split <;> omega
  have m0 : (0 : Int) ≤ (m : Int) := by omega
  have m40 : (m : Int) ≤ 40 := by omega
  have AW := Lib.hid (awake15 C)
  have CL := Lib.hid (pclone15 w p m c l h (by omega))
  have HL := Lib.hid h
  have HT := Lib.hid ht
  have HI := Lib.hid hi
  have LNN := Lib.hid LN
  have HM := Lib.hid h.len
  have HZ : Hid (∀ i, i < k → I64 (zs.getD i 0)) := fun i hk => by
    have ln := ht.len
    rw [valsI_len] at ln
    rw [List.getD_eq_getElem?_getD, List.getElem?_eq_getElem (by omega)]
    exact hz _ (List.getElem_mem _)
  have kb : (k : Int) ≤ 9223372036854775807 := by have := ht.cap; have := ht.max; unfold maxLen at this; omega
  clear h hi ht hz LN
  go_enter Try.func3, Try.ntmps3
  go_wp2_with fail
  refine CL.out.mono ?_; rintro e w1 ⟨q1, d1, rfl, o1, b1⟩
  have O1 := Lib.hid o1
  have L1 := Lib.hid b1
  have NW := Lib.hid (C.new o1.holds HI.out)
  clear o1 b1 CL EI EM mc
  go_wp2_with fail
  refine NW.out.mono ?_; rintro e w2 ⟨b2, hc⟩
  have B2 := Lib.hid b2
  have L2 := Lib.hid (L1.out.trans (b2.mono L1.out.size))
  have RN := Lib.hid (fun w' (b : Below w.heap.size w w') => rnew15 w' p m c l (HL.out.below b) HI.out)
  have SE : Hid (∀ w', Below w1.heap.size w1 w' → Calls Try.prog 14 #[.slice q1 m d1, .slice p m c] w' fun e w'' => e = .returned (.bool true) ∧ ∃ k, w'' = w'.drewN k) := fun w' b =>
    sequal15 w' q1 p m d1 c l (O1.out.holds.below b) (HL.out.below (L1.out.trans (b.mono L1.out.size))) (by omega)
  clear b2 NW
  rcases hc with ⟨ok, m32, N, F, rfl, t2, f2⟩ | ⟨r, ne, r0, rfl⟩
  · have NE : Hid (∀ r', NewE l r' → r' = 0) := fun r' h => newE_one h (.inr ⟨by have := HM.out; omega, .inl ⟨rfl, ok⟩⟩)
    have T2 := Lib.hid t2
    have F2 := Lib.hid f2
    have OK := Lib.hid ok
    have M32 := Lib.hid m32
    clear t2 f2 ok m32
    go_wp2_with fail
    refine (AW.out w2).mono ?_; rintro e w3 ⟨rfl, b3⟩
    have L3 := Lib.hid (L2.out.trans (b3.mono L2.out.size))
    have B3 := Lib.hid (B2.out.trans (b3.mono B2.out.size))
    have K3 := Lib.hid b3
    clear b3
    go_wp2_with fail
    refine (RN.out w3 L3.out).mono ?_; rintro e w4 ⟨⟨r', rfl, hr'⟩, b4⟩
    obtain rfl := NE.out r' hr'
    have L4 := Lib.hid (L3.out.trans (b4.mono L3.out.size))
    have B4 := Lib.hid (B3.out.trans (b4.mono B3.out.size))
    have K4 := Lib.hid (K3.out.trans (b4.mono K3.out.size))
    clear b4 hr' L3 B3 K3 RN
    go_wp2_with fail
    refine (SE.out w4 B4.out).mono ?_; rintro e w5 ⟨rfl, j, hj⟩
    have q5 := below_drewN' w4 j
    rw [← hj] at q5
    have B1 := Lib.hid (B4.out.trans (q5.mono B4.out.size))
    have L5 := Lib.hid (L4.out.trans (q5.mono L4.out.size))
    have B5 := Lib.hid (K4.out.trans (q5.mono K4.out.size))
    have RW := Lib.hid (O1.out.rws B1.out)
    clear q5 hj L4 B4 K4 SE B2 L2
    go_wp2_with fail
    go_loopw [54] (fun ii wr => ∃ i : Nat, ii = .int .i64 (i : Nat) ∧ Hid (i ≤ m) ∧ Hid (RwS w.heap.size w1.heap.size w5 wr q1 m)) (fun ii _ => 1000 - (intOf ii).toNat)
    case atStart => exact ⟨0, rfl, Nat.zero_le _, RW⟩
    case round =>
      obtain ⟨i, rfl, I, R⟩ := hrel
      have i0 : (0 : Int) ≤ (i : Int) := by omega
      by_cases y : i < m
      · have y1 : (i : Int) < (m : Int) := by omega
        obtain ⟨a, rfl, ⟨x, cx⟩, -, fz, -, st, -⟩ := R.out.at y
        have NX : Hid (i + 1 ≤ m) := y
        have ST := Lib.hid st
        clear y I st R RW O1
        go_wp2_with fail
        go_roundw
        case rel => exact ⟨i + 1, by go_num, NX, ST.out _⟩
        case measure => simp [intOf]; omega
      · have y1 : (m : Int) ≤ (i : Int) := by omega
        have y2 : decide ((i : Int) < (m : Int)) = false := decide_eq_false (by omega)
        obtain ⟨w6, rfl⟩ : ∃ w6, w6 = wr := ⟨_, rfl⟩
        have R6 := R
        have L6 := Lib.hid (L5.out.trans R6.out.low)
        clear y I R RW O1 L5 B1
        have T6 : Hid (C.Tb w6 F N l) := C.keep (C.below T2.out B5.out) fun M hM => R6.out.far M (F2.out M hM) (C.lt (C.below T2.out B5.out) M hM)
        have WI : Hid (∀ w' z, Below w6.heap.size w6 w' → I64 z → Calls Try.prog 15 #[.pointer (some ⟨N, 0, none⟩), .int .i64 z] w' fun e w'' => e = WithE l (nearI z) ∧ Below w6.heap.size w6 w'') := fun w' z k i =>
          (C.within z (C.below T6.out k) i).mono fun e w'' ⟨a, b⟩ => ⟨a, k.trans (b.mono k.size)⟩
        have TO : Hid (∀ w' z, Below w6.heap.size w6 w' → I64 z → Calls Try.prog 17 #[.pointer (some ⟨N, 0, none⟩), .int .i64 z] w' fun e w'' => e = .returned (.int .i64 (toI l z)) ∧ Below w6.heap.size w6 w'') := fun w' z k i =>
          (C.to_ z (C.below T6.out k) i).mono fun e w'' ⟨a, b⟩ => ⟨a, k.trans (b.mono k.size)⟩
        have TA : Hid (∀ w' z, Below w6.heap.size w6 w' → I64 z → Calls Try.prog 19 #[.pointer (some ⟨N, 0, none⟩), .int .i64 z] w' fun e w'' => e = .returned (.int .i64 (takenI l (nearI z))) ∧ Below w6.heap.size w6 w'') := fun w' z k i =>
          (C.taken z (C.below T6.out k) i).mono fun e w'' ⟨a, b⟩ => ⟨a, k.trans (b.mono k.size)⟩
        have LI : Hid (∀ w', Below w6.heap.size w6 w' → Calls Try.prog 21 #[.pointer (some ⟨N, 0, none⟩)] w' fun e w'' => ∃ q d, e = .returned (.slice q m d) ∧ OwnL w'' w'.heap.size q m d l ∧ Below w'.heap.size w' w'') := fun w' k =>
          (C.list (C.below T6.out k)).mono fun e w'' ⟨q, d, a, o, b⟩ => by
            rw [HM.out] at a o
            exact ⟨q, d, a, o, b⟩
        have RR : Hid (∀ w', Below w6.heap.size w6 w' → HoldsL w' p m c l) := fun w' k => HL.out.below (L6.out.trans (k.mono L6.out.size))
        have RI : Hid (InL l ∧ m ≤ 32) := ⟨OK.out.1, M32.out⟩
        clear T6 T2 F2 OK M32 NE R6 B5
        go_wp2_with fail
        rw [show decide (i < m) = false from decide_eq_false (by omega)]
        clear y1 y2 i0
        go_loopw [68] (fun ii wx => ∃ i : Nat, ii = .int .i64 (i : Nat) ∧ Hid (i ≤ k ∧ i ≤ 40) ∧ Hid (Below w6.heap.size w6 wx)) (fun ii _ => 1000 - (intOf ii).toNat)
        case atStart => exact ⟨0, rfl, ⟨Nat.zero_le _, Nat.zero_le _⟩, Below.refl _ _⟩
        case round =>
          obtain ⟨wx, rfl⟩ : ∃ wx, wx = wr := ⟨_, rfl⟩
          obtain ⟨i, rfl, I, L⟩ := hrel
          have i0 : (0 : Int) ≤ (i : Int) := by omega
          have i40 : (i : Int) ≤ 40 := by have := I.out.2; omega
          have stop : (k ≤ i) ∨ (i < k ∧ i = 40) ∨ (i < k ∧ i < 40) := by have := I.out; omega
          rcases stop with z | ⟨z, z'⟩ | ⟨z, z'⟩
          · have z1 : (k : Int) ≤ (i : Int) := by omega
            have z2 : decide ((i : Int) < (k : Int)) = false := decide_eq_false (by omega)
            clear z I
            clear WI TO TA RI
            go_wp2_with fail
            refine (LI.out _ L.out).mono ?_; rintro e v1 ⟨tq, td, rfl, o1, b1⟩
            have TQ := Lib.hid o1
            have K1 := Lib.hid (L.out.trans (b1.mono L.out.size))
            have TL := Lib.hid (fun w' (b : Below v1.heap.size v1 w') => sequal15 w' tq _ _ td _ _ (o1.holds.below b) (RR.out w' (K1.out.trans (b.mono K1.out.size))) (by omega))
            clear o1 b1
            go_wp2_with fail
            refine (TL.out _ (Below.refl _ _)).mono ?_; rintro e v2 ⟨rfl, j, hj⟩
            have q2 := below_drewN' v1 j
            rw [← hj] at q2
            have K2 := Lib.hid (K1.out.trans (q2.mono K1.out.size))
            have RW := Lib.hid (TQ.out.rws q2)
            have SZ : Hid (w6.heap.size ≤ wx.heap.size) := L.out.size
            clear q2 hj TL K1
            go_wp2_with fail
            try rw [show decide (i < k) = false from decide_eq_false (by omega)]
            clear i0 i40 z1 z2
            try clear z3
            go_loopw [120] (fun ii wy => ∃ i : Nat, ii = .int .i64 (i : Nat) ∧ Hid (i ≤ m) ∧ Hid (RwS wx.heap.size v1.heap.size v2 wy tq m)) (fun ii _ => 1000 - (intOf ii).toNat)
            case atStart => exact ⟨0, rfl, Nat.zero_le _, RW⟩
            case round =>
              obtain ⟨i', rfl, I, R⟩ := hrel
              have i0 : (0 : Int) ≤ (i' : Int) := by omega
              by_cases y : i' < m
              · have z1 : (i' : Int) < ((m : Nat) : Int) := by omega
                obtain ⟨a, rfl, -, ⟨x, cx⟩, -, fz, -, st⟩ := R.out.at y
                have NX : Hid (i' + 1 ≤ m) := y
                have ST := Lib.hid st
                clear y I st R RW
                go_wp2_with fail
                go_roundw
                case rel => exact ⟨i' + 1, by go_num, NX, ST.out _⟩
                case measure => first | (exfalso; omega) | (simp [intOf]; omega)
              · have z1 : ((m : Nat) : Int) ≤ (i' : Int) := by omega
                have z2 : decide ((i' : Int) < ((m : Nat) : Int)) = false := decide_eq_false (by omega)
                have K3 := Lib.hid (K2.out.trans (R.out.low.mono SZ.out))
                clear y I R RW
                go_wp2_with fail
                refine (LI.out _ K3.out).mono ?_; rintro e v3 ⟨uq, ud, rfl, o3, b3⟩
                have K4 := Lib.hid (K3.out.trans (b3.mono K3.out.size))
                have TL := Lib.hid (sequal15 v3 uq _ _ ud _ _ o3.holds (RR.out v3 K4.out) (by omega))
                clear o3 b3
                go_wp2_with fail
                refine TL.out.mono ?_; rintro e v4 ⟨rfl, j', hj'⟩
                have q4 := below_drewN' v3 j'
                rw [← hj'] at q4
                have L9 := Lib.hid (L6.out.trans ((K4.out.trans (q4.mono K4.out.size)).mono L6.out.size))
                clear q4 hj' TL
                go_wp2
                go_ret
                exact ⟨rfl, L9.out⟩
          · have z1 : (i : Int) < (k : Int) := by omega
            have z2 : decide ((i : Int) < (k : Int)) = true := decide_eq_true z1
            have z3 : ((i : Int) == 40) = true := by subst z'; rfl
            obtain ⟨ap, rfl, c0⟩ := (HT.out.below (L6.out.trans (L.out.mono L6.out.size))).atI z
            clear z z' I
            clear WI TO TA RI
            go_wp2_with fail
            refine (LI.out _ L.out).mono ?_; rintro e v1 ⟨tq, td, rfl, o1, b1⟩
            have TQ := Lib.hid o1
            have K1 := Lib.hid (L.out.trans (b1.mono L.out.size))
            have TL := Lib.hid (fun w' (b : Below v1.heap.size v1 w') => sequal15 w' tq _ _ td _ _ (o1.holds.below b) (RR.out w' (K1.out.trans (b.mono K1.out.size))) (by omega))
            clear o1 b1
            go_wp2_with fail
            refine (TL.out _ (Below.refl _ _)).mono ?_; rintro e v2 ⟨rfl, j, hj⟩
            have q2 := below_drewN' v1 j
            rw [← hj] at q2
            have K2 := Lib.hid (K1.out.trans (q2.mono K1.out.size))
            have RW := Lib.hid (TQ.out.rws q2)
            have SZ : Hid (w6.heap.size ≤ wx.heap.size) := L.out.size
            clear q2 hj TL K1
            go_wp2_with fail
            try rw [show decide (i < k) = true from decide_eq_true (by omega)]
            clear i0 i40 z1 z2
            try clear z3
            go_loopw [120] (fun ii wy => ∃ i : Nat, ii = .int .i64 (i : Nat) ∧ Hid (i ≤ m) ∧ Hid (RwS wx.heap.size v1.heap.size v2 wy tq m)) (fun ii _ => 1000 - (intOf ii).toNat)
            case atStart => exact ⟨0, rfl, Nat.zero_le _, RW⟩
            case round =>
              obtain ⟨i', rfl, I, R⟩ := hrel
              have i0 : (0 : Int) ≤ (i' : Int) := by omega
              by_cases y : i' < m
              · have z1 : (i' : Int) < ((m : Nat) : Int) := by omega
                obtain ⟨a, rfl, -, ⟨x, cx⟩, -, fz, -, st⟩ := R.out.at y
                have NX : Hid (i' + 1 ≤ m) := y
                have ST := Lib.hid st
                clear y I st R RW
                go_wp2_with fail
                go_roundw
                case rel => exact ⟨i' + 1, by go_num, NX, ST.out _⟩
                case measure => first | (exfalso; omega) | (simp [intOf]; omega)
              · have z1 : ((m : Nat) : Int) ≤ (i' : Int) := by omega
                have z2 : decide ((i' : Int) < ((m : Nat) : Int)) = false := decide_eq_false (by omega)
                have K3 := Lib.hid (K2.out.trans (R.out.low.mono SZ.out))
                clear y I R RW
                go_wp2_with fail
                refine (LI.out _ K3.out).mono ?_; rintro e v3 ⟨uq, ud, rfl, o3, b3⟩
                have K4 := Lib.hid (K3.out.trans (b3.mono K3.out.size))
                have TL := Lib.hid (sequal15 v3 uq _ _ ud _ _ o3.holds (RR.out v3 K4.out) (by omega))
                clear o3 b3
                go_wp2_with fail
                refine TL.out.mono ?_; rintro e v4 ⟨rfl, j', hj'⟩
                have q4 := below_drewN' v3 j'
                rw [← hj'] at q4
                have L9 := Lib.hid (L6.out.trans ((K4.out.trans (q4.mono K4.out.size)).mono L6.out.size))
                clear q4 hj' TL
                go_wp2
                go_ret
                exact ⟨rfl, L9.out⟩
          · have z1 : (i : Int) < (k : Int) := by omega
            have z2 : decide ((i : Int) < (k : Int)) = true := decide_eq_true z1
            have z3 : ((i : Int) == 40) = false := by rw [beq_eq_false_iff_ne]; omega
            obtain ⟨ap, rfl, c0⟩ := (HT.out.below (L6.out.trans (L.out.mono L6.out.size))).atI z
            have SI := HZ.out i z
            obtain ⟨s, hs⟩ : ∃ s, zs.getD i 0 = s := ⟨_, rfl⟩
            rw [hs] at c0 SI
            have S := Lib.hid SI
            have NX : Hid (i + 1 ≤ k ∧ i + 1 ≤ 40) := by unfold Hid; omega
            have W2 := Lib.hid (fun w' b => rwithin15 w' _ _ _ _ (RR.out w' b) RI.out.1 RI.out.2 s)
            have T2 := Lib.hid (fun w' b => rto15 w' _ _ _ _ (RR.out w' b) RI.out.1 RI.out.2 s)
            have A2 := Lib.hid (fun w' b => rtaken15 w' _ _ _ _ (RR.out w' b) RI.out.1 RI.out.2 s)
            have WE := within_either l (nearI s)
            have WI2 := Lib.hid (fun w' b => WI.out w' s b S.out)
            have TO2 := Lib.hid (fun w' b => TO.out w' s b S.out)
            have TA2 := Lib.hid (fun w' b => TA.out w' s b S.out)
            generalize toI l s = vt at *
            generalize takenI l (nearI s) = va at *
            have WV : Hid (∀ (v : Int), withinI l (nearI s) = v → WithE l (nearI s) = .returned (.tuple #[.int .i64 (max v 0), .bool (decide (0 ≤ v))])) := fun v e => by rw [← e]; rfl
            generalize WithE l (nearI s) = we at *
            generalize withinI l (nearI s) = wv at *
            clear z z' I hs SI WI TO TA LI RR RI
            rcases WE with rfl | ⟨j, rfl⟩
            · have WX : Hid (we = .returned (.tuple #[.int .i64 0, .bool false])) := WV.out _ rfl
              clear WV
              go_wp2_with fail
              refine (WI2.out _ L.out).mono ?_; rintro e v1 ⟨rfl, k1⟩
              rw [WX.out]
              go_wp2_with fail
              refine (W2.out _ k1).mono ?_; rintro e v2 ⟨rfl, b2⟩
              have k2 := k1.trans (b2.mono k1.size)
              clear k1 b2
              go_wp2_with fail
              refine (TO2.out _ k2).mono ?_; rintro e v3 ⟨rfl, k3⟩
              clear k2
              go_wp2_with fail
              refine (T2.out _ k3).mono ?_; rintro e v4 ⟨rfl, b4⟩
              have k4 := k3.trans (b4.mono k3.size)
              clear k3 b4
              go_wp2_with fail
              refine (TA2.out _ k4).mono ?_; rintro e v5 ⟨rfl, k5⟩
              clear k4
              go_wp2_with fail
              refine (A2.out _ k5).mono ?_; rintro e v6 ⟨rfl, b6⟩
              have k6 := Lib.hid (k5.trans (b6.mono k5.size))
              clear k5 b6 WI2 TO2 TA2 W2 T2 A2
              go_wp2_with fail
              go_roundw
              case rel => exact ⟨i + 1, by go_num, NX, k6⟩
              case measure => simp [intOf]; omega
            · have j0 : (0 : Int) ≤ (j : Int) := by omega
              have j1 : decide ((0 : Int) ≤ (j : Int)) = true := decide_eq_true j0
              have j2 : max ((j : Nat) : Int) 0 = (j : Int) := by omega
              have j3 : (if ((j : Nat) : Int) < 0 then (0 : Int) else (j : Int)) = (j : Int) := by rw [if_neg (by omega)]
              have WX : Hid (we = .returned (.tuple #[.int .i64 (j : Nat), .bool true])) := by
                have := WV.out _ rfl
                rw [j1, j2] at this
                exact this
              clear WV
              go_wp2_with fail
              refine (WI2.out _ L.out).mono ?_; rintro e v1 ⟨rfl, k1⟩
              rw [WX.out]
              go_wp2_with fail
              refine (W2.out _ k1).mono ?_; rintro e v2 ⟨rfl, b2⟩
              have k2 := k1.trans (b2.mono k1.size)
              clear k1 b2
              go_wp2_with fail
              refine (TO2.out _ k2).mono ?_; rintro e v3 ⟨rfl, k3⟩
              clear k2
              go_wp2_with fail
              refine (T2.out _ k3).mono ?_; rintro e v4 ⟨rfl, b4⟩
              have k4 := k3.trans (b4.mono k3.size)
              clear k3 b4
              go_wp2_with fail
              refine (TA2.out _ k4).mono ?_; rintro e v5 ⟨rfl, k5⟩
              clear k4
              go_wp2_with fail
              refine (A2.out _ k5).mono ?_; rintro e v6 ⟨rfl, b6⟩
              have k6 := Lib.hid (k5.trans (b6.mono k5.size))
              clear k5 b6 WI2 TO2 TA2 W2 T2 A2
              go_wp2_with fail
              go_roundw
              case rel => exact ⟨i + 1, by go_num, NX, k6⟩
              case measure => simp [intOf]; omega
  · have r1 : (r != 0) = true := by rw [bne_iff_ne]; exact r0
    have r2 : (r == 0) = false := by rw [beq_eq_false_iff_ne]; exact r0
    have NE : Hid (∀ r', NewE l r' → r' = r) := fun r' h => newE_one h ne
    clear ne r0
    go_wp2_with fail
    refine (AW.out w2).mono ?_; rintro e w3 ⟨rfl, b3⟩
    have L3 := Lib.hid (L2.out.trans (b3.mono L2.out.size))
    have B3 := Lib.hid (B2.out.trans (b3.mono B2.out.size))
    have K3 := Lib.hid b3
    clear b3
    go_wp2_with fail
    refine (RN.out w3 L3.out).mono ?_; rintro e w4 ⟨⟨r', rfl, hr'⟩, b4⟩
    obtain rfl := NE.out r' hr'
    have L4 := Lib.hid (L3.out.trans (b4.mono L3.out.size))
    have B4 := Lib.hid (B3.out.trans (b4.mono B3.out.size))
    have K4 := Lib.hid (K3.out.trans (b4.mono K3.out.size))
    clear b4 hr' L3 B3 K3 RN
    go_wp2_with fail
    refine (SE.out w4 B4.out).mono ?_; rintro e w5 ⟨rfl, j, hj⟩
    have q5 := below_drewN' w4 j
    rw [← hj] at q5
    have B1 := Lib.hid (B4.out.trans (q5.mono B4.out.size))
    have L5 := Lib.hid (L4.out.trans (q5.mono L4.out.size))
    have B5 := Lib.hid (K4.out.trans (q5.mono K4.out.size))
    have RW := Lib.hid (O1.out.rws B1.out)
    clear q5 hj L4 B4 K4 SE B2 L2
    go_wp2_with fail
    go_loopw [54] (fun ii wr => ∃ i : Nat, ii = .int .i64 (i : Nat) ∧ Hid (i ≤ m) ∧ Hid (RwS w.heap.size w1.heap.size w5 wr q1 m)) (fun ii _ => 1000 - (intOf ii).toNat)
    case atStart => exact ⟨0, rfl, Nat.zero_le _, RW⟩
    case round =>
      obtain ⟨i, rfl, I, R⟩ := hrel
      have i0 : (0 : Int) ≤ (i : Int) := by omega
      by_cases y : i < m
      · have y1 : (i : Int) < (m : Int) := by omega
        obtain ⟨a, rfl, ⟨x, cx⟩, -, fz, -, st, -⟩ := R.out.at y
        have NX : Hid (i + 1 ≤ m) := y
        have ST := Lib.hid st
        clear y I st R RW O1
        go_wp2_with fail
        go_roundw
        case rel => exact ⟨i + 1, by go_num, NX, ST.out _⟩
        case measure => simp [intOf]; omega
      · have y1 : (m : Int) ≤ (i : Int) := by omega
        have y2 : decide ((i : Int) < (m : Int)) = false := decide_eq_false (by omega)
        obtain ⟨w6, rfl⟩ : ∃ w6, w6 = wr := ⟨_, rfl⟩
        have R6 := R
        have L6 := Lib.hid (L5.out.trans R6.out.low)
        clear y I R RW O1 L5 B1
        have WI : Hid (∀ w' z, Below w6.heap.size w6 w' → I64 z → Calls Try.prog 15 #[.pointer none, .int .i64 z] w' fun e w'' => e = WithE [] (nearI z) ∧ Below w6.heap.size w6 w'') := fun w' z k i =>
          (C.within_none w' z i).mono fun e w'' ⟨a, b⟩ => ⟨a.trans (with_none rfl).symm, k.trans (b.mono k.size)⟩
        have TO : Hid (∀ w' z, Below w6.heap.size w6 w' → I64 z → Calls Try.prog 17 #[.pointer none, .int .i64 z] w' fun e w'' => e = .returned (.int .i64 (toI [] z)) ∧ Below w6.heap.size w6 w'') := fun w' z k i =>
          (C.to_none w' z i).mono fun e w'' ⟨a, b⟩ => ⟨by rw [a]; unfold toI takenI; simp, k.trans (b.mono k.size)⟩
        have TA : Hid (∀ w' z, Below w6.heap.size w6 w' → I64 z → Calls Try.prog 19 #[.pointer none, .int .i64 z] w' fun e w'' => e = .returned (.int .i64 (takenI [] (nearI z))) ∧ Below w6.heap.size w6 w'') := fun w' z k i =>
          (C.taken_none w' z i).mono fun e w'' ⟨a, b⟩ => ⟨a, k.trans (b.mono k.size)⟩
        have LI : Hid (∀ w', Below w6.heap.size w6 w' → Calls Try.prog 21 #[.pointer none] w' fun e w'' => ∃ q d, e = .returned (.slice q 0 d) ∧ OwnL w'' w'.heap.size q 0 d [] ∧ Below w'.heap.size w' w'') := fun w' _ => LNN.out w'
        have RR : Hid (∀ w', Below w6.heap.size w6 w' → HoldsL w' none 0 0 []) := fun w' k => holdsL_none w'
        have RI : Hid (InL [] ∧ 0 ≤ 32) := ⟨fun y hy => (by cases hy), by decide⟩
        clear NE R6 B5 r1 r2
        go_wp2_with fail
        rw [show decide (i < m) = false from decide_eq_false (by omega)]
        clear y1 y2 i0
        go_loopw [68] (fun ii wx => ∃ i : Nat, ii = .int .i64 (i : Nat) ∧ Hid (i ≤ k ∧ i ≤ 40) ∧ Hid (Below w6.heap.size w6 wx)) (fun ii _ => 1000 - (intOf ii).toNat)
        case atStart => exact ⟨0, rfl, ⟨Nat.zero_le _, Nat.zero_le _⟩, Below.refl _ _⟩
        case round =>
          obtain ⟨wx, rfl⟩ : ∃ wx, wx = wr := ⟨_, rfl⟩
          obtain ⟨i, rfl, I, L⟩ := hrel
          have i0 : (0 : Int) ≤ (i : Int) := by omega
          have i40 : (i : Int) ≤ 40 := by have := I.out.2; omega
          have stop : (k ≤ i) ∨ (i < k ∧ i = 40) ∨ (i < k ∧ i < 40) := by have := I.out; omega
          rcases stop with z | ⟨z, z'⟩ | ⟨z, z'⟩
          · have z1 : (k : Int) ≤ (i : Int) := by omega
            have z2 : decide ((i : Int) < (k : Int)) = false := decide_eq_false (by omega)
            clear z I
            clear WI TO TA RI
            go_wp2_with fail
            refine (LI.out _ L.out).mono ?_; rintro e v1 ⟨tq, td, rfl, o1, b1⟩
            have TQ := Lib.hid o1
            have K1 := Lib.hid (L.out.trans (b1.mono L.out.size))
            have TL := Lib.hid (fun w' (b : Below v1.heap.size v1 w') => sequal15 w' tq _ _ td _ _ (o1.holds.below b) (RR.out w' (K1.out.trans (b.mono K1.out.size))) (by omega))
            clear o1 b1
            go_wp2_with fail
            refine (TL.out _ (Below.refl _ _)).mono ?_; rintro e v2 ⟨rfl, j, hj⟩
            have q2 := below_drewN' v1 j
            rw [← hj] at q2
            have K2 := Lib.hid (K1.out.trans (q2.mono K1.out.size))
            have RW := Lib.hid (TQ.out.rws q2)
            have SZ : Hid (w6.heap.size ≤ wx.heap.size) := L.out.size
            clear q2 hj TL K1
            go_wp2_with fail
            try rw [show decide (i < k) = false from decide_eq_false (by omega)]
            clear i0 i40 z1 z2
            try clear z3
            go_loopw [120] (fun ii wy => ∃ i : Nat, ii = .int .i64 (i : Nat) ∧ Hid (i ≤ 0) ∧ Hid (RwS wx.heap.size v1.heap.size v2 wy tq 0)) (fun ii _ => 1000 - (intOf ii).toNat)
            case atStart => exact ⟨0, rfl, Nat.zero_le _, RW⟩
            case round =>
              obtain ⟨i', rfl, I, R⟩ := hrel
              have i0 : (0 : Int) ≤ (i' : Int) := by omega
              by_cases y : i' < 0
              · exact absurd y (Nat.not_lt_zero _)
              · have z1 : ((0 : Nat) : Int) ≤ (i' : Int) := by omega
                have z2 : decide ((i' : Int) < ((0 : Nat) : Int)) = false := decide_eq_false (by omega)
                have K3 := Lib.hid (K2.out.trans (R.out.low.mono SZ.out))
                clear y I R RW
                go_wp2_with fail
                refine (LI.out _ K3.out).mono ?_; rintro e v3 ⟨uq, ud, rfl, o3, b3⟩
                have K4 := Lib.hid (K3.out.trans (b3.mono K3.out.size))
                have TL := Lib.hid (sequal15 v3 uq _ _ ud _ _ o3.holds (RR.out v3 K4.out) (by omega))
                clear o3 b3
                go_wp2_with fail
                refine TL.out.mono ?_; rintro e v4 ⟨rfl, j', hj'⟩
                have q4 := below_drewN' v3 j'
                rw [← hj'] at q4
                have L9 := Lib.hid (L6.out.trans ((K4.out.trans (q4.mono K4.out.size)).mono L6.out.size))
                clear q4 hj' TL
                go_wp2
                go_ret
                exact ⟨rfl, L9.out⟩
          · have z1 : (i : Int) < (k : Int) := by omega
            have z2 : decide ((i : Int) < (k : Int)) = true := decide_eq_true z1
            have z3 : ((i : Int) == 40) = true := by subst z'; rfl
            obtain ⟨ap, rfl, c0⟩ := (HT.out.below (L6.out.trans (L.out.mono L6.out.size))).atI z
            clear z z' I
            clear WI TO TA RI
            go_wp2_with fail
            refine (LI.out _ L.out).mono ?_; rintro e v1 ⟨tq, td, rfl, o1, b1⟩
            have TQ := Lib.hid o1
            have K1 := Lib.hid (L.out.trans (b1.mono L.out.size))
            have TL := Lib.hid (fun w' (b : Below v1.heap.size v1 w') => sequal15 w' tq _ _ td _ _ (o1.holds.below b) (RR.out w' (K1.out.trans (b.mono K1.out.size))) (by omega))
            clear o1 b1
            go_wp2_with fail
            refine (TL.out _ (Below.refl _ _)).mono ?_; rintro e v2 ⟨rfl, j, hj⟩
            have q2 := below_drewN' v1 j
            rw [← hj] at q2
            have K2 := Lib.hid (K1.out.trans (q2.mono K1.out.size))
            have RW := Lib.hid (TQ.out.rws q2)
            have SZ : Hid (w6.heap.size ≤ wx.heap.size) := L.out.size
            clear q2 hj TL K1
            go_wp2_with fail
            try rw [show decide (i < k) = true from decide_eq_true (by omega)]
            clear i0 i40 z1 z2
            try clear z3
            go_loopw [120] (fun ii wy => ∃ i : Nat, ii = .int .i64 (i : Nat) ∧ Hid (i ≤ 0) ∧ Hid (RwS wx.heap.size v1.heap.size v2 wy tq 0)) (fun ii _ => 1000 - (intOf ii).toNat)
            case atStart => exact ⟨0, rfl, Nat.zero_le _, RW⟩
            case round =>
              obtain ⟨i', rfl, I, R⟩ := hrel
              have i0 : (0 : Int) ≤ (i' : Int) := by omega
              by_cases y : i' < 0
              · exact absurd y (Nat.not_lt_zero _)
              · have z1 : ((0 : Nat) : Int) ≤ (i' : Int) := by omega
                have z2 : decide ((i' : Int) < ((0 : Nat) : Int)) = false := decide_eq_false (by omega)
                have K3 := Lib.hid (K2.out.trans (R.out.low.mono SZ.out))
                clear y I R RW
                go_wp2_with fail
                refine (LI.out _ K3.out).mono ?_; rintro e v3 ⟨uq, ud, rfl, o3, b3⟩
                have K4 := Lib.hid (K3.out.trans (b3.mono K3.out.size))
                have TL := Lib.hid (sequal15 v3 uq _ _ ud _ _ o3.holds (RR.out v3 K4.out) (by omega))
                clear o3 b3
                go_wp2_with fail
                refine TL.out.mono ?_; rintro e v4 ⟨rfl, j', hj'⟩
                have q4 := below_drewN' v3 j'
                rw [← hj'] at q4
                have L9 := Lib.hid (L6.out.trans ((K4.out.trans (q4.mono K4.out.size)).mono L6.out.size))
                clear q4 hj' TL
                go_wp2
                go_ret
                exact ⟨rfl, L9.out⟩
          · have z1 : (i : Int) < (k : Int) := by omega
            have z2 : decide ((i : Int) < (k : Int)) = true := decide_eq_true z1
            have z3 : ((i : Int) == 40) = false := by rw [beq_eq_false_iff_ne]; omega
            obtain ⟨ap, rfl, c0⟩ := (HT.out.below (L6.out.trans (L.out.mono L6.out.size))).atI z
            have SI := HZ.out i z
            obtain ⟨s, hs⟩ : ∃ s, zs.getD i 0 = s := ⟨_, rfl⟩
            rw [hs] at c0 SI
            have S := Lib.hid SI
            have NX : Hid (i + 1 ≤ k ∧ i + 1 ≤ 40) := by unfold Hid; omega
            have W2 := Lib.hid (fun w' b => rwithin15 w' _ _ _ _ (RR.out w' b) RI.out.1 RI.out.2 s)
            have T2 := Lib.hid (fun w' b => rto15 w' _ _ _ _ (RR.out w' b) RI.out.1 RI.out.2 s)
            have A2 := Lib.hid (fun w' b => rtaken15 w' _ _ _ _ (RR.out w' b) RI.out.1 RI.out.2 s)
            have WE := within_either [] (nearI s)
            have WI2 := Lib.hid (fun w' b => WI.out w' s b S.out)
            have TO2 := Lib.hid (fun w' b => TO.out w' s b S.out)
            have TA2 := Lib.hid (fun w' b => TA.out w' s b S.out)
            generalize toI [] s = vt at *
            generalize takenI [] (nearI s) = va at *
            have WV : Hid (∀ (v : Int), withinI [] (nearI s) = v → WithE [] (nearI s) = .returned (.tuple #[.int .i64 (max v 0), .bool (decide (0 ≤ v))])) := fun v e => by rw [← e]; rfl
            generalize WithE [] (nearI s) = we at *
            generalize withinI [] (nearI s) = wv at *
            clear z z' I hs SI WI TO TA LI RR RI
            rcases WE with rfl | ⟨j, rfl⟩
            · have WX : Hid (we = .returned (.tuple #[.int .i64 0, .bool false])) := WV.out _ rfl
              clear WV
              go_wp2_with fail
              refine (WI2.out _ L.out).mono ?_; rintro e v1 ⟨rfl, k1⟩
              rw [WX.out]
              go_wp2_with fail
              refine (W2.out _ k1).mono ?_; rintro e v2 ⟨rfl, b2⟩
              have k2 := k1.trans (b2.mono k1.size)
              clear k1 b2
              go_wp2_with fail
              refine (TO2.out _ k2).mono ?_; rintro e v3 ⟨rfl, k3⟩
              clear k2
              go_wp2_with fail
              refine (T2.out _ k3).mono ?_; rintro e v4 ⟨rfl, b4⟩
              have k4 := k3.trans (b4.mono k3.size)
              clear k3 b4
              go_wp2_with fail
              refine (TA2.out _ k4).mono ?_; rintro e v5 ⟨rfl, k5⟩
              clear k4
              go_wp2_with fail
              refine (A2.out _ k5).mono ?_; rintro e v6 ⟨rfl, b6⟩
              have k6 := Lib.hid (k5.trans (b6.mono k5.size))
              clear k5 b6 WI2 TO2 TA2 W2 T2 A2
              go_wp2_with fail
              go_roundw
              case rel => exact ⟨i + 1, by go_num, NX, k6⟩
              case measure => simp [intOf]; omega
            · have j0 : (0 : Int) ≤ (j : Int) := by omega
              have j1 : decide ((0 : Int) ≤ (j : Int)) = true := decide_eq_true j0
              have j2 : max ((j : Nat) : Int) 0 = (j : Int) := by omega
              have j3 : (if ((j : Nat) : Int) < 0 then (0 : Int) else (j : Int)) = (j : Int) := by rw [if_neg (by omega)]
              have WX : Hid (we = .returned (.tuple #[.int .i64 (j : Nat), .bool true])) := by
                have := WV.out _ rfl
                rw [j1, j2] at this
                exact this
              clear WV
              go_wp2_with fail
              refine (WI2.out _ L.out).mono ?_; rintro e v1 ⟨rfl, k1⟩
              rw [WX.out]
              go_wp2_with fail
              refine (W2.out _ k1).mono ?_; rintro e v2 ⟨rfl, b2⟩
              have k2 := k1.trans (b2.mono k1.size)
              clear k1 b2
              go_wp2_with fail
              refine (TO2.out _ k2).mono ?_; rintro e v3 ⟨rfl, k3⟩
              clear k2
              go_wp2_with fail
              refine (T2.out _ k3).mono ?_; rintro e v4 ⟨rfl, b4⟩
              have k4 := k3.trans (b4.mono k3.size)
              clear k3 b4
              go_wp2_with fail
              refine (TA2.out _ k4).mono ?_; rintro e v5 ⟨rfl, k5⟩
              clear k4
              go_wp2_with fail
              refine (A2.out _ k5).mono ?_; rintro e v6 ⟨rfl, b6⟩
              have k6 := Lib.hid (k5.trans (b6.mono k5.size))
              clear k5 b6 WI2 TO2 TA2 W2 T2 A2
              go_wp2_with fail
              go_roundw
              case rel => exact ⟨i + 1, by go_num, NX, k6⟩
              case measure => simp [intOf]; omega
theorem tells15_walk (C : SCode) (LN : ∀ w', Calls Try.prog 21 #[.pointer none] w' fun e w'' => ∃ q d, e = .returned (.slice q 0 d) ∧ OwnL w'' w'.heap.size q 0 d [] ∧ Below w'.heap.size w' w'')
    (w : World) (p : Option Addr) (n c : Nat) (l : List Lp) (h : HoldsL w p n c l) (hi : ∀ y ∈ l, I64 y.t ∧ I64 y.k)
    (q : Option Addr) (k d : Nat) (zs : List Int) (ht : Holds w q k d (valsI .i64 zs)) (hz : ∀ z ∈ zs, I64 z) :
    Calls Try.prog 3 #[.slice p n c, .slice q k d] w fun e w' => e = .returned (.bool true) ∧ Below w.heap.size w w' := by
  have hm : min n 40 ≤ n := Nat.min_le_left _ _
  have cap := h.cap
  exact tells15_core C LN w p n c (min n 40) (l.take (min n 40)) (by omega) (by omega) (holdsL_take h hm) (fun y hy => hi y (List.mem_of_mem_take hy)) q k d zs ht hz
end Go.Proofs.Ytmafjhggjpjgmaa
