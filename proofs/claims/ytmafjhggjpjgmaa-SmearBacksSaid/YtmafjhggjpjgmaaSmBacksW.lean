/- SmearBacks, the walk: the least instant that reaches a time. -/
import Derived.Test.YtmafjhggjpjgmaaSmJ
import Derived.Test.YtmafjhggjpjgmaaSmN
set_option maxRecDepth 100000
namespace Go.Proofs.Ytmafjhggjpjgmaa
open Go.ChangeShapes Go.WideShapes Go.ChangeAt Go.RowKit SmM

theorem wr15 {x : Int} (h : I64 x) : wrap64 x = x ∧ IntKind.i64.wrap x = x := by
  unfold I64 at h
  rw [IntKind.wrap_i64]
  unfold wrap64
  omega
theorem holdsL_take {w : World} {p : Option Addr} {n c : Nat} {l : List Lp} (h : HoldsL w p n c l) {m : Nat} (hm : m ≤ n) : HoldsL w p m c (l.take m) :=
  ⟨by rw [List.length_take, h.len]; omega, Nat.le_trans hm h.cap, h.max, fun i hi => by
    have e : gl (l.take m) i = gl l i := by
      rw [gl_of (by rw [List.length_take, h.len]; omega), gl_of (by rw [h.len]; omega), List.getElem_take]
    rw [e]
    exact h.cell i (by omega)⟩
theorem holdsL_none (w : World) : HoldsL w none 0 0 [] := ⟨rfl, Nat.le_refl _, Nat.zero_le _, fun i hi => absurd hi (by omega)⟩
set_option maxHeartbeats 8000000 in
theorem backs15_core (C : SCode) (w : World) (p : Option Addr) (n c m : Nat) (l : List Lp) (EM : min (n : Int) 40 = (m : Int)) (mc : (m : Int) ≤ (c : Int)) (h : HoldsL w p m c l) (hi : ∀ y ∈ l, I64 y.t ∧ I64 y.k)
    (q : Option Addr) (k d : Nat) (zs : List Int) (ht : Holds w q k d (valsI .i64 zs)) (hz : ∀ z ∈ zs, I64 z) :
    Calls Try.prog 4 #[.slice p n c, .slice q k d] w fun e w' => e = .returned (.bool true) ∧ Below w.heap.size w w' := by
  have EI : (if (40 : Int) < (n : Int) then (40 : Int) else (n : Int)) = (m : Int) := by split <;> omega
  have m0 : (0 : Int) ≤ (m : Int) := by omega
  have NW := Lib.hid (C.new h hi)
  have AW := Lib.hid (awake15 C)
  have HL := Lib.hid h
  have HT := Lib.hid ht
  have HZ : Hid (∀ i, i < k → I64 (zs.getD i 0)) := fun i hk => by
    have ln := ht.len
    rw [valsI_len] at ln
    rw [List.getD_eq_getElem?_getD, List.getElem?_eq_getElem (by omega)]
    exact hz _ (List.getElem_mem _)
  have kb : (k : Int) ≤ 9223372036854775807 := by have := ht.cap; have := ht.max; unfold maxLen at this; omega
  clear h hi ht hz
  go_enter Try.func4, Try.ntmps4
  go_wp2_with fail
  refine NW.out.mono ?_; rintro e w1 ⟨b1, hc⟩
  have L1 := Lib.hid b1
  have HT1 := Lib.hid (HT.out.below b1)
  have HL1 := Lib.hid (HL.out.below b1)
  clear b1 NW HT HL EI EM mc
  rcases hc with ⟨ok, m32, N, F, rfl, t1, -⟩ | ⟨r, -, r0, rfl⟩
  · have BK : Hid (∀ w' z, Below w1.heap.size w1 w' → I64 z → Calls Try.prog 22 #[.pointer (some ⟨N, 0, none⟩), .int .i64 z] w' fun e w'' => (∃ t b, e = .returned (.tuple #[.int .i64 t, .bool b]) ∧ BackP l z t b) ∧ Below w1.heap.size w1 w'') := fun w' z k i =>
      (C.back z (C.below t1 k) i).mono fun e w'' ⟨a, b⟩ => ⟨a, k.trans (b.mono k.size)⟩
    have RT : Hid (∀ w' z v, Below w1.heap.size w1 w' → toI l z = v → Calls Try.prog 18 #[.slice p m c, .int .i64 z] w' fun e w'' => e = .returned (.int .i64 v) ∧ Below w1.heap.size w1 w'') := fun w' z v k e =>
      (rto15 w' p m c l (HL1.out.below k) ok.1 m32 z).mono fun e' w'' ⟨a, b⟩ => ⟨by rw [a, e], k.trans (b.mono k.size)⟩
    have GL := Lib.hid ok.2
    clear ok m32 t1 HL1 m0
    go_wp2_with fail
    go_loopw [25] (fun ii wr => ∃ i : Nat, ii = .int .i64 (i : Nat) ∧ Hid (i ≤ k ∧ i ≤ 20) ∧ Hid (Below w1.heap.size w1 wr)) (fun ii _ => 1000 - (intOf ii).toNat)
    case atStart => exact ⟨0, rfl, ⟨Nat.zero_le _, Nat.zero_le _⟩, Below.refl _ _⟩
    case round =>
      obtain ⟨i, rfl, I, L⟩ := hrel
      have i0 : (0 : Int) ≤ (i : Int) := by omega
      have i20 : (i : Int) ≤ 20 := by have := I.out.2; omega
      have stop : (k ≤ i) ∨ (i < k ∧ i = 20) ∨ (i < k ∧ i < 20) := by have := I.out; omega
      rcases stop with z | ⟨z, z'⟩ | ⟨z, z'⟩
      · have z1 : (k : Int) ≤ (i : Int) := by omega
        have z2 : decide ((i : Int) < (k : Int)) = false := decide_eq_false (by omega)
        clear z I
        go_wp2_with fail
        refine (AW.out _).mono ?_; rintro e w9 ⟨rfl, b9⟩
        have L9 := Lib.hid (L1.out.trans ((L.out.trans (b9.mono L.out.size)).mono L1.out.size))
        clear b9
        go_wp2
        go_ret
        exact ⟨rfl, L9.out⟩
      · have z1 : (i : Int) < (k : Int) := by omega
        have z2 : decide ((i : Int) < (k : Int)) = true := decide_eq_true z1
        have z3 : ((i : Int) == 20) = true := by subst z'; rfl
        obtain ⟨ap, rfl, c0⟩ := (HT1.out.below L.out).atI z
        clear z z' I
        go_wp2_with fail
        refine (AW.out _).mono ?_; rintro e w9 ⟨rfl, b9⟩
        have L9 := Lib.hid (L1.out.trans ((L.out.trans (b9.mono L.out.size)).mono L1.out.size))
        clear b9
        go_wp2
        go_ret
        exact ⟨rfl, L9.out⟩
      · have z1 : (i : Int) < (k : Int) := by omega
        have z2 : decide ((i : Int) < (k : Int)) = true := decide_eq_true z1
        have z3 : ((i : Int) == 20) = false := by rw [beq_eq_false_iff_ne]; omega
        obtain ⟨ap, rfl, c0⟩ := (HT1.out.below L.out).atI z
        have SI := HZ.out i z
        obtain ⟨s, hs⟩ : ∃ s, zs.getD i 0 = s := ⟨_, rfl⟩
        rw [hs] at c0 SI
        have S := Lib.hid SI
        have NX : Hid (i + 1 ≤ k ∧ i + 1 ≤ 20) := by unfold Hid; omega
        clear z z' I hs SI
        go_wp2_with fail
        refine (BK.out _ s L.out S.out).mono ?_; rintro e w2 ⟨⟨t, b, rfl, hb⟩, k2⟩
        rcases hb with ⟨rfl, t0, t1, t2, t3⟩ | ⟨rfl, rfl, t2⟩
        · obtain ⟨v, hv⟩ : ∃ v, toI l topI = v := ⟨_, rfl⟩
          have vs : s ≤ v := by have := to_mono GL.out t0 t1 (Int.le_refl _); omega
          have vs1 : decide (s ≤ v) = true := decide_eq_true vs
          obtain ⟨a, ha⟩ : ∃ a, toI l t = a := ⟨_, rfl⟩
          rw [ha] at t2
          have t2' : decide (a < s) = false := decide_eq_false (by omega)
          have d1 : decide (t < 0) = false := decide_eq_false (by omega)
          have d2 : decide (4611686018427387904 < t) = false := decide_eq_false (by unfold topI at t1; omega)
          have HV : Hid (toI l 4611686018427387904 = v) := hv
          have HA := Lib.hid ha
          have T3 := Lib.hid t3
          have TI : Hid (I64 (t - 1)) := by unfold Hid I64; unfold topI at t1; omega
          have T0 := Lib.hid t0
          clear t1 vs hv ha t3 t0
          go_wp2_with fail
          refine (RT.out _ 4611686018427387904 v k2 HV.out).mono ?_; rintro e w3 ⟨rfl, k3⟩
          clear k2
          go_wp2_with fail
          refine (RT.out _ t a k3 HA.out).mono ?_; rintro e w4 ⟨rfl, k4⟩
          clear k3
          by_cases tz : t = 0
          · subst tz
            have L4 := Lib.hid k4
            clear k4
            go_wp2_with fail
            go_roundw
            case rel => exact ⟨i + 1, by go_num, NX, L4⟩
            case measure => simp [intOf]; omega
          · have tp : 0 < t := by have := T0.out; omega
            have tp1 : decide (0 < t) = true := decide_eq_true tp
            obtain ⟨u, hu⟩ : ∃ u, t - 1 = u := ⟨_, rfl⟩
            obtain ⟨g, hg⟩ : ∃ g, toI l u = g := ⟨_, rfl⟩
            have gs := T3.out tp
            rw [hu, hg] at gs
            have gs1 : decide (s ≤ g) = false := decide_eq_false (by omega)
            have HG := Lib.hid hg
            have TU := TI.out
            rw [hu] at TU
            obtain ⟨e1, e2⟩ := wr15 TU
            clear tz hg TU
            go_wp2_with fail
            refine (RT.out _ u g k4 HG.out).mono ?_; rintro e w5 ⟨rfl, k5⟩
            have L5 := Lib.hid k5
            clear k4 k5 gs hu e1 e2
            go_wp2_with fail
            go_roundw
            case rel => exact ⟨i + 1, by go_num, NX, L5⟩
            case measure => simp [intOf]; omega
        · obtain ⟨v, hv⟩ : ∃ v, toI l topI = v := ⟨_, rfl⟩
          rw [hv] at t2
          have vs1 : decide (s ≤ v) = false := decide_eq_false (by omega)
          have HV : Hid (toI l 4611686018427387904 = v) := hv
          clear hv
          go_wp2_with fail
          refine (RT.out _ 4611686018427387904 v k2 HV.out).mono ?_; rintro e w3 ⟨rfl, k3⟩
          have L3 := Lib.hid k3
          clear k2 k3
          go_wp2_with fail
          go_roundw
          case rel => exact ⟨i + 1, by go_num, NX, L3⟩
          case measure => simp [intOf]; omega
  · have r1 : (r != 0) = true := by rw [bne_iff_ne]; exact r0
    have BK : Hid (∀ w' z, Below w1.heap.size w1 w' → I64 z → Calls Try.prog 22 #[.pointer none, .int .i64 z] w' fun e w'' => (∃ t b, e = .returned (.tuple #[.int .i64 t, .bool b]) ∧ BackP [] z t b) ∧ Below w1.heap.size w1 w'') := fun w' z k i =>
      (C.back_none w' z i).mono fun e w'' ⟨a, b⟩ => ⟨a, k.trans (b.mono k.size)⟩
    have RT : Hid (∀ w' z v, Below w1.heap.size w1 w' → toI [] z = v → Calls Try.prog 18 #[.slice none 0 0, .int .i64 z] w' fun e w'' => e = .returned (.int .i64 v) ∧ Below w1.heap.size w1 w'') := fun w' z v k e =>
      (rto15 w' none 0 0 [] (holdsL_none _) (fun y hy => by cases hy) (by decide) z).mono fun e' w'' ⟨a, b⟩ => ⟨by rw [a, e], k.trans (b.mono k.size)⟩
    have GL : Hid (GapL []) := trivial
    clear HL1 m0 r0
    go_wp2_with fail
    go_loopw [25] (fun ii wr => ∃ i : Nat, ii = .int .i64 (i : Nat) ∧ Hid (i ≤ k ∧ i ≤ 20) ∧ Hid (Below w1.heap.size w1 wr)) (fun ii _ => 1000 - (intOf ii).toNat)
    case atStart => exact ⟨0, rfl, ⟨Nat.zero_le _, Nat.zero_le _⟩, Below.refl _ _⟩
    case round =>
      obtain ⟨i, rfl, I, L⟩ := hrel
      have i0 : (0 : Int) ≤ (i : Int) := by omega
      have i20 : (i : Int) ≤ 20 := by have := I.out.2; omega
      have stop : (k ≤ i) ∨ (i < k ∧ i = 20) ∨ (i < k ∧ i < 20) := by have := I.out; omega
      rcases stop with z | ⟨z, z'⟩ | ⟨z, z'⟩
      · have z1 : (k : Int) ≤ (i : Int) := by omega
        have z2 : decide ((i : Int) < (k : Int)) = false := decide_eq_false (by omega)
        clear z I
        go_wp2_with fail
        refine (AW.out _).mono ?_; rintro e w9 ⟨rfl, b9⟩
        have L9 := Lib.hid (L1.out.trans ((L.out.trans (b9.mono L.out.size)).mono L1.out.size))
        clear b9
        go_wp2
        go_ret
        exact ⟨rfl, L9.out⟩
      · have z1 : (i : Int) < (k : Int) := by omega
        have z2 : decide ((i : Int) < (k : Int)) = true := decide_eq_true z1
        have z3 : ((i : Int) == 20) = true := by subst z'; rfl
        obtain ⟨ap, rfl, c0⟩ := (HT1.out.below L.out).atI z
        clear z z' I
        go_wp2_with fail
        refine (AW.out _).mono ?_; rintro e w9 ⟨rfl, b9⟩
        have L9 := Lib.hid (L1.out.trans ((L.out.trans (b9.mono L.out.size)).mono L1.out.size))
        clear b9
        go_wp2
        go_ret
        exact ⟨rfl, L9.out⟩
      · have z1 : (i : Int) < (k : Int) := by omega
        have z2 : decide ((i : Int) < (k : Int)) = true := decide_eq_true z1
        have z3 : ((i : Int) == 20) = false := by rw [beq_eq_false_iff_ne]; omega
        obtain ⟨ap, rfl, c0⟩ := (HT1.out.below L.out).atI z
        have SI := HZ.out i z
        obtain ⟨s, hs⟩ : ∃ s, zs.getD i 0 = s := ⟨_, rfl⟩
        rw [hs] at c0 SI
        have S := Lib.hid SI
        have NX : Hid (i + 1 ≤ k ∧ i + 1 ≤ 20) := by unfold Hid; omega
        clear z z' I hs SI
        go_wp2_with fail
        refine (BK.out _ s L.out S.out).mono ?_; rintro e w2 ⟨⟨t, b, rfl, hb⟩, k2⟩
        rcases hb with ⟨rfl, t0, t1, t2, t3⟩ | ⟨rfl, rfl, t2⟩
        · obtain ⟨v, hv⟩ : ∃ v, toI [] topI = v := ⟨_, rfl⟩
          have vs : s ≤ v := by have := to_mono GL.out t0 t1 (Int.le_refl _); omega
          have vs1 : decide (s ≤ v) = true := decide_eq_true vs
          obtain ⟨a, ha⟩ : ∃ a, toI [] t = a := ⟨_, rfl⟩
          rw [ha] at t2
          have t2' : decide (a < s) = false := decide_eq_false (by omega)
          have d1 : decide (t < 0) = false := decide_eq_false (by omega)
          have d2 : decide (4611686018427387904 < t) = false := decide_eq_false (by unfold topI at t1; omega)
          have HV : Hid (toI [] 4611686018427387904 = v) := hv
          have HA := Lib.hid ha
          have T3 := Lib.hid t3
          have TI : Hid (I64 (t - 1)) := by unfold Hid I64; unfold topI at t1; omega
          have T0 := Lib.hid t0
          clear t1 vs hv ha t3 t0
          go_wp2_with fail
          refine (RT.out _ 4611686018427387904 v k2 HV.out).mono ?_; rintro e w3 ⟨rfl, k3⟩
          clear k2
          go_wp2_with fail
          refine (RT.out _ t a k3 HA.out).mono ?_; rintro e w4 ⟨rfl, k4⟩
          clear k3
          by_cases tz : t = 0
          · subst tz
            have L4 := Lib.hid k4
            clear k4
            go_wp2_with fail
            go_roundw
            case rel => exact ⟨i + 1, by go_num, NX, L4⟩
            case measure => simp [intOf]; omega
          · have tp : 0 < t := by have := T0.out; omega
            have tp1 : decide (0 < t) = true := decide_eq_true tp
            obtain ⟨u, hu⟩ : ∃ u, t - 1 = u := ⟨_, rfl⟩
            obtain ⟨g, hg⟩ : ∃ g, toI [] u = g := ⟨_, rfl⟩
            have gs := T3.out tp
            rw [hu, hg] at gs
            have gs1 : decide (s ≤ g) = false := decide_eq_false (by omega)
            have HG := Lib.hid hg
            have TU := TI.out
            rw [hu] at TU
            obtain ⟨e1, e2⟩ := wr15 TU
            clear tz hg TU
            go_wp2_with fail
            refine (RT.out _ u g k4 HG.out).mono ?_; rintro e w5 ⟨rfl, k5⟩
            have L5 := Lib.hid k5
            clear k4 k5 gs hu e1 e2
            go_wp2_with fail
            go_roundw
            case rel => exact ⟨i + 1, by go_num, NX, L5⟩
            case measure => simp [intOf]; omega
        · obtain ⟨v, hv⟩ : ∃ v, toI [] topI = v := ⟨_, rfl⟩
          rw [hv] at t2
          have vs1 : decide (s ≤ v) = false := decide_eq_false (by omega)
          have HV : Hid (toI [] 4611686018427387904 = v) := hv
          clear hv
          go_wp2_with fail
          refine (RT.out _ 4611686018427387904 v k2 HV.out).mono ?_; rintro e w3 ⟨rfl, k3⟩
          have L3 := Lib.hid k3
          clear k2 k3
          go_wp2_with fail
          go_roundw
          case rel => exact ⟨i + 1, by go_num, NX, L3⟩
          case measure => simp [intOf]; omega
theorem backs15_walk (C : SCode) (w : World) (p : Option Addr) (n c : Nat) (l : List Lp) (h : HoldsL w p n c l) (hi : ∀ y ∈ l, I64 y.t ∧ I64 y.k)
    (q : Option Addr) (k d : Nat) (zs : List Int) (ht : Holds w q k d (valsI .i64 zs)) (hz : ∀ z ∈ zs, I64 z) :
    Calls Try.prog 4 #[.slice p n c, .slice q k d] w fun e w' => e = .returned (.bool true) ∧ Below w.heap.size w w' := by
  have hm : min n 40 ≤ n := Nat.min_le_left _ _
  have cap := h.cap
  exact backs15_core C w p n c (min n 40) (l.take (min n 40)) (by omega) (by omega) (holdsL_take h hm) (fun y hy => hi y (List.mem_of_mem_take hy)) q k d zs ht hz
end Go.Proofs.Ytmafjhggjpjgmaa
