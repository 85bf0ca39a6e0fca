/- LeapSteps, the walk, work ahead: at a leap. -/
import Derived.Test.YtpfbdpoileepoaaLpF
import Derived.Test.YtpfbdpoileepoaaLpN
import Derived.Test.YtpfbdpoileepoaaSmQ
set_option maxRecDepth 100000
namespace Go.Proofs.Ytpfbdpoileepoaa
open Go.ChangeShapes Go.WideShapes Go.ChangeAt Go.RowKit SmM

theorem i16_rem (b : Int) : ∃ q, b.tmod 1001 = q ∧ -1000 ≤ q ∧ q ≤ 1000 := by
  refine ⟨b.tmod 1001, rfl, ?_⟩
  rw [Int.tmod_eq_emod]
  split <;> omega
theorem i16_same {q : Int} (h : -1000 ≤ q ∧ q ≤ 1000) : IntKind.i16.wrap q = q := by unfold IntKind.wrap; simp [IntKind.bits, IntKind.signed]; omega
set_option maxHeartbeats 8000000 in
theorem steps16_walk (C : LCode) (w : World) (p : Option Addr) (n c : Nat) (ds : List Nat) (h : Holds w p n c (valsN .u8 ds)) (hd : ∀ d ∈ ds, d < 256) (b : Int) :
    Calls Try.prog 6 #[.slice p n c, .int .i16 b] w fun r w' => r = .returned (.bool true) ∧ Below w.heap.size w w' := by
  obtain ⟨q, hq, q0, q1⟩ := i16_rem b
  have MA := Lib.hid (made16 C w p n c ds h hd q ⟨q0, q1⟩)
  have AW := Lib.hid (alive16 C)
  have l20 := List.length_take_le 20 ds
  have OK := Lib.hid (mkD_ok l20)
  have FA := Lib.hid (mkD_far l20)
  have LL : Hid ((mkD dayI (ds.take 20)).length ≤ 20) := by unfold Hid; rw [mkD_len]; exact l20
  generalize mkD dayI (ds.take 20) = l at *
  have QB : Hid (-1000 ≤ q ∧ q ≤ 1000) := ⟨q0, q1⟩
  have HQ := Lib.hid hq
  have Q1 := i16_same QB.out
  obtain ⟨Q3, Q4⟩ := wr16 (x := q) (by unfold I64; omega)
  have EN := Lib.hid (step_end FA.out q)
  have OB : Hid (∀ i, -1020 ≤ preO l q i ∧ preO l q i ≤ 1020) := fun i => by
    have e : preO l q i = offI (l.take i) q topI := by
      unfold preO offI
      rw [kinds_all fun y hy => by have := FA.out y (List.mem_of_mem_take hy); unfold topI; omega]
    have := kinds_bound (l := l.take i) (fun y hy => (OK.out.1 y (List.mem_of_mem_take hy)).2.2) topI
    rw [List.length_take] at this
    rw [e]
    unfold offI
    have := LL.out
    omega
  clear h hd l20 q0 q1
  go_enter Try.func6, Try.ntmps6
  go_wp2_with fail
  refine MA.out.mono ?_; rintro r1 w1 ⟨N, F, p', m, c', rfl, t1, h1, -, b1⟩
  have T1 := Lib.hid t1
  have H1 := Lib.hid h1
  have L1 := Lib.hid b1
  have HM := Lib.hid h1.len
  have mb : (m : Int) ≤ 20 := by have := h1.len; have := LL.out; omega
  clear t1 h1 b1 MA
  go_wp2_with fail
  clear hq Q1 Q3 Q4
  have OF : Hid (∀ w' z v, Below w1.heap.size w1 w' → TmI z → offI l q z = v → Calls Try.prog 23 #[.pointer (some ⟨N, 0, none⟩), .int .i64 z] w' fun r w'' => r = .returned (.int .i64 v) ∧ Below w1.heap.size w1 w'') := fun w' z v k tz e =>
    (C.offset z (C.below T1.out k) tz).mono fun r w'' ⟨a, b⟩ => ⟨by rw [a, e], k.trans (b.mono k.size)⟩
  have LA : Hid (∀ w' z v i, Below w1.heap.size w1 w' → TmI z → labI l q z = v → insB l z = i → Calls Try.prog 21 #[.pointer (some ⟨N, 0, none⟩), .int .i64 z] w' fun r w'' => r = .returned (.tuple #[.int .i64 v, .bool i]) ∧ Below w1.heap.size w1 w'') := fun w' z v i k tz e e' =>
    (C.label z (C.below T1.out k) tz).mono fun r w'' ⟨a, b⟩ => ⟨by rw [a, e, e'], k.trans (b.mono k.size)⟩
  have EV : Hid (∀ w' z, Below w1.heap.size w1 w' → (-4611700000000000000 ≤ z ∧ z ≤ 4611700000000000000) → Calls Try.prog 22 #[.pointer (some ⟨N, 0, none⟩), .int .i64 z, .bool false] w' fun r w'' => (∃ t b', r = .returned (.tuple #[.int .i64 t, .bool b']) ∧ EvenP l q z false t b') ∧ Below w1.heap.size w1 w'') := fun w' z k zb =>
    (C.even z false (C.below T1.out k) zb).mono fun r w'' ⟨a, b⟩ => ⟨a, k.trans (b.mono k.size)⟩
  have NX : Hid (∀ w' z, Below w1.heap.size w1 w' → TmI z → Calls Try.prog 24 #[.pointer (some ⟨N, 0, none⟩), .int .i64 z] w' fun r w'' => r = NextE l z ∧ Below w1.heap.size w1 w'') := fun w' z k tz =>
    (C.next z (C.below T1.out k) tz).mono fun r w'' ⟨a, b⟩ => ⟨a, k.trans (b.mono k.size)⟩
  go_loopw [7, 8] (fun oo ii wr => ∃ (i : Nat) (o : Int), oo = .int .i64 o ∧ ii = .int .i64 (i : Nat) ∧ Hid (o = preO l q i ∧ i ≤ m) ∧ Hid (Below w1.heap.size w1 wr)) (fun _ ii _ => 1000 - (intOf ii).toNat)
  case atStart => exact ⟨0, q, rfl, rfl, ⟨by unfold preO ksum; rw [List.take_zero]; simp, Nat.zero_le _⟩, Below.refl _ _⟩
  case round =>
    obtain ⟨i, o, rfl, rfl, I, L⟩ := hrel
    have i0 : (0 : Int) ≤ (i : Int) := by omega
    by_cases z : i < m
    · have z1 : (i : Int) < (m : Int) := by omega
      obtain ⟨ap, rfl, c0, c1⟩ := (H1.out.below L.out).cell i z
      have il : i < l.length := by rw [HM.out]; exact z
      have XI := FA.out _ (gl_mem il)
      have SP := step_of OK.out FA.out q il
      obtain ⟨x, hx⟩ : ∃ x, gl l i = x := ⟨_, rfl⟩
      rw [hx] at c0 c1 XI SP
      have CC : Hid (∀ w', Below wr.heap.size wr w' → w'.cell? (ap.add (i * 2)) = some (.int .i64 x.t) ∧ w'.cell? ⟨(ap.add (i * 2)).block, (ap.add (i * 2)).off + 1, none⟩ = some (.int .i64 x.k)) := fun w' k =>
        ⟨(k.cell (World.block_lt_of_cell? _ _ c0)).trans c0, (k.cell (World.block_lt_of_cell? _ _ c1)).trans c1⟩
      have ob := OB.out i
      rw [← I.out.1] at ob
      obtain ⟨xt, xk⟩ := x
      unfold dayI at XI
      dsimp only at c0 c1 XI CC
      have SH := Lib.hid SP
      have PN : preO l q (i + 1) = o + xk := by rw [SP.on, ← I.out.1]
      have O1 : offI l q (xt - 1) = o := by rw [I.out.1]; exact SP.o1
      obtain ⟨o2, ho2⟩ : ∃ o2, o + xk = o2 := ⟨_, rfl⟩
      have O2 : offI l q xt = o2 := by rw [← ho2, ← PN]; exact SP.o2
      obtain ⟨P, hP⟩ : ∃ P, labI l q xt = P := ⟨_, rfl⟩
      obtain ⟨am, ham⟩ : ∃ am, xt - 1 = am := ⟨_, rfl⟩
      obtain ⟨az, has⟩ : ∃ az, xt + 1000000000 = az := ⟨_, rfl⟩
      obtain ⟨ab, hab⟩ : ∃ ab, xt - 1000000000 = ab := ⟨_, rfl⟩
      obtain ⟨Ps, hPs⟩ : ∃ Ps, P + 1000000000 = Ps := ⟨_, rfl⟩
      obtain ⟨Pm, hPm⟩ : ∃ Pm, P - 1 = Pm := ⟨_, rfl⟩
      have pe : P = xt - o2 * 1000000000 := by rw [← hP, ← O2]; rfl
      rw [ham] at O1
      have IN : Hid (o2 = preO l q (i + 1) ∧ i + 1 ≤ m) := ⟨by rw [PN, ho2], z⟩
      have HO : Hid (offI l q am = o ∧ offI l q xt = o2 ∧ labI l q xt = P ∧ labI l q az = Ps ∧ insB l az = false) := ⟨O1, O2, hP, by rw [← has, ← hPs, ← hP]; exact SP.l2, by rw [← has]; exact SP.i2⟩
      have NY : Hid (NextE l am = .returned (.tuple #[.agg #[.int .i64 xt, .int .i64 xk], .bool true])) := by
        have := SP.nx
        dsimp only at this
        rw [ham] at this
        unfold Hid NextE
        rw [this]
      have TT : Hid (TmI am ∧ TmI xt ∧ TmI az) := by unfold Hid TmI; omega
      have o2b : -1021 ≤ o2 ∧ o2 ≤ 1021 := by rcases XI.2.2 with e | e <;> omega
      have EB : Hid ((-4611700000000000000 ≤ P ∧ P ≤ 4611700000000000000) ∧ -4611700000000000000 ≤ Pm ∧ Pm ≤ 4611700000000000000) := by unfold Hid; omega
      have I1 : Hid (I64 am ∧ I64 az ∧ I64 ab ∧ I64 Ps ∧ I64 Pm ∧ I64 o2) := by unfold Hid I64; omega
      have UPX : Hid (xk = 1 → ∀ t c, EvenP l q P false t c → c = true ∧ t = ab) := fun e t c h => by
        rw [← hP] at h
        rw [← hab]
        exact SH.out.up e t c h
      have DNX : Hid (xk = -1 → ∀ t c, EvenP l q Pm false t c → c = false ∧ t = 0) := fun e t c h => by
        rw [← hPm, ← hP] at h
        exact SH.out.dn e t c h
      have IX : Hid (insB l xt = decide (xk = 1)) := SP.i1
      have K0 : Below wr.heap.size wr wr.drew := (Below.refl _ _).drew
      have LL1 : Hid (∀ w', Below wr.heap.size wr w' → Below w1.heap.size w1 w') := fun w' k => L.out.trans (k.mono L.out.size)
      have kk := XI.2.2
      have GX := Lib.hid hx
      clear z il SP XI hx ob PN O1 O2 hP pe o2b I L SH
      rcases kk with rfl | rfl
      · have CX : Hid (∀ w', Below w1.heap.size w1 w' → w'.cell? (ap.add (i * 2)) = some (.int .i64 xt) ∧ w'.cell? ⟨(ap.add (i * 2)).block, (ap.add (i * 2)).off + 1, none⟩ = some (.int .i64 (1))) := fun w' k => by
          obtain ⟨a', ea, d0, d1⟩ := (H1.out.below k).cell i (by have := IN.out.2; omega)
          injection ea with ea
          subst ea
          have e := GX.out
          rw [e] at d0 d1
          exact ⟨d0, d1⟩
        obtain ⟨v1, v2⟩ := wr16 I1.out.1
        obtain ⟨v3, v4⟩ := wr16 I1.out.2.2.2.2.2
        go_wp2_with fail
        refine wp_region_held_drew (S := fun w' => w'.cell? ⟨(ap.add (i * 2)).block, (ap.add (i * 2)).off + 1, none⟩ = some (.int .i64 (1))) (by kernel_rfl) ((CC.out _ K0).2) (fun hHeld => ?_)
        refine wpAnyH_take (i := 0) (v := ?_) (by (simp only [List.getElem?_toArray, List.getElem?_cons_zero]; exact rfl)) (by kernel_rfl) (by kernel_rfl) (by kernel_rfl) (by exact fun _ _ _ h => h) (Or.inl ⟨by rfl, ?_⟩) (by assumption) ?_
        rotate_left
        · (intro w hSw; (try dsimp only at hSw); first | (go_simp; done) | (go_simp; with_reducible rfl))
        try simp only [Act.put, List.setIfInBounds_toArray, List.set_cons_zero, List.set_cons_succ]
        refine wpAnyH_take (i := 1) (v := ?_) (by (simp only [List.getElem?_toArray, List.getElem?_cons_zero, List.getElem?_cons_succ]; exact rfl)) (by kernel_rfl) (by kernel_rfl) (by kernel_rfl) (by exact fun _ _ _ h => h) (Or.inl ⟨by rfl, ?_⟩) (by assumption) ?_
        rotate_left
        · (intro w hSw; (try dsimp only at hSw); first | (go_simp; done) | (go_simp; with_reducible rfl))
        try simp only [Act.put, List.setIfInBounds_toArray, List.set_cons_zero, List.set_cons_succ]
        refine wpAnyH_take (i := 2) (v := ?_) (by (simp only [List.getElem?_toArray, List.getElem?_cons_zero, List.getElem?_cons_succ]; exact rfl)) (by kernel_rfl) (by kernel_rfl) (by kernel_rfl) (by exact fun _ _ _ h => h) (Or.inl ⟨by rfl, ?_⟩) (by assumption) ?_
        rotate_left
        · (intro w hSw; (try dsimp only at hSw); first | (go_simp; done) | (go_simp; with_reducible rfl))
        try simp only [Act.put, List.setIfInBounds_toArray, List.set_cons_zero, List.set_cons_succ]
        refine wpAnyH_take (i := 4) (v := ?_) (by (simp only [List.getElem?_toArray, List.getElem?_cons_zero, List.getElem?_cons_succ]; exact rfl)) (by kernel_rfl) (by kernel_rfl) (by kernel_rfl) (by exact fun _ _ _ h => h) (Or.inl ⟨by rfl, ?_⟩) (by assumption) ?_
        rotate_left
        · (intro w hSw; (try dsimp only at hSw); first | (go_simp; done) | (go_simp; with_reducible rfl))
        try simp only [Act.put, List.setIfInBounds_toArray, List.set_cons_zero, List.set_cons_succ]
        refine wpAnyH_ready (rs := [3]) (by kernel_rfl) (by simp) ?_
        refine AllReadyH.cons (by (simp only [List.getElem?_toArray, List.getElem?_cons_zero, List.getElem?_cons_succ]; exact rfl)) (fun K hK => ?_) AllReadyH.nil
        go_simp
        go_at_call 23; refine (OF.out _ am o (LL1.out _ K0) TT.out.1 HO.out.1).mono ?_; rintro r2 w2 ⟨rfl, k2⟩
        go_wp2_with fail
        refine hK.out _ _ (CX.out _ k2).2 (fun hHeld => ?_)
        clear hK K
        try simp only [Act.put, List.setIfInBounds_toArray, List.set_cons_zero, List.set_cons_succ]
        refine wpAnyH_take (i := 5) (v := ?_) (by (simp only [List.getElem?_toArray, List.getElem?_cons_zero, List.getElem?_cons_succ]; exact rfl)) (by kernel_rfl) (by kernel_rfl) (by kernel_rfl) (by exact fun _ _ _ h => h) (Or.inl ⟨by rfl, ?_⟩) (by assumption) ?_
        rotate_left
        · (intro w hSw; (try dsimp only at hSw); first | (go_simp; done) | (go_simp; with_reducible rfl))
        try simp only [Act.put, List.setIfInBounds_toArray, List.set_cons_zero, List.set_cons_succ]
        refine wpAnyH_take (i := 6) (v := ?_) (by (simp only [List.getElem?_toArray, List.getElem?_cons_zero, List.getElem?_cons_succ]; exact rfl)) (by kernel_rfl) (by kernel_rfl) (by kernel_rfl) (by exact fun _ _ _ h => h) (Or.inl ⟨by rfl, ?_⟩) (by assumption) ?_
        rotate_left
        · (intro w hSw; (try dsimp only at hSw); first | (go_simp; done) | (go_simp; with_reducible rfl))
        try simp only [Act.put, List.setIfInBounds_toArray, List.set_cons_zero, List.set_cons_succ]
        refine wpAnyH_take (i := 7) (v := ?_) (by (simp only [List.getElem?_toArray, List.getElem?_cons_zero, List.getElem?_cons_succ]; exact rfl)) (by kernel_rfl) (by kernel_rfl) (by kernel_rfl) (by exact fun _ _ _ h => h) (Or.inl ⟨by rfl, ?_⟩) (by assumption) ?_
        rotate_left
        · (intro w hSw; (try dsimp only at hSw); first | (go_simp; done) | (go_simp; with_reducible rfl))
        try simp only [Act.put, List.setIfInBounds_toArray, List.set_cons_zero, List.set_cons_succ]
        refine wpAnyH_take (i := 8) (v := ?_) (by (simp only [List.getElem?_toArray, List.getElem?_cons_zero, List.getElem?_cons_succ]; exact rfl)) (by kernel_rfl) (by kernel_rfl) (by kernel_rfl) (by exact fun _ _ _ h => h) (Or.inl ⟨by rfl, ?_⟩) (by assumption) ?_
        rotate_left
        · (intro w hSw; (try dsimp only at hSw); first | (go_simp; done) | (go_simp; with_reducible rfl))
        try simp only [Act.put, List.setIfInBounds_toArray, List.set_cons_zero, List.set_cons_succ]
        refine wpAnyH_take (i := 10) (v := ?_) (by (simp only [List.getElem?_toArray, List.getElem?_cons_zero, List.getElem?_cons_succ]; exact rfl)) (by kernel_rfl) (by kernel_rfl) (by kernel_rfl) (by exact fun _ _ _ h => h) (Or.inl ⟨by rfl, ?_⟩) (by assumption) ?_
        rotate_left
        · (intro w hSw; (try dsimp only at hSw); first | (go_simp; done) | (go_simp; with_reducible rfl))
        try simp only [Act.put, List.setIfInBounds_toArray, List.set_cons_zero, List.set_cons_succ]
        refine wpAnyH_take (i := 11) (v := ?_) (by (simp only [List.getElem?_toArray, List.getElem?_cons_zero, List.getElem?_cons_succ]; exact rfl)) (by kernel_rfl) (by kernel_rfl) (by kernel_rfl) (by exact fun _ _ _ h => h) (Or.inl ⟨by rfl, ?_⟩) (by assumption) ?_
        rotate_left
        · (intro w hSw; (try dsimp only at hSw); first | (go_simp; done) | (go_simp; with_reducible rfl))
        try simp only [Act.put, List.setIfInBounds_toArray, List.set_cons_zero, List.set_cons_succ]
        refine wpAnyH_take (i := 12) (v := ?_) (by (simp only [List.getElem?_toArray, List.getElem?_cons_zero, List.getElem?_cons_succ]; exact rfl)) (by kernel_rfl) (by kernel_rfl) (by kernel_rfl) (by exact fun _ _ _ h => h) (Or.inl ⟨by rfl, ?_⟩) (by assumption) ?_
        rotate_left
        · (intro w hSw; (try dsimp only at hSw); first | (go_simp; done) | (go_simp; with_reducible rfl))
        try simp only [Act.put, List.setIfInBounds_toArray, List.set_cons_zero, List.set_cons_succ]
        refine wpAnyH_take (i := 13) (v := ?_) (by (simp only [List.getElem?_toArray, List.getElem?_cons_zero, List.getElem?_cons_succ]; exact rfl)) (by kernel_rfl) (by kernel_rfl) (by kernel_rfl) (by exact fun _ _ _ h => h) (Or.inl ⟨by rfl, ?_⟩) (by assumption) ?_
        rotate_left
        · (intro w hSw; (try dsimp only at hSw); first | (go_simp; done) | (go_simp; with_reducible rfl))
        try simp only [Act.put, List.setIfInBounds_toArray, List.set_cons_zero, List.set_cons_succ]
        refine wpAnyH_take (i := 14) (v := ?_) (by (simp only [List.getElem?_toArray, List.getElem?_cons_zero, List.getElem?_cons_succ]; exact rfl)) (by kernel_rfl) (by kernel_rfl) (by kernel_rfl) (by exact fun _ _ _ h => h) (Or.inl ⟨by rfl, ?_⟩) (by assumption) ?_
        rotate_left
        · (intro w hSw; (try dsimp only at hSw); first | (go_simp; done) | (go_simp; with_reducible rfl))
        try simp only [Act.put, List.setIfInBounds_toArray, List.set_cons_zero, List.set_cons_succ]
        refine wpAnyH_take (i := 15) (v := ?_) (by (simp only [List.getElem?_toArray, List.getElem?_cons_zero, List.getElem?_cons_succ]; exact rfl)) (by kernel_rfl) (by kernel_rfl) (by kernel_rfl) (by exact fun _ _ _ h => h) (Or.inl ⟨by rfl, ?_⟩) (by assumption) ?_
        rotate_left
        · (intro w hSw; (try dsimp only at hSw); first | (go_simp; done) | (go_simp; with_reducible rfl))
        try simp only [Act.put, List.setIfInBounds_toArray, List.set_cons_zero, List.set_cons_succ]
        refine wpAnyH_take (i := 16) (v := ?_) (by (simp only [List.getElem?_toArray, List.getElem?_cons_zero, List.getElem?_cons_succ]; exact rfl)) (by kernel_rfl) (by kernel_rfl) (by kernel_rfl) (by exact fun _ _ _ h => h) (Or.inl ⟨by rfl, ?_⟩) (by assumption) ?_
        rotate_left
        · (intro w hSw; (try dsimp only at hSw); first | (go_simp; done) | (go_simp; with_reducible rfl))
        try simp only [Act.put, List.setIfInBounds_toArray, List.set_cons_zero, List.set_cons_succ]
        refine wpAnyH_ready (rs := [9]) (by kernel_rfl) (by simp) ?_
        refine AllReadyH.cons (by (simp only [List.getElem?_toArray, List.getElem?_cons_zero, List.getElem?_cons_succ]; exact rfl)) (fun K hK => ?_) AllReadyH.nil
        go_simp
        go_at_call 23; refine (OF.out _ xt o2 k2 TT.out.2.1 HO.out.2.1).mono ?_; rintro r3 w3 ⟨rfl, k3⟩
        go_wp2_with fail
        refine hK.out _ _ (CX.out _ k3).2 (fun hHeld => ?_)
        clear hK K
        try simp only [Act.put, List.setIfInBounds_toArray, List.set_cons_zero, List.set_cons_succ]
        refine wpAnyH_take (i := 17) (v := ?_) (by (simp only [List.getElem?_toArray, List.getElem?_cons_zero, List.getElem?_cons_succ]; exact rfl)) (by kernel_rfl) (by kernel_rfl) (by kernel_rfl) (by exact fun _ _ _ h => h) (Or.inl ⟨by rfl, ?_⟩) (by assumption) ?_
        rotate_left
        · (intro w hSw; (try dsimp only at hSw); first | (go_simp; done) | (go_simp; with_reducible rfl))
        try simp only [Act.put, List.setIfInBounds_toArray, List.set_cons_zero, List.set_cons_succ]
        refine wpAnyH_take (i := 18) (v := ?_) (by (simp only [List.getElem?_toArray, List.getElem?_cons_zero, List.getElem?_cons_succ]; exact rfl)) (by kernel_rfl) (by kernel_rfl) (by kernel_rfl) (by exact fun _ _ _ h => h) (Or.inl ⟨by rfl, ?_⟩) (by assumption) ?_
        rotate_left
        · (intro w hSw; (try dsimp only at hSw); first | (go_simp; done) | (go_simp; with_reducible rfl))
        try simp only [Act.put, List.setIfInBounds_toArray, List.set_cons_zero, List.set_cons_succ]
        refine wpAnyH_done (by kernel_rfl) ?_ _
        have K3 := Lib.hid k3
        clear k2 k3 K0 CC
        obtain ⟨x0, x1⟩ := CX.out _ K3.out
        go_wp2_with fail
        refine (LA.out _ xt P (decide ((1 : Int) = 1)) K3.out TT.out.2.1 HO.out.2.2.1 IX.out).mono ?_; rintro r4 w4 ⟨rfl, k4⟩
        clear x0 x1
        obtain ⟨v5, v6⟩ := wr16 I1.out.2.1
        go_wp2_with fail
        refine (LA.out _ az Ps false k4 TT.out.2.2 HO.out.2.2.2.1 HO.out.2.2.2.2).mono ?_; rintro r5 w5 ⟨rfl, k5⟩
        obtain ⟨x0, x1⟩ := CX.out _ k5
        obtain ⟨v7, v8⟩ := wr16 I1.out.2.2.2.1
        clear k4
        go_wp2_with fail
        refine (EV.out _ P k5 EB.out.1).mono ?_; rintro r6 w6 ⟨⟨t6, c6, rfl, h6⟩, k6⟩
        clear x0 x1
        obtain ⟨x0, x1⟩ := CX.out _ k6
        obtain ⟨v9, v10⟩ := wr16 I1.out.2.2.1
        obtain ⟨v11, v12⟩ := wr16 I1.out.2.2.2.2.1
        clear k5
        obtain ⟨rfl, rfl⟩ := UPX.out trivial t6 c6 h6
        go_wp2_with fail
        refine (EV.out _ Pm k6 EB.out.2).mono ?_; rintro r7 w7 ⟨⟨t7, c7, rfl, h7⟩, k7⟩
        clear h6 h7 k6 x0 x1
        obtain ⟨x0, x1⟩ := CX.out _ k7
        go_wp2_with fail
        refine (NX.out _ am k7 TT.out.1).mono ?_; rintro r9 w9 ⟨rfl, k9⟩
        rw [NY.out]
        have k10 := k9.alloc k9.size (.cells #[.int .i64 xt, .int .i64 (1)] 33)
        have YN := heap_alloc_new w9 (.cells #[.int .i64 xt, .int .i64 (1)] 33)
        have YC : Hid ((w9.alloc (.cells #[.int .i64 xt, .int .i64 (1)] 33)).drew.cell? ⟨w9.heap.size, 0, none⟩ = some (.int .i64 xt) ∧ (w9.alloc (.cells #[.int .i64 xt, .int .i64 (1)] 33)).drew.cell? ⟨w9.heap.size, 1, none⟩ = some (.int .i64 (1)) ∧ (w9.alloc (.cells #[.int .i64 xt, .int .i64 (1)] 33)).drew.cell? (ap.add (i * 2)) = some (.int .i64 xt) ∧ (w9.alloc (.cells #[.int .i64 xt, .int .i64 (1)] 33)).drew.cell? ⟨(ap.add (i * 2)).block, (ap.add (i * 2)).off + 1, none⟩ = some (.int .i64 (1))) :=
          ⟨blk_cell YN, blk_cell YN, (CX.out _ k10.drew).1, (CX.out _ k10.drew).2⟩
        have K11 := Lib.hid k10.drew
        have NQ := fun w => neq_lp w xt (1)
        clear k7 k9 k10 YN x0 x1
        go_wp2_with fail
        refine wp_region_held_drew (S := fun w' => w'.cell? ⟨w9.heap.size, 0, none⟩ = some (.int .i64 xt) ∧ w'.cell? ⟨w9.heap.size, 1, none⟩ = some (.int .i64 (1)) ∧ w'.cell? (ap.add (i * 2)) = some (.int .i64 xt) ∧ w'.cell? ⟨(ap.add (i * 2)).block, (ap.add (i * 2)).off + 1, none⟩ = some (.int .i64 (1))) (by kernel_rfl) (YC.out) (fun hHeld => ?_)
        refine wpAnyH_take (i := 0) (v := ?_) (by (simp only [List.getElem?_toArray, List.getElem?_cons_zero]; exact rfl)) (by kernel_rfl) (by kernel_rfl) (by kernel_rfl) (by exact fun _ _ _ h => h) (Or.inl ⟨by rfl, ?_⟩) (by assumption) ?_
        rotate_left
        · (intro w hSw; (try dsimp only at hSw); first | (go_simp; done) | (go_simp; with_reducible rfl))
        try simp only [Act.put, List.setIfInBounds_toArray, List.set_cons_zero, List.set_cons_succ]
        refine wpAnyH_take (i := 1) (v := ?_) (by (simp only [List.getElem?_toArray, List.getElem?_cons_zero, List.getElem?_cons_succ]; exact rfl)) (by kernel_rfl) (by kernel_rfl) (by kernel_rfl) (by exact fun _ _ _ h => h) (Or.inl ⟨by rfl, ?_⟩) (by assumption) ?_
        rotate_left
        · (intro w hSw; (try dsimp only at hSw); first | (go_simp; done) | (go_simp; with_reducible rfl))
        try simp only [Act.put, List.setIfInBounds_toArray, List.set_cons_zero, List.set_cons_succ]
        refine wpAnyH_take (i := 2) (v := ?_) (by (simp only [List.getElem?_toArray, List.getElem?_cons_zero, List.getElem?_cons_succ]; exact rfl)) (by kernel_rfl) (by kernel_rfl) (by kernel_rfl) (by exact fun _ _ _ h => h) (Or.inl ⟨by rfl, ?_⟩) (by assumption) ?_
        rotate_left
        · (intro w hSw; (try dsimp only at hSw); first | (go_simp; done) | (go_simp; with_reducible rfl))
        try simp only [Act.put, List.setIfInBounds_toArray, List.set_cons_zero, List.set_cons_succ]
        refine wpAnyH_take (i := 3) (v := ?_) (by (simp only [List.getElem?_toArray, List.getElem?_cons_zero, List.getElem?_cons_succ]; exact rfl)) (by kernel_rfl) (by kernel_rfl) (by kernel_rfl) (by exact fun _ _ _ h => h) (Or.inl ⟨by rfl, ?_⟩) (by assumption) ?_
        rotate_left
        · (intro w hSw; (try dsimp only at hSw); first | (go_simp; done) | (go_simp; with_reducible rfl))
        try simp only [Act.put, List.setIfInBounds_toArray, List.set_cons_zero, List.set_cons_succ]
        refine wpAnyH_take (i := 4) (v := ?_) (by (simp only [List.getElem?_toArray, List.getElem?_cons_zero, List.getElem?_cons_succ]; exact rfl)) (by kernel_rfl) (by kernel_rfl) (by kernel_rfl) (by exact fun _ _ _ h => h) (Or.inl ⟨by rfl, ?_⟩) (by assumption) ?_
        rotate_left
        · (intro w hSw; (try dsimp only at hSw); first | (go_simp; done) | (go_simp; with_reducible rfl))
        try simp only [Act.put, List.setIfInBounds_toArray, List.set_cons_zero, List.set_cons_succ]
        refine wpAnyH_take (i := 5) (v := ?_) (by (simp only [List.getElem?_toArray, List.getElem?_cons_zero, List.getElem?_cons_succ]; exact rfl)) (by kernel_rfl) (by kernel_rfl) (by kernel_rfl) (by exact fun _ _ _ h => h) (Or.inl ⟨by rfl, ?_⟩) (by assumption) ?_
        rotate_left
        · (intro w hSw; (try dsimp only at hSw); first | (go_simp; done) | (go_simp; with_reducible rfl))
        try simp only [Act.put, List.setIfInBounds_toArray, List.set_cons_zero, List.set_cons_succ]
        refine wpAnyH_take (i := 6) (v := ?_) (by (simp only [List.getElem?_toArray, List.getElem?_cons_zero, List.getElem?_cons_succ]; exact rfl)) (by kernel_rfl) (by kernel_rfl) (by kernel_rfl) (by exact fun _ _ _ h => h) (Or.inl ⟨by rfl, ?_⟩) (by assumption) ?_
        rotate_left
        · (intro w hSw; (try dsimp only at hSw); first | (go_simp; done) | (go_simp; with_reducible rfl))
        try simp only [Act.put, List.setIfInBounds_toArray, List.set_cons_zero, List.set_cons_succ]
        refine wpAnyH_take (i := 7) (v := ?_) (by (simp only [List.getElem?_toArray, List.getElem?_cons_zero, List.getElem?_cons_succ]; exact rfl)) (by kernel_rfl) (by kernel_rfl) (by kernel_rfl) (by exact fun _ _ _ h => h) (Or.inl ⟨by rfl, ?_⟩) (by assumption) ?_
        rotate_left
        · (intro w hSw; (try dsimp only at hSw); first | (go_simp; done) | (go_simp; with_reducible rfl))
        try simp only [Act.put, List.setIfInBounds_toArray, List.set_cons_zero, List.set_cons_succ]
        refine wpAnyH_take (i := 8) (v := ?_) (by (simp only [List.getElem?_toArray, List.getElem?_cons_zero, List.getElem?_cons_succ]; exact rfl)) (by kernel_rfl) (by kernel_rfl) (by kernel_rfl) (by exact fun _ _ _ h => h) (Or.inl ⟨by rfl, ?_⟩) (by assumption) ?_
        rotate_left
        · (intro w hSw; (try dsimp only at hSw); first | (go_simp; done) | (go_simp; with_reducible rfl))
        try simp only [Act.put, List.setIfInBounds_toArray, List.set_cons_zero, List.set_cons_succ]
        refine wpAnyH_take (i := 9) (v := ?_) (by (simp only [List.getElem?_toArray, List.getElem?_cons_zero, List.getElem?_cons_succ]; exact rfl)) (by kernel_rfl) (by kernel_rfl) (by kernel_rfl) (by exact fun _ _ _ h => h) (Or.inl ⟨by rfl, ?_⟩) (by assumption) ?_
        rotate_left
        · (intro w hSw; (try dsimp only at hSw); first | (go_simp; done) | (go_simp; with_reducible rfl))
        try simp only [Act.put, List.setIfInBounds_toArray, List.set_cons_zero, List.set_cons_succ]
        refine wpAnyH_done (by kernel_rfl) ?_ _
        clear YC
        go_wp2_with fail
        go_roundw
        case rel => exact ⟨i + 1, o2, rfl, by go_num, IN, K11⟩
        case measure => simp [intOf]; omega
      · have CX : Hid (∀ w', Below w1.heap.size w1 w' → w'.cell? (ap.add (i * 2)) = some (.int .i64 xt) ∧ w'.cell? ⟨(ap.add (i * 2)).block, (ap.add (i * 2)).off + 1, none⟩ = some (.int .i64 (-1))) := fun w' k => by
          obtain ⟨a', ea, d0, d1⟩ := (H1.out.below k).cell i (by have := IN.out.2; omega)
          injection ea with ea
          subst ea
          have e := GX.out
          rw [e] at d0 d1
          exact ⟨d0, d1⟩
        obtain ⟨v1, v2⟩ := wr16 I1.out.1
        obtain ⟨v3, v4⟩ := wr16 I1.out.2.2.2.2.2
        go_wp2_with fail
        refine wp_region_held_drew (S := fun w' => w'.cell? ⟨(ap.add (i * 2)).block, (ap.add (i * 2)).off + 1, none⟩ = some (.int .i64 (-1))) (by kernel_rfl) ((CC.out _ K0).2) (fun hHeld => ?_)
        refine wpAnyH_take (i := 0) (v := ?_) (by (simp only [List.getElem?_toArray, List.getElem?_cons_zero]; exact rfl)) (by kernel_rfl) (by kernel_rfl) (by kernel_rfl) (by exact fun _ _ _ h => h) (Or.inl ⟨by rfl, ?_⟩) (by assumption) ?_
        rotate_left
        · (intro w hSw; (try dsimp only at hSw); first | (go_simp; done) | (go_simp; with_reducible rfl))
        try simp only [Act.put, List.setIfInBounds_toArray, List.set_cons_zero, List.set_cons_succ]
        refine wpAnyH_take (i := 1) (v := ?_) (by (simp only [List.getElem?_toArray, List.getElem?_cons_zero, List.getElem?_cons_succ]; exact rfl)) (by kernel_rfl) (by kernel_rfl) (by kernel_rfl) (by exact fun _ _ _ h => h) (Or.inl ⟨by rfl, ?_⟩) (by assumption) ?_
        rotate_left
        · (intro w hSw; (try dsimp only at hSw); first | (go_simp; done) | (go_simp; with_reducible rfl))
        try simp only [Act.put, List.setIfInBounds_toArray, List.set_cons_zero, List.set_cons_succ]
        refine wpAnyH_take (i := 2) (v := ?_) (by (simp only [List.getElem?_toArray, List.getElem?_cons_zero, List.getElem?_cons_succ]; exact rfl)) (by kernel_rfl) (by kernel_rfl) (by kernel_rfl) (by exact fun _ _ _ h => h) (Or.inl ⟨by rfl, ?_⟩) (by assumption) ?_
        rotate_left
        · (intro w hSw; (try dsimp only at hSw); first | (go_simp; done) | (go_simp; with_reducible rfl))
        try simp only [Act.put, List.setIfInBounds_toArray, List.set_cons_zero, List.set_cons_succ]
        refine wpAnyH_take (i := 4) (v := ?_) (by (simp only [List.getElem?_toArray, List.getElem?_cons_zero, List.getElem?_cons_succ]; exact rfl)) (by kernel_rfl) (by kernel_rfl) (by kernel_rfl) (by exact fun _ _ _ h => h) (Or.inl ⟨by rfl, ?_⟩) (by assumption) ?_
        rotate_left
        · (intro w hSw; (try dsimp only at hSw); first | (go_simp; done) | (go_simp; with_reducible rfl))
        try simp only [Act.put, List.setIfInBounds_toArray, List.set_cons_zero, List.set_cons_succ]
        refine wpAnyH_ready (rs := [3]) (by kernel_rfl) (by simp) ?_
        refine AllReadyH.cons (by (simp only [List.getElem?_toArray, List.getElem?_cons_zero, List.getElem?_cons_succ]; exact rfl)) (fun K hK => ?_) AllReadyH.nil
        go_simp
        go_at_call 23; refine (OF.out _ am o (LL1.out _ K0) TT.out.1 HO.out.1).mono ?_; rintro r2 w2 ⟨rfl, k2⟩
        go_wp2_with fail
        refine hK.out _ _ (CX.out _ k2).2 (fun hHeld => ?_)
        clear hK K
        try simp only [Act.put, List.setIfInBounds_toArray, List.set_cons_zero, List.set_cons_succ]
        refine wpAnyH_take (i := 5) (v := ?_) (by (simp only [List.getElem?_toArray, List.getElem?_cons_zero, List.getElem?_cons_succ]; exact rfl)) (by kernel_rfl) (by kernel_rfl) (by kernel_rfl) (by exact fun _ _ _ h => h) (Or.inl ⟨by rfl, ?_⟩) (by assumption) ?_
        rotate_left
        · (intro w hSw; (try dsimp only at hSw); first | (go_simp; done) | (go_simp; with_reducible rfl))
        try simp only [Act.put, List.setIfInBounds_toArray, List.set_cons_zero, List.set_cons_succ]
        refine wpAnyH_take (i := 6) (v := ?_) (by (simp only [List.getElem?_toArray, List.getElem?_cons_zero, List.getElem?_cons_succ]; exact rfl)) (by kernel_rfl) (by kernel_rfl) (by kernel_rfl) (by exact fun _ _ _ h => h) (Or.inl ⟨by rfl, ?_⟩) (by assumption) ?_
        rotate_left
        · (intro w hSw; (try dsimp only at hSw); first | (go_simp; done) | (go_simp; with_reducible rfl))
        try simp only [Act.put, List.setIfInBounds_toArray, List.set_cons_zero, List.set_cons_succ]
        refine wpAnyH_take (i := 7) (v := ?_) (by (simp only [List.getElem?_toArray, List.getElem?_cons_zero, List.getElem?_cons_succ]; exact rfl)) (by kernel_rfl) (by kernel_rfl) (by kernel_rfl) (by exact fun _ _ _ h => h) (Or.inl ⟨by rfl, ?_⟩) (by assumption) ?_
        rotate_left
        · (intro w hSw; (try dsimp only at hSw); first | (go_simp; done) | (go_simp; with_reducible rfl))
        try simp only [Act.put, List.setIfInBounds_toArray, List.set_cons_zero, List.set_cons_succ]
        refine wpAnyH_take (i := 8) (v := ?_) (by (simp only [List.getElem?_toArray, List.getElem?_cons_zero, List.getElem?_cons_succ]; exact rfl)) (by kernel_rfl) (by kernel_rfl) (by kernel_rfl) (by exact fun _ _ _ h => h) (Or.inl ⟨by rfl, ?_⟩) (by assumption) ?_
        rotate_left
        · (intro w hSw; (try dsimp only at hSw); first | (go_simp; done) | (go_simp; with_reducible rfl))
        try simp only [Act.put, List.setIfInBounds_toArray, List.set_cons_zero, List.set_cons_succ]
        refine wpAnyH_take (i := 10) (v := ?_) (by (simp only [List.getElem?_toArray, List.getElem?_cons_zero, List.getElem?_cons_succ]; exact rfl)) (by kernel_rfl) (by kernel_rfl) (by kernel_rfl) (by exact fun _ _ _ h => h) (Or.inl ⟨by rfl, ?_⟩) (by assumption) ?_
        rotate_left
        · (intro w hSw; (try dsimp only at hSw); first | (go_simp; done) | (go_simp; with_reducible rfl))
        try simp only [Act.put, List.setIfInBounds_toArray, List.set_cons_zero, List.set_cons_succ]
        refine wpAnyH_take (i := 11) (v := ?_) (by (simp only [List.getElem?_toArray, List.getElem?_cons_zero, List.getElem?_cons_succ]; exact rfl)) (by kernel_rfl) (by kernel_rfl) (by kernel_rfl) (by exact fun _ _ _ h => h) (Or.inl ⟨by rfl, ?_⟩) (by assumption) ?_
        rotate_left
        · (intro w hSw; (try dsimp only at hSw); first | (go_simp; done) | (go_simp; with_reducible rfl))
        try simp only [Act.put, List.setIfInBounds_toArray, List.set_cons_zero, List.set_cons_succ]
        refine wpAnyH_take (i := 12) (v := ?_) (by (simp only [List.getElem?_toArray, List.getElem?_cons_zero, List.getElem?_cons_succ]; exact rfl)) (by kernel_rfl) (by kernel_rfl) (by kernel_rfl) (by exact fun _ _ _ h => h) (Or.inl ⟨by rfl, ?_⟩) (by assumption) ?_
        rotate_left
        · (intro w hSw; (try dsimp only at hSw); first | (go_simp; done) | (go_simp; with_reducible rfl))
        try simp only [Act.put, List.setIfInBounds_toArray, List.set_cons_zero, List.set_cons_succ]
        refine wpAnyH_take (i := 13) (v := ?_) (by (simp only [List.getElem?_toArray, List.getElem?_cons_zero, List.getElem?_cons_succ]; exact rfl)) (by kernel_rfl) (by kernel_rfl) (by kernel_rfl) (by exact fun _ _ _ h => h) (Or.inl ⟨by rfl, ?_⟩) (by assumption) ?_
        rotate_left
        · (intro w hSw; (try dsimp only at hSw); first | (go_simp; done) | (go_simp; with_reducible rfl))
        try simp only [Act.put, List.setIfInBounds_toArray, List.set_cons_zero, List.set_cons_succ]
        refine wpAnyH_take (i := 14) (v := ?_) (by (simp only [List.getElem?_toArray, List.getElem?_cons_zero, List.getElem?_cons_succ]; exact rfl)) (by kernel_rfl) (by kernel_rfl) (by kernel_rfl) (by exact fun _ _ _ h => h) (Or.inl ⟨by rfl, ?_⟩) (by assumption) ?_
        rotate_left
        · (intro w hSw; (try dsimp only at hSw); first | (go_simp; done) | (go_simp; with_reducible rfl))
        try simp only [Act.put, List.setIfInBounds_toArray, List.set_cons_zero, List.set_cons_succ]
        refine wpAnyH_take (i := 15) (v := ?_) (by (simp only [List.getElem?_toArray, List.getElem?_cons_zero, List.getElem?_cons_succ]; exact rfl)) (by kernel_rfl) (by kernel_rfl) (by kernel_rfl) (by exact fun _ _ _ h => h) (Or.inl ⟨by rfl, ?_⟩) (by assumption) ?_
        rotate_left
        · (intro w hSw; (try dsimp only at hSw); first | (go_simp; done) | (go_simp; with_reducible rfl))
        try simp only [Act.put, List.setIfInBounds_toArray, List.set_cons_zero, List.set_cons_succ]
        refine wpAnyH_take (i := 16) (v := ?_) (by (simp only [List.getElem?_toArray, List.getElem?_cons_zero, List.getElem?_cons_succ]; exact rfl)) (by kernel_rfl) (by kernel_rfl) (by kernel_rfl) (by exact fun _ _ _ h => h) (Or.inl ⟨by rfl, ?_⟩) (by assumption) ?_
        rotate_left
        · (intro w hSw; (try dsimp only at hSw); first | (go_simp; done) | (go_simp; with_reducible rfl))
        try simp only [Act.put, List.setIfInBounds_toArray, List.set_cons_zero, List.set_cons_succ]
        refine wpAnyH_ready (rs := [9]) (by kernel_rfl) (by simp) ?_
        refine AllReadyH.cons (by (simp only [List.getElem?_toArray, List.getElem?_cons_zero, List.getElem?_cons_succ]; exact rfl)) (fun K hK => ?_) AllReadyH.nil
        go_simp
        go_at_call 23; refine (OF.out _ xt o2 k2 TT.out.2.1 HO.out.2.1).mono ?_; rintro r3 w3 ⟨rfl, k3⟩
        go_wp2_with fail
        refine hK.out _ _ (CX.out _ k3).2 (fun hHeld => ?_)
        clear hK K
        try simp only [Act.put, List.setIfInBounds_toArray, List.set_cons_zero, List.set_cons_succ]
        refine wpAnyH_take (i := 17) (v := ?_) (by (simp only [List.getElem?_toArray, List.getElem?_cons_zero, List.getElem?_cons_succ]; exact rfl)) (by kernel_rfl) (by kernel_rfl) (by kernel_rfl) (by exact fun _ _ _ h => h) (Or.inl ⟨by rfl, ?_⟩) (by assumption) ?_
        rotate_left
        · (intro w hSw; (try dsimp only at hSw); first | (go_simp; done) | (go_simp; with_reducible rfl))
        try simp only [Act.put, List.setIfInBounds_toArray, List.set_cons_zero, List.set_cons_succ]
        refine wpAnyH_take (i := 18) (v := ?_) (by (simp only [List.getElem?_toArray, List.getElem?_cons_zero, List.getElem?_cons_succ]; exact rfl)) (by kernel_rfl) (by kernel_rfl) (by kernel_rfl) (by exact fun _ _ _ h => h) (Or.inl ⟨by rfl, ?_⟩) (by assumption) ?_
        rotate_left
        · (intro w hSw; (try dsimp only at hSw); first | (go_simp; done) | (go_simp; with_reducible rfl))
        try simp only [Act.put, List.setIfInBounds_toArray, List.set_cons_zero, List.set_cons_succ]
        refine wpAnyH_done (by kernel_rfl) ?_ _
        have K3 := Lib.hid k3
        clear k2 k3 K0 CC
        obtain ⟨x0, x1⟩ := CX.out _ K3.out
        go_wp2_with fail
        refine (LA.out _ xt P (decide ((-1 : Int) = 1)) K3.out TT.out.2.1 HO.out.2.2.1 IX.out).mono ?_; rintro r4 w4 ⟨rfl, k4⟩
        clear x0 x1
        obtain ⟨v5, v6⟩ := wr16 I1.out.2.1
        go_wp2_with fail
        refine (LA.out _ az Ps false k4 TT.out.2.2 HO.out.2.2.2.1 HO.out.2.2.2.2).mono ?_; rintro r5 w5 ⟨rfl, k5⟩
        obtain ⟨x0, x1⟩ := CX.out _ k5
        obtain ⟨v7, v8⟩ := wr16 I1.out.2.2.2.1
        clear k4
        go_wp2_with fail
        refine (EV.out _ P k5 EB.out.1).mono ?_; rintro r6 w6 ⟨⟨t6, c6, rfl, h6⟩, k6⟩
        clear x0 x1
        obtain ⟨x0, x1⟩ := CX.out _ k6
        obtain ⟨v9, v10⟩ := wr16 I1.out.2.2.1
        obtain ⟨v11, v12⟩ := wr16 I1.out.2.2.2.2.1
        clear k5
        go_wp2_with fail
        refine (EV.out _ Pm k6 EB.out.2).mono ?_; rintro r7 w7 ⟨⟨t7, c7, rfl, h7⟩, k7⟩
        obtain ⟨rfl, rfl⟩ := DNX.out trivial t7 c7 h7
        clear h6 h7 k6 x0 x1
        obtain ⟨x0, x1⟩ := CX.out _ k7
        go_wp2_with fail
        refine (NX.out _ am k7 TT.out.1).mono ?_; rintro r9 w9 ⟨rfl, k9⟩
        rw [NY.out]
        have k10 := k9.alloc k9.size (.cells #[.int .i64 xt, .int .i64 (-1)] 33)
        have YN := heap_alloc_new w9 (.cells #[.int .i64 xt, .int .i64 (-1)] 33)
        have YC : Hid ((w9.alloc (.cells #[.int .i64 xt, .int .i64 (-1)] 33)).drew.cell? ⟨w9.heap.size, 0, none⟩ = some (.int .i64 xt) ∧ (w9.alloc (.cells #[.int .i64 xt, .int .i64 (-1)] 33)).drew.cell? ⟨w9.heap.size, 1, none⟩ = some (.int .i64 (-1)) ∧ (w9.alloc (.cells #[.int .i64 xt, .int .i64 (-1)] 33)).drew.cell? (ap.add (i * 2)) = some (.int .i64 xt) ∧ (w9.alloc (.cells #[.int .i64 xt, .int .i64 (-1)] 33)).drew.cell? ⟨(ap.add (i * 2)).block, (ap.add (i * 2)).off + 1, none⟩ = some (.int .i64 (-1))) :=
          ⟨blk_cell YN, blk_cell YN, (CX.out _ k10.drew).1, (CX.out _ k10.drew).2⟩
        have K11 := Lib.hid k10.drew
        have NQ := fun w => neq_lp w xt (-1)
        clear k7 k9 k10 YN x0 x1
        go_wp2_with fail
        refine wp_region_held_drew (S := fun w' => w'.cell? ⟨w9.heap.size, 0, none⟩ = some (.int .i64 xt) ∧ w'.cell? ⟨w9.heap.size, 1, none⟩ = some (.int .i64 (-1)) ∧ w'.cell? (ap.add (i * 2)) = some (.int .i64 xt) ∧ w'.cell? ⟨(ap.add (i * 2)).block, (ap.add (i * 2)).off + 1, none⟩ = some (.int .i64 (-1))) (by kernel_rfl) (YC.out) (fun hHeld => ?_)
        refine wpAnyH_take (i := 0) (v := ?_) (by (simp only [List.getElem?_toArray, List.getElem?_cons_zero]; exact rfl)) (by kernel_rfl) (by kernel_rfl) (by kernel_rfl) (by exact fun _ _ _ h => h) (Or.inl ⟨by rfl, ?_⟩) (by assumption) ?_
        rotate_left
        · (intro w hSw; (try dsimp only at hSw); first | (go_simp; done) | (go_simp; with_reducible rfl))
        try simp only [Act.put, List.setIfInBounds_toArray, List.set_cons_zero, List.set_cons_succ]
        refine wpAnyH_take (i := 1) (v := ?_) (by (simp only [List.getElem?_toArray, List.getElem?_cons_zero, List.getElem?_cons_succ]; exact rfl)) (by kernel_rfl) (by kernel_rfl) (by kernel_rfl) (by exact fun _ _ _ h => h) (Or.inl ⟨by rfl, ?_⟩) (by assumption) ?_
        rotate_left
        · (intro w hSw; (try dsimp only at hSw); first | (go_simp; done) | (go_simp; with_reducible rfl))
        try simp only [Act.put, List.setIfInBounds_toArray, List.set_cons_zero, List.set_cons_succ]
        refine wpAnyH_take (i := 2) (v := ?_) (by (simp only [List.getElem?_toArray, List.getElem?_cons_zero, List.getElem?_cons_succ]; exact rfl)) (by kernel_rfl) (by kernel_rfl) (by kernel_rfl) (by exact fun _ _ _ h => h) (Or.inl ⟨by rfl, ?_⟩) (by assumption) ?_
        rotate_left
        · (intro w hSw; (try dsimp only at hSw); first | (go_simp; done) | (go_simp; with_reducible rfl))
        try simp only [Act.put, List.setIfInBounds_toArray, List.set_cons_zero, List.set_cons_succ]
        refine wpAnyH_take (i := 3) (v := ?_) (by (simp only [List.getElem?_toArray, List.getElem?_cons_zero, List.getElem?_cons_succ]; exact rfl)) (by kernel_rfl) (by kernel_rfl) (by kernel_rfl) (by exact fun _ _ _ h => h) (Or.inl ⟨by rfl, ?_⟩) (by assumption) ?_
        rotate_left
        · (intro w hSw; (try dsimp only at hSw); first | (go_simp; done) | (go_simp; with_reducible rfl))
        try simp only [Act.put, List.setIfInBounds_toArray, List.set_cons_zero, List.set_cons_succ]
        refine wpAnyH_take (i := 4) (v := ?_) (by (simp only [List.getElem?_toArray, List.getElem?_cons_zero, List.getElem?_cons_succ]; exact rfl)) (by kernel_rfl) (by kernel_rfl) (by kernel_rfl) (by exact fun _ _ _ h => h) (Or.inl ⟨by rfl, ?_⟩) (by assumption) ?_
        rotate_left
        · (intro w hSw; (try dsimp only at hSw); first | (go_simp; done) | (go_simp; with_reducible rfl))
        try simp only [Act.put, List.setIfInBounds_toArray, List.set_cons_zero, List.set_cons_succ]
        refine wpAnyH_take (i := 5) (v := ?_) (by (simp only [List.getElem?_toArray, List.getElem?_cons_zero, List.getElem?_cons_succ]; exact rfl)) (by kernel_rfl) (by kernel_rfl) (by kernel_rfl) (by exact fun _ _ _ h => h) (Or.inl ⟨by rfl, ?_⟩) (by assumption) ?_
        rotate_left
        · (intro w hSw; (try dsimp only at hSw); first | (go_simp; done) | (go_simp; with_reducible rfl))
        try simp only [Act.put, List.setIfInBounds_toArray, List.set_cons_zero, List.set_cons_succ]
        refine wpAnyH_take (i := 6) (v := ?_) (by (simp only [List.getElem?_toArray, List.getElem?_cons_zero, List.getElem?_cons_succ]; exact rfl)) (by kernel_rfl) (by kernel_rfl) (by kernel_rfl) (by exact fun _ _ _ h => h) (Or.inl ⟨by rfl, ?_⟩) (by assumption) ?_
        rotate_left
        · (intro w hSw; (try dsimp only at hSw); first | (go_simp; done) | (go_simp; with_reducible rfl))
        try simp only [Act.put, List.setIfInBounds_toArray, List.set_cons_zero, List.set_cons_succ]
        refine wpAnyH_take (i := 7) (v := ?_) (by (simp only [List.getElem?_toArray, List.getElem?_cons_zero, List.getElem?_cons_succ]; exact rfl)) (by kernel_rfl) (by kernel_rfl) (by kernel_rfl) (by exact fun _ _ _ h => h) (Or.inl ⟨by rfl, ?_⟩) (by assumption) ?_
        rotate_left
        · (intro w hSw; (try dsimp only at hSw); first | (go_simp; done) | (go_simp; with_reducible rfl))
        try simp only [Act.put, List.setIfInBounds_toArray, List.set_cons_zero, List.set_cons_succ]
        refine wpAnyH_take (i := 8) (v := ?_) (by (simp only [List.getElem?_toArray, List.getElem?_cons_zero, List.getElem?_cons_succ]; exact rfl)) (by kernel_rfl) (by kernel_rfl) (by kernel_rfl) (by exact fun _ _ _ h => h) (Or.inl ⟨by rfl, ?_⟩) (by assumption) ?_
        rotate_left
        · (intro w hSw; (try dsimp only at hSw); first | (go_simp; done) | (go_simp; with_reducible rfl))
        try simp only [Act.put, List.setIfInBounds_toArray, List.set_cons_zero, List.set_cons_succ]
        refine wpAnyH_take (i := 9) (v := ?_) (by (simp only [List.getElem?_toArray, List.getElem?_cons_zero, List.getElem?_cons_succ]; exact rfl)) (by kernel_rfl) (by kernel_rfl) (by kernel_rfl) (by exact fun _ _ _ h => h) (Or.inl ⟨by rfl, ?_⟩) (by assumption) ?_
        rotate_left
        · (intro w hSw; (try dsimp only at hSw); first | (go_simp; done) | (go_simp; with_reducible rfl))
        try simp only [Act.put, List.setIfInBounds_toArray, List.set_cons_zero, List.set_cons_succ]
        refine wpAnyH_done (by kernel_rfl) ?_ _
        clear YC
        go_wp2_with fail
        go_roundw
        case rel => exact ⟨i + 1, o2, rfl, by go_num, IN, K11⟩
        case measure => simp [intOf]; omega
    · have z1 : (m : Int) ≤ (i : Int) := by omega
      have z2 : decide ((i : Int) < (m : Int)) = false := decide_eq_false (by omega)
      obtain rfl : i = m := by have := I.out.2; omega
      have e1 : offI l q 4611686018427387904 = o := by
        have := EN.out.2.1
        unfold topI at this
        rw [this, I.out.1, HM.out]
      have e2 : offI l q 0 = q := EN.out.2.2
      have NE : Hid (NextE l 4611686018427387904 = .returned (.tuple #[.agg #[.int .i64 0, .int .i64 0], .bool false])) := by
        have := EN.out.1
        unfold topI at this
        unfold Hid NextE
        rw [this]
      have E1 := Lib.hid e1
      have E2 := Lib.hid e2
      clear z I e1 e2 LA EV
      go_wp2_with fail
      refine (NX.out _ 4611686018427387904 L.out (by unfold TmI; decide)).mono ?_; rintro r2 w2 ⟨rfl, k2⟩
      rw [NE.out]
      have k3 := k2.alloc k2.size (.cells #[.int .i64 0, .int .i64 0] 33)
      have Q1 := i16_same QB.out
      obtain ⟨Q3, Q4⟩ := wr16 (x := q) (by have := QB.out; unfold I64; omega)
      have hq := HQ.out
      clear k2 NE NX
      go_wp2_with fail
      refine (OF.out _ 4611686018427387904 o k3 (by unfold TmI; decide) E1.out).mono ?_; rintro r4 w4 ⟨rfl, k4⟩
      go_wp2_with fail
      refine (OF.out _ 0 q k4 (by unfold TmI; decide) E2.out).mono ?_; rintro r5 w5 ⟨rfl, k5⟩
      clear k3 k4
      go_wp2_with fail
      refine (AW.out _).mono ?_; rintro r6 w6 ⟨rfl, b6⟩
      have L6 := Lib.hid (L1.out.trans ((k5.trans (b6.mono k5.size)).mono L1.out.size))
      clear k5 b6 hq Q1 Q3 Q4
      go_wp2
      go_ret
      exact ⟨rfl, L6.out⟩
end Go.Proofs.Ytpfbdpoileepoaa
