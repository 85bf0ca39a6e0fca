/- MonoPlays: the walk. -/
import Derived.Test.YtogkjgglpokkaaaMonoD
import Derived.Test.YtogkjgglpokkaaaMonoJ
import Derived.Deep.CutRange
import Derived.Deep.CutBlock
set_option maxRecDepth 100000
namespace Go.Proofs.Ytogkjgglpokkaaa
open Go.ChangeShapes Go.WideShapes Go.ChangeAt Go.RowKit MonoM

set_option maxHeartbeats 16000000 in
theorem plays11_walk (w : World) (p : Option Addr) (n c : Nat) (zs : List (Int × Int)) (hp : HoldsA .i64 .i64 w p n c zs) :
    Calls Try.prog 3 #[.slice p n c] w fun e w' => e = .returned (.bool true) ∧ Below w.heap.size w w' := by
  have AL := Lib.hid awake11_any
  have NW := Lib.hid pnew11_any
  have HP := Lib.hid hp
  have cp := hp.cap
  have mx := hp.max
  unfold maxLen at mx
  have nb : (n : Int) ≤ 9223372036854775807 := by omega
  clear hp cp mx
  go_enter Try.func3, Try.ntmps3
  go_wp2_with fail
  refine (NW.out w).mono ?_; rintro e w1 ⟨N, rfl, c1, hN, l⟩
  have I0 : Hid (Both w (w1.alloc (.cells #[.int .i64 0, .int .i64 0, .int .i64 0, .int .i64 0, .bool false] 27)) N w1.heap.size zeroM 0) := both_new hN c1 l
  clear l c1 hN NW
  go_wp2_with fail
  generalize w1.alloc (.cells #[.int .i64 0, .int .i64 0, .int .i64 0, .int .i64 0, .bool false] 27) = w2 at *
  generalize w1.heap.size = M at *
  go_loopw [3, 17] (fun s i wr => ∃ (N q : Nat) (x : Mo), s = .pointer (some ⟨N, 0, none⟩) ∧ i = .int .i64 (q : Nat) ∧ Hid (q ≤ n ∧ q ≤ 60) ∧ Hid (Both w wr N M x q)) (fun _ i _ => 1000 - (intOf i).toNat)
  case atStart => exact ⟨N, 0, zeroM, rfl, rfl, ⟨Nat.zero_le _, by decide⟩, I0.out⟩
  case round =>
    clear I0
    obtain ⟨N, q, x, rfl, rfl, hb, I⟩ := hrel
    have q0 : (0 : Int) ≤ (q : Int) := by omega
    have qb : (q : Int) ≤ 60 := by have := hb.out.2; omega
    have QB : Hid (q ≤ 100) := by have := hb.out.2; unfold Hid; omega
    by_cases stop : n ≤ q
    · have z1 : (n : Int) ≤ (q : Int) := by omega
      have z2 : decide ((q : Int) < (n : Int)) = false := decide_eq_false (by omega)
      have LW := Lib.hid I.out.fw.low
      clear hb stop HP I QB
      go_wp2_with fail
      refine (AL.out wr).mono ?_; rintro e w9 ⟨rfl, l9⟩
      have L9 := Lib.hid (LW.out.trans (l9.mono LW.out.size))
      clear l9
      go_wp2
      go_ret
      exact ⟨rfl, L9.out⟩
    have h' : (q : Int) < (n : Int) := by omega
    have qn : q < n := by omega
    obtain ⟨ad, rfl, c0, c1⟩ := (HP.out.below I.out.fw.low).at qn
    obtain ⟨k, hk⟩ : ∃ k, (zs.getD q (0, 0)).1 = k := ⟨_, rfl⟩
    obtain ⟨v, hv⟩ : ∃ v, (zs.getD q (0, 0)).2 = v := ⟨_, rfl⟩
    rw [hk] at c0
    rw [hv] at c1
    clear hk hv
    have AB : Below wr.heap.size wr (wr.alloc (.cells #[.int .i64 k, .int .i64 v] 29)) := (Below.refl _ _).alloc (Nat.le_refl _) _
    have AK : Hid ((wr.alloc (.cells #[.int .i64 k, .int .i64 v] 29)).heap[wr.heap.size]? = some (.cells #[.int .i64 k, .int .i64 v] 29 (0, 0))) := heap_alloc_new _ _
    have IA := Lib.hid (I.out.below AB)
    by_cases q60 : q = 60
    · have z3 : ((q : Int) == 60) = true := by rw [q60]; rfl
      have z4 : (q == 60) = true := by rw [q60]; rfl
      have z5 : decide (q = 60) = true := by rw [q60]; rfl
      have LW := Lib.hid IA.out.fw.low
      clear hb stop I HP qn q60 AB AK IA QB
      go_wp2_with fail
      refine (AL.out _).mono ?_; rintro e w9 ⟨rfl, l9⟩
      have L9 := Lib.hid (LW.out.trans (l9.mono LW.out.size))
      clear l9
      go_wp2
      go_ret
      exact ⟨rfl, L9.out⟩
    have z3 : ((q : Int) == 60) = false := by rw [beq_eq_false_iff_ne]; omega
    have z4 : (q == 60) = false := by rw [beq_eq_false_iff_ne]; omega
    have z5 : decide (q = 60) = false := decide_eq_false q60
    have z6 : (q : Int) < 60 := by have := hb.out.2; omega
    have NB : Hid (q + 1 ≤ n ∧ q + 1 ≤ 60) := by have := hb.out.2; unfold Hid; omega
    clear hb stop I HP qn q60 AB AL
    go_upto_region 6 with (fail)
    generalize wr.alloc (.cells #[.int .i64 k, .int .i64 v] 29) = v0 at *
    generalize wr.heap.size = Na at *
    clear c0 c1
    have NA : Hid (Na ≠ N ∧ Na ≠ M) := act_ne AK.out IA.out
    have b0 := blk_cell (o := 0) AK.out
    have b1 := blk_cell (o := 1) AK.out
    simp only [List.getElem?_toArray, List.getElem?_cons_zero, List.getElem?_cons_succ] at b0 b1
    go_upto_block 2 with fail
    go_cut [3, 7, 8, 9, 10, 11] from 26 to 104 (fun s _ _ _ _ _ wx => ∃ (N2 : Nat) (y : Mo), s = .pointer (some ⟨N2, 0, none⟩) ∧ Hid (Both w wx N2 M y (q + 1)))
    case first =>
      by_cases k0 : k = 0
      · have j0 : (k == 0) = true := by rw [k0]; rfl
        clear k0
        as_aux_lemma =>
        have G := Lib.hid (both_go IA.out QB.out v)
        obtain ⟨y, e1, e2, g1, g2, G1, G2, G3, rfl, rfl⟩ := G.out
        clear G QB
        have G1 := Lib.hid G1
        have G2 := Lib.hid G2
        have G3 := Lib.hid G3
        have gg : (g1 != g1) = false := by simp
        have ee : (e1 != e1) = false := by simp
        go_wp2_with fail
        refine G1.out.mono ?_; rintro r w6 ⟨rfl, cc, tt⟩
        replace AK : Hid (w6.heap[Na]? = some (.cells #[.int .i64 k, .int .i64 v] 29 (0, 0))) := (tt.keep Na NA.out.1 (Array.getElem?_eq_some_iff.1 AK.out).1).trans AK.out
        have F2 := Lib.hid (G3.out w6 cc tt)
        have R2 := Lib.hid (tt.rclk IA.out.r IA.out.ne.symm)
        have b2 := blk_cell (o := 1) AK.out
        simp only [List.getElem?_toArray, List.getElem?_cons_zero, List.getElem?_cons_succ] at b2
        clear cc tt G1 G3 b0 b1 AK
        go_wp2_with fail
        refine (G2.out w6 R2.out).mono ?_; rintro r w7 ⟨rfl, cc, tt⟩
        have I2 : Hid (Both w w7 N M y (q + 1)) := ⟨F2.out.turn tt IA.out.ne IA.out.hM, cc, IA.out.ne, IA.out.hN, IA.out.hM⟩
        clear cc tt G2 F2 R2 IA b2
        go_wp2_with fail
        go_meet
        exact ⟨N, y, rfl, I2.out⟩
      · have j0 : (k == 0) = false := by rw [beq_eq_false_iff_ne]; exact k0
        clear k0
        by_cases k1 : k = 1
        · have j1 : (k == 1) = true := by rw [k1]; rfl
          clear k1 QB
          as_aux_lemma =>
          have R1 : Hid (RClk v0.drew M x) := IA.out.r
          have S0 := Lib.hid (psetrate11_any v0.drew N x v IA.out.fw.c)
          have S1 := Lib.hid (fun w' c => rsetrate11_any w' M x v c)
          obtain ⟨e, he⟩ : ∃ e, rateE v = e := ⟨_, rfl⟩
          simp only [he] at S0 S1
          have ee : (e != e) = false := by simp
          replace AK : Hid (v0.drew.heap[Na]? = some (.cells #[.int .i64 k, .int .i64 v] 29 (0, 0))) := AK.out
          clear he b0 b1
          go_wp2_with fail
          refine wp_region_held_drew (S := fun w' => w'.cell? ⟨Na, 1, none⟩ = some (.int .i64 v)) (by kernel_rfl) (blk_cell (w := v0.drew) AK.out) (fun hHeld => ?_)
          refine wpAnyH_take (i := 0) (v := ?_) (by (simp only [List.getElem?_toArray, List.getElem?_cons_zero]; exact rfl)) (by kernel_rfl) (by kernel_rfl) (by kernel_rfl) (by exact fun _ _ _ h => h) (Or.inl ⟨by rfl, ?_⟩) (by assumption) ?_
          rotate_left
          · (intro w hSw; (try dsimp only at hSw); first | (go_simp; done) | (go_simp; with_reducible rfl))
          try simp only [Act.put, List.setIfInBounds_toArray, List.set_cons_zero, List.set_cons_succ]
          refine wpAnyH_take (i := 1) (v := ?_) (by (simp only [List.getElem?_toArray, List.getElem?_cons_zero, List.getElem?_cons_succ]; exact rfl)) (by kernel_rfl) (by kernel_rfl) (by kernel_rfl) (by exact fun _ _ _ h => h) (Or.inl ⟨by rfl, ?_⟩) (by assumption) ?_
          rotate_left
          · (intro w hSw; (try dsimp only at hSw); first | (go_simp; done) | (go_simp; with_reducible rfl))
          try simp only [Act.put, List.setIfInBounds_toArray, List.set_cons_zero, List.set_cons_succ]
          refine wpAnyH_take (i := 2) (v := ?_) (by (simp only [List.getElem?_toArray, List.getElem?_cons_zero, List.getElem?_cons_succ]; exact rfl)) (by kernel_rfl) (by kernel_rfl) (by kernel_rfl) (by exact fun _ _ _ h => h) (Or.inl ⟨by rfl, ?_⟩) (by assumption) ?_
          rotate_left
          · (intro w hSw; (try dsimp only at hSw); first | (go_simp; done) | (go_simp; with_reducible rfl))
          try simp only [Act.put, List.setIfInBounds_toArray, List.set_cons_zero, List.set_cons_succ]
          refine wpAnyH_take (i := 4) (v := ?_) (by (simp only [List.getElem?_toArray, List.getElem?_cons_zero, List.getElem?_cons_succ]; exact rfl)) (by kernel_rfl) (by kernel_rfl) (by kernel_rfl) (by exact fun _ _ _ h => h) (Or.inl ⟨by rfl, ?_⟩) (by assumption) ?_
          rotate_left
          · (intro w hSw; (try dsimp only at hSw); first | (go_simp; done) | (go_simp; with_reducible rfl))
          try simp only [Act.put, List.setIfInBounds_toArray, List.set_cons_zero, List.set_cons_succ]
          refine wpAnyH_take (i := 5) (v := ?_) (by (simp only [List.getElem?_toArray, List.getElem?_cons_zero, List.getElem?_cons_succ]; exact rfl)) (by kernel_rfl) (by kernel_rfl) (by kernel_rfl) (by exact fun _ _ _ h => h) (Or.inl ⟨by rfl, ?_⟩) (by assumption) ?_
          rotate_left
          · (intro w hSw; (try dsimp only at hSw); first | (go_simp; done) | (go_simp; with_reducible rfl))
          try simp only [Act.put, List.setIfInBounds_toArray, List.set_cons_zero, List.set_cons_succ]
          refine wpAnyH_take (i := 6) (v := ?_) (by (simp only [List.getElem?_toArray, List.getElem?_cons_zero, List.getElem?_cons_succ]; exact rfl)) (by kernel_rfl) (by kernel_rfl) (by kernel_rfl) (by exact fun _ _ _ h => h) (Or.inl ⟨by rfl, ?_⟩) (by assumption) ?_
          rotate_left
          · (intro w hSw; (try dsimp only at hSw); first | (go_simp; done) | (go_simp; with_reducible rfl))
          try simp only [Act.put, List.setIfInBounds_toArray, List.set_cons_zero, List.set_cons_succ]
          refine wpAnyH_ready (rs := [3]) (by kernel_rfl) (by simp) ?_
          refine AllReadyH.cons (by (simp only [List.getElem?_toArray, List.getElem?_cons_zero, List.getElem?_cons_succ]; exact rfl)) (fun K hK => ?_) AllReadyH.nil
          go_simp
          (go_at_call 13; refine (S0.out).mono ?_; rintro r w6 ⟨rfl, cc, tt⟩; replace AK := Lib.hid ((tt.keep Na NA.out.1 (Array.getElem?_eq_some_iff.1 AK.out).1).trans AK.out); have F2 := Lib.hid (fwd_rate IA.out.fw IA.out.hN cc (Turn.trans (Turn.of_below (Below.refl _ _).drew) tt)); have R2 := Lib.hid (tt.rclk R1.out IA.out.ne.symm); clear cc tt)
          go_wp2_with fail
          refine hK.out _ _ (blk_cell AK.out) (fun hHeld => ?_)
          clear hK K
          try simp only [Act.put, List.setIfInBounds_toArray, List.set_cons_zero, List.set_cons_succ]
          refine wpAnyH_ready (rs := [7]) (by kernel_rfl) (by simp) ?_
          refine AllReadyH.cons (by (simp only [List.getElem?_toArray, List.getElem?_cons_zero, List.getElem?_cons_succ]; exact rfl)) (fun K hK => ?_) AllReadyH.nil
          go_simp
          (go_at_call 14; refine (S1.out _ R2.out).mono ?_; rintro r w7 ⟨rfl, cc, tt⟩; replace AK := Lib.hid ((tt.keep Na NA.out.2 (Array.getElem?_eq_some_iff.1 AK.out).1).trans AK.out); have I2 := Lib.hid (⟨F2.out.turn tt IA.out.ne IA.out.hM, cc, IA.out.ne, IA.out.hN, IA.out.hM⟩ : Both w w7 N M (rateX x v) (q + 1)); clear cc tt)
          go_wp2_with fail
          refine hK.out _ _ (blk_cell AK.out) (fun hHeld => ?_)
          clear hK K
          try simp only [Act.put, List.setIfInBounds_toArray, List.set_cons_zero, List.set_cons_succ]
          refine wpAnyH_take (i := 8) (v := ?_) (by (simp only [List.getElem?_toArray, List.getElem?_cons_zero, List.getElem?_cons_succ]; exact rfl)) (by kernel_rfl) (by kernel_rfl) (by kernel_rfl) (by exact fun _ _ _ h => h) (Or.inl ⟨by rfl, ?_⟩) (by assumption) ?_
          rotate_left
          · (intro w hSw; (try dsimp only at hSw); first | (go_simp; done) | (go_simp; with_reducible rfl))
          try simp only [Act.put, List.setIfInBounds_toArray, List.set_cons_zero, List.set_cons_succ]
          refine wpAnyH_done (by kernel_rfl) ?_ _
          clear AK F2 R2 S0 S1 IA R1
          go_wp2_with fail
          go_meet
          exact ⟨N, rateX x v, rfl, I2.out⟩
        · have j1 : (k == 1) = false := by rw [beq_eq_false_iff_ne]; exact k1
          clear k1 QB
          by_cases k2 : k = 2
          · have j2 : (k == 2) = true := by rw [k2]; rfl
            clear k2
            as_aux_lemma =>
            clear AK NA b1
            have CP := Lib.hid (pcopy11_any v0 N x IA.out.fw.c)
            have GO := Lib.hid (fun w' c => pgo11_any w' N x 12345 c IA.out.fw.ok)
            have SR := Lib.hid (fun w' c => psetrate11_any w' N (goX x 12345) 7 c)
            go_wp2_with fail
            refine CP.out.mono ?_; rintro e w6 ⟨X, rfl, cX, hX, l⟩
            have nX : Hid (X ≠ N ∧ X ≠ M) := by have := IA.out.fw.c.lt; have := IA.out.r.lt; unfold Hid; omega
            have gX : Hid (w.heap.size ≤ X) := Nat.le_trans IA.out.fw.low.size hX
            replace cX := Lib.hid cX
            have I6 := Lib.hid (IA.out.below l)
            clear l hX CP
            go_wp2_with fail
            refine (GO.out w6 I6.out.fw.c).mono ?_; rintro e w7 ⟨rfl, cc, tt⟩
            replace cX := Lib.hid (tt.clk cX.out nX.out.1)
            have r7 := Lib.hid (tt.rclk I6.out.r I6.out.ne.symm)
            have l7 := Lib.hid (tt.below I6.out.fw.low I6.out.hN)
            have cN := Lib.hid cc
            clear cc tt GO
            go_wp2_with fail
            refine (SR.out w7 cN.out).mono ?_; rintro e w8 ⟨rfl, cc, tt⟩
            have I2 : Hid (Both w w8 X M x (q + 1)) := (⟨⟨tt.clk cX.out nX.out.1, I6.out.fw.ok, I6.out.fw.f, I6.out.fw.r, I6.out.fw.m, tt.below l7.out I6.out.hN⟩, tt.rclk r7.out I6.out.ne.symm, nX.out.2, gX.out, I6.out.hM⟩ : Both w w8 X M x q).more
            clear cc tt SR cN l7 r7 cX I6 IA
            go_wp2_with fail
            go_meet
            exact ⟨X, x, rfl, I2.out⟩
          · have j2 : (k == 2) = false := by rw [beq_eq_false_iff_ne]; exact k2
            clear k2 AK NA b1
            have I2 := Lib.hid IA.out.more
            go_wp2_with fail
            go_meet
            exact ⟨N, x, rfl, I2.out⟩
    case rest =>
    obtain ⟨N2, y, rfl, I⟩ := hcut
    clear AK NA b0 b1 IA QB
    as_aux_lemma =>
    obtain ⟨m, hMM⟩ : ∃ a, y.mono = a := ⟨_, rfl⟩
    obtain ⟨u, hRW⟩ : ∃ a, y.raw = a := ⟨_, rfl⟩
    obtain ⟨rr, hRT⟩ : ∃ a, y.rate = a := ⟨_, rfl⟩
    have hFU := I.out.fw.f
    have MM : Hid (∀ w', Below wc.heap.size wc w' → Calls Try.prog 16 #[.pointer (some ⟨N2, 0, none⟩)] w' fun e w'' => e = .returned (.int .i64 m) ∧ Below wc.heap.size wc w'') := fun w' b => by
      have h := pmono11_any w' N2 y (I.out.fw.c.below b)
      rw [hMM] at h
      exact h.mono fun e w'' ⟨a, l⟩ => ⟨a, b.trans (l.mono b.size)⟩
    have RW : Hid (∀ w', Below wc.heap.size wc w' → Calls Try.prog 17 #[.pointer (some ⟨N2, 0, none⟩)] w' fun e w'' => e = .returned (.int .i64 u) ∧ Below wc.heap.size wc w'') := fun w' b => by
      have h := praw11_any w' N2 y (I.out.fw.c.below b)
      rw [hRW] at h
      exact h.mono fun e w'' ⟨a, l⟩ => ⟨a, b.trans (l.mono b.size)⟩
    have RT : Hid (∀ w', Below wc.heap.size wc w' → Calls Try.prog 18 #[.pointer (some ⟨N2, 0, none⟩)] w' fun e w'' => e = .returned (.int .i64 rr) ∧ Below wc.heap.size wc w'') := fun w' b => by
      have h := prate11_any w' N2 y (I.out.fw.c.below b)
      rw [hRT] at h
      exact h.mono fun e w'' ⟨a, l⟩ => ⟨a, b.trans (l.mono b.size)⟩
    have FU : Hid (∀ w', Below wc.heap.size wc w' → Calls Try.prog 19 #[.pointer (some ⟨N2, 0, none⟩)] w' fun e w'' => e = .returned (.bool false) ∧ Below wc.heap.size wc w'') := fun w' b => by
      have h := pfull11_any w' N2 y (I.out.fw.c.below b)
      rw [hFU] at h
      exact h.mono fun e w'' ⟨a, l⟩ => ⟨a, b.trans (l.mono b.size)⟩
    have KM : Hid (∀ w', Below wc.heap.size wc w' → w'.cell? ⟨M, 0, none⟩ = some (.int .i64 u) ∧ w'.cell? ⟨M, 1, none⟩ = some (.int .i64 m) ∧ w'.cell? ⟨M, 2, none⟩ = some (.int .i64 rr) ∧ w'.cell? ⟨M, 4, none⟩ = some (.bool false)) := fun w' b => by
      have h := I.out.r.below b
      unfold RClk at h
      rw [hMM, hRW, hRT, hFU] at h
      exact ⟨blk_cell h, blk_cell h, blk_cell h, blk_cell h⟩
    have mm : (m != m) = false := by simp
    have uu : (u != u) = false := by simp
    have tt : (rr != rr) = false := by simp
    have HB0 : Below wc.heap.size wc wc := Below.refl _ _
    clear hMM hRW hRT hFU
    go_wp2_with fail
    refine wp_region_held_drew (S := fun w' => w'.cell? ⟨M, 0, none⟩ = some (.int .i64 u) ∧ w'.cell? ⟨M, 1, none⟩ = some (.int .i64 m) ∧ w'.cell? ⟨M, 2, none⟩ = some (.int .i64 rr) ∧ w'.cell? ⟨M, 4, none⟩ = some (.bool false)) (by kernel_rfl) (KM.out _ HB0.drew) (fun hHeld => ?_)
    refine wpAnyH_take (i := 0) (v := ?_) (by (simp only [List.getElem?_toArray, List.getElem?_cons_zero]; exact rfl)) (by kernel_rfl) (by kernel_rfl) (by kernel_rfl) (by exact fun _ _ _ h => h) (Or.inl ⟨by rfl, ?_⟩) (by assumption) ?_
    rotate_left
    · (intro w hSw; (try dsimp only at hSw); first | (go_simp; done) | (go_simp; with_reducible rfl))
    try simp only [Act.put, List.setIfInBounds_toArray, List.set_cons_zero, List.set_cons_succ]
    refine wpAnyH_take (i := 2) (v := ?_) (by (simp only [List.getElem?_toArray, List.getElem?_cons_zero, List.getElem?_cons_succ]; exact rfl)) (by kernel_rfl) (by kernel_rfl) (by kernel_rfl) (by exact fun _ _ _ h => h) (Or.inl ⟨by rfl, ?_⟩) (by assumption) ?_
    rotate_left
    · (intro w hSw; (try dsimp only at hSw); first | (go_simp; done) | (go_simp; with_reducible rfl))
    try simp only [Act.put, List.setIfInBounds_toArray, List.set_cons_zero, List.set_cons_succ]
    refine wpAnyH_take (i := 3) (v := ?_) (by (simp only [List.getElem?_toArray, List.getElem?_cons_zero, List.getElem?_cons_succ]; exact rfl)) (by kernel_rfl) (by kernel_rfl) (by kernel_rfl) (by exact fun _ _ _ h => h) (Or.inl ⟨by rfl, ?_⟩) (by assumption) ?_
    rotate_left
    · (intro w hSw; (try dsimp only at hSw); first | (go_simp; done) | (go_simp; with_reducible rfl))
    try simp only [Act.put, List.setIfInBounds_toArray, List.set_cons_zero, List.set_cons_succ]
    refine wpAnyH_take (i := 4) (v := ?_) (by (simp only [List.getElem?_toArray, List.getElem?_cons_zero, List.getElem?_cons_succ]; exact rfl)) (by kernel_rfl) (by kernel_rfl) (by kernel_rfl) (by exact fun _ _ _ h => h) (Or.inl ⟨by rfl, ?_⟩) (by assumption) ?_
    rotate_left
    · (intro w hSw; (try dsimp only at hSw); first | (go_simp; done) | (go_simp; with_reducible rfl))
    try simp only [Act.put, List.setIfInBounds_toArray, List.set_cons_zero, List.set_cons_succ]
    refine wpAnyH_take (i := 5) (v := ?_) (by (simp only [List.getElem?_toArray, List.getElem?_cons_zero, List.getElem?_cons_succ]; exact rfl)) (by kernel_rfl) (by kernel_rfl) (by kernel_rfl) (by exact fun _ _ _ h => h) (Or.inl ⟨by rfl, ?_⟩) (by assumption) ?_
    rotate_left
    · (intro w hSw; (try dsimp only at hSw); first | (go_simp; done) | (go_simp; with_reducible rfl))
    try simp only [Act.put, List.setIfInBounds_toArray, List.set_cons_zero, List.set_cons_succ]
    refine wpAnyH_ready (rs := [1]) (by kernel_rfl) (by simp) ?_
    refine AllReadyH.cons (by (simp only [List.getElem?_toArray, List.getElem?_cons_zero, List.getElem?_cons_succ]; exact rfl)) (fun K hK => ?_) AllReadyH.nil
    go_simp
    (go_at_call 16; refine (MM.out _ (by first | exact HB0 | exact HB0.drew)).mono ?_; rintro e w8 ⟨rfl, HB0⟩)
    go_wp2_with fail
    refine hK.out _ _ (KM.out _ HB0) (fun hHeld => ?_)
    clear hK K
    try simp only [Act.put, List.setIfInBounds_toArray, List.set_cons_zero, List.set_cons_succ]
    refine wpAnyH_take (i := 6) (v := ?_) (by (simp only [List.getElem?_toArray, List.getElem?_cons_zero, List.getElem?_cons_succ]; exact rfl)) (by kernel_rfl) (by kernel_rfl) (by kernel_rfl) (by exact fun _ _ _ h => h) (Or.inl ⟨by rfl, ?_⟩) (by assumption) ?_
    rotate_left
    · (intro w hSw; (try dsimp only at hSw); first | (go_simp; done) | (go_simp; with_reducible rfl))
    try simp only [Act.put, List.setIfInBounds_toArray, List.set_cons_zero, List.set_cons_succ]
    refine wpAnyH_take (i := 7) (v := ?_) (by (simp only [List.getElem?_toArray, List.getElem?_cons_zero, List.getElem?_cons_succ]; exact rfl)) (by kernel_rfl) (by kernel_rfl) (by kernel_rfl) (by exact fun _ _ _ h => h) (Or.inl ⟨by rfl, ?_⟩) (by assumption) ?_
    rotate_left
    · (intro w hSw; (try dsimp only at hSw); first | (go_simp; done) | (go_simp; with_reducible rfl))
    try simp only [Act.put, List.setIfInBounds_toArray, List.set_cons_zero, List.set_cons_succ]
    refine wpAnyH_take (i := 8) (v := ?_) (by (simp only [List.getElem?_toArray, List.getElem?_cons_zero, List.getElem?_cons_succ]; exact rfl)) (by kernel_rfl) (by kernel_rfl) (by kernel_rfl) (by exact fun _ _ _ h => h) (Or.inl ⟨by rfl, ?_⟩) (by assumption) ?_
    rotate_left
    · (intro w hSw; (try dsimp only at hSw); first | (go_simp; done) | (go_simp; with_reducible rfl))
    try simp only [Act.put, List.setIfInBounds_toArray, List.set_cons_zero, List.set_cons_succ]
    refine wpAnyH_take (i := 10) (v := ?_) (by (simp only [List.getElem?_toArray, List.getElem?_cons_zero, List.getElem?_cons_succ]; exact rfl)) (by kernel_rfl) (by kernel_rfl) (by kernel_rfl) (by exact fun _ _ _ h => h) (Or.inl ⟨by rfl, ?_⟩) (by assumption) ?_
    rotate_left
    · (intro w hSw; (try dsimp only at hSw); first | (go_simp; done) | (go_simp; with_reducible rfl))
    try simp only [Act.put, List.setIfInBounds_toArray, List.set_cons_zero, List.set_cons_succ]
    refine wpAnyH_take (i := 11) (v := ?_) (by (simp only [List.getElem?_toArray, List.getElem?_cons_zero, List.getElem?_cons_succ]; exact rfl)) (by kernel_rfl) (by kernel_rfl) (by kernel_rfl) (by exact fun _ _ _ h => h) (Or.inl ⟨by rfl, ?_⟩) (by assumption) ?_
    rotate_left
    · (intro w hSw; (try dsimp only at hSw); first | (go_simp; done) | (go_simp; with_reducible rfl))
    try simp only [Act.put, List.setIfInBounds_toArray, List.set_cons_zero, List.set_cons_succ]
    refine wpAnyH_take (i := 12) (v := ?_) (by (simp only [List.getElem?_toArray, List.getElem?_cons_zero, List.getElem?_cons_succ]; exact rfl)) (by kernel_rfl) (by kernel_rfl) (by kernel_rfl) (by exact fun _ _ _ h => h) (Or.inl ⟨by rfl, ?_⟩) (by assumption) ?_
    rotate_left
    · (intro w hSw; (try dsimp only at hSw); first | (go_simp; done) | (go_simp; with_reducible rfl))
    try simp only [Act.put, List.setIfInBounds_toArray, List.set_cons_zero, List.set_cons_succ]
    refine wpAnyH_take (i := 13) (v := ?_) (by (simp only [List.getElem?_toArray, List.getElem?_cons_zero, List.getElem?_cons_succ]; exact rfl)) (by kernel_rfl) (by kernel_rfl) (by kernel_rfl) (by exact fun _ _ _ h => h) (Or.inl ⟨by rfl, ?_⟩) (by assumption) ?_
    rotate_left
    · (intro w hSw; (try dsimp only at hSw); first | (go_simp; done) | (go_simp; with_reducible rfl))
    try simp only [Act.put, List.setIfInBounds_toArray, List.set_cons_zero, List.set_cons_succ]
    refine wpAnyH_ready (rs := [9]) (by kernel_rfl) (by simp) ?_
    refine AllReadyH.cons (by (simp only [List.getElem?_toArray, List.getElem?_cons_zero, List.getElem?_cons_succ]; exact rfl)) (fun K hK => ?_) AllReadyH.nil
    go_simp
    (go_at_call 17; refine (RW.out _ (by first | exact HB0 | exact HB0.drew)).mono ?_; rintro e w8 ⟨rfl, HB0⟩)
    go_wp2_with fail
    refine hK.out _ _ (KM.out _ HB0) (fun hHeld => ?_)
    clear hK K
    try simp only [Act.put, List.setIfInBounds_toArray, List.set_cons_zero, List.set_cons_succ]
    refine wpAnyH_take (i := 14) (v := ?_) (by (simp only [List.getElem?_toArray, List.getElem?_cons_zero, List.getElem?_cons_succ]; exact rfl)) (by kernel_rfl) (by kernel_rfl) (by kernel_rfl) (by exact fun _ _ _ h => h) (Or.inl ⟨by rfl, ?_⟩) (by assumption) ?_
    rotate_left
    · (intro w hSw; (try dsimp only at hSw); first | (go_simp; done) | (go_simp; with_reducible rfl))
    try simp only [Act.put, List.setIfInBounds_toArray, List.set_cons_zero, List.set_cons_succ]
    refine wpAnyH_take (i := 15) (v := ?_) (by (simp only [List.getElem?_toArray, List.getElem?_cons_zero, List.getElem?_cons_succ]; exact rfl)) (by kernel_rfl) (by kernel_rfl) (by kernel_rfl) (by exact fun _ _ _ h => h) (Or.inl ⟨by rfl, ?_⟩) (by assumption) ?_
    rotate_left
    · (intro w hSw; (try dsimp only at hSw); first | (go_simp; done) | (go_simp; with_reducible rfl))
    try simp only [Act.put, List.setIfInBounds_toArray, List.set_cons_zero, List.set_cons_succ]
    refine wpAnyH_take (i := 16) (v := ?_) (by (simp only [List.getElem?_toArray, List.getElem?_cons_zero, List.getElem?_cons_succ]; exact rfl)) (by kernel_rfl) (by kernel_rfl) (by kernel_rfl) (by exact fun _ _ _ h => h) (Or.inl ⟨by rfl, ?_⟩) (by assumption) ?_
    rotate_left
    · (intro w hSw; (try dsimp only at hSw); first | (go_simp; done) | (go_simp; with_reducible rfl))
    try simp only [Act.put, List.setIfInBounds_toArray, List.set_cons_zero, List.set_cons_succ]
    refine wpAnyH_take (i := 17) (v := ?_) (by (simp only [List.getElem?_toArray, List.getElem?_cons_zero, List.getElem?_cons_succ]; exact rfl)) (by kernel_rfl) (by kernel_rfl) (by kernel_rfl) (by exact fun _ _ _ h => h) (Or.inl ⟨by rfl, ?_⟩) (by assumption) ?_
    rotate_left
    · (intro w hSw; (try dsimp only at hSw); first | (go_simp; done) | (go_simp; with_reducible rfl))
    try simp only [Act.put, List.setIfInBounds_toArray, List.set_cons_zero, List.set_cons_succ]
    refine wpAnyH_take (i := 19) (v := ?_) (by (simp only [List.getElem?_toArray, List.getElem?_cons_zero, List.getElem?_cons_succ]; exact rfl)) (by kernel_rfl) (by kernel_rfl) (by kernel_rfl) (by exact fun _ _ _ h => h) (Or.inl ⟨by rfl, ?_⟩) (by assumption) ?_
    rotate_left
    · (intro w hSw; (try dsimp only at hSw); first | (go_simp; done) | (go_simp; with_reducible rfl))
    try simp only [Act.put, List.setIfInBounds_toArray, List.set_cons_zero, List.set_cons_succ]
    refine wpAnyH_take (i := 20) (v := ?_) (by (simp only [List.getElem?_toArray, List.getElem?_cons_zero, List.getElem?_cons_succ]; exact rfl)) (by kernel_rfl) (by kernel_rfl) (by kernel_rfl) (by exact fun _ _ _ h => h) (Or.inl ⟨by rfl, ?_⟩) (by assumption) ?_
    rotate_left
    · (intro w hSw; (try dsimp only at hSw); first | (go_simp; done) | (go_simp; with_reducible rfl))
    try simp only [Act.put, List.setIfInBounds_toArray, List.set_cons_zero, List.set_cons_succ]
    refine wpAnyH_take (i := 21) (v := ?_) (by (simp only [List.getElem?_toArray, List.getElem?_cons_zero, List.getElem?_cons_succ]; exact rfl)) (by kernel_rfl) (by kernel_rfl) (by kernel_rfl) (by exact fun _ _ _ h => h) (Or.inl ⟨by rfl, ?_⟩) (by assumption) ?_
    rotate_left
    · (intro w hSw; (try dsimp only at hSw); first | (go_simp; done) | (go_simp; with_reducible rfl))
    try simp only [Act.put, List.setIfInBounds_toArray, List.set_cons_zero, List.set_cons_succ]
    refine wpAnyH_take (i := 22) (v := ?_) (by (simp only [List.getElem?_toArray, List.getElem?_cons_zero, List.getElem?_cons_succ]; exact rfl)) (by kernel_rfl) (by kernel_rfl) (by kernel_rfl) (by exact fun _ _ _ h => h) (Or.inl ⟨by rfl, ?_⟩) (by assumption) ?_
    rotate_left
    · (intro w hSw; (try dsimp only at hSw); first | (go_simp; done) | (go_simp; with_reducible rfl))
    try simp only [Act.put, List.setIfInBounds_toArray, List.set_cons_zero, List.set_cons_succ]
    refine wpAnyH_ready (rs := [18]) (by kernel_rfl) (by simp) ?_
    refine AllReadyH.cons (by (simp only [List.getElem?_toArray, List.getElem?_cons_zero, List.getElem?_cons_succ]; exact rfl)) (fun K hK => ?_) AllReadyH.nil
    go_simp
    (go_at_call 18; refine (RT.out _ (by first | exact HB0 | exact HB0.drew)).mono ?_; rintro e w8 ⟨rfl, HB0⟩)
    go_wp2_with fail
    refine hK.out _ _ (KM.out _ HB0) (fun hHeld => ?_)
    clear hK K
    try simp only [Act.put, List.setIfInBounds_toArray, List.set_cons_zero, List.set_cons_succ]
    refine wpAnyH_take (i := 23) (v := ?_) (by (simp only [List.getElem?_toArray, List.getElem?_cons_zero, List.getElem?_cons_succ]; exact rfl)) (by kernel_rfl) (by kernel_rfl) (by kernel_rfl) (by exact fun _ _ _ h => h) (Or.inl ⟨by rfl, ?_⟩) (by assumption) ?_
    rotate_left
    · (intro w hSw; (try dsimp only at hSw); first | (go_simp; done) | (go_simp; with_reducible rfl))
    try simp only [Act.put, List.setIfInBounds_toArray, List.set_cons_zero, List.set_cons_succ]
    refine wpAnyH_take (i := 24) (v := ?_) (by (simp only [List.getElem?_toArray, List.getElem?_cons_zero, List.getElem?_cons_succ]; exact rfl)) (by kernel_rfl) (by kernel_rfl) (by kernel_rfl) (by exact fun _ _ _ h => h) (Or.inl ⟨by rfl, ?_⟩) (by assumption) ?_
    rotate_left
    · (intro w hSw; (try dsimp only at hSw); first | (go_simp; done) | (go_simp; with_reducible rfl))
    try simp only [Act.put, List.setIfInBounds_toArray, List.set_cons_zero, List.set_cons_succ]
    refine wpAnyH_take (i := 25) (v := ?_) (by (simp only [List.getElem?_toArray, List.getElem?_cons_zero, List.getElem?_cons_succ]; exact rfl)) (by kernel_rfl) (by kernel_rfl) (by kernel_rfl) (by exact fun _ _ _ h => h) (Or.inl ⟨by rfl, ?_⟩) (by assumption) ?_
    rotate_left
    · (intro w hSw; (try dsimp only at hSw); first | (go_simp; done) | (go_simp; with_reducible rfl))
    try simp only [Act.put, List.setIfInBounds_toArray, List.set_cons_zero, List.set_cons_succ]
    refine wpAnyH_take (i := 26) (v := ?_) (by (simp only [List.getElem?_toArray, List.getElem?_cons_zero, List.getElem?_cons_succ]; exact rfl)) (by kernel_rfl) (by kernel_rfl) (by kernel_rfl) (by exact fun _ _ _ h => h) (Or.inl ⟨by rfl, ?_⟩) (by assumption) ?_
    rotate_left
    · (intro w hSw; (try dsimp only at hSw); first | (go_simp; done) | (go_simp; with_reducible rfl))
    try simp only [Act.put, List.setIfInBounds_toArray, List.set_cons_zero, List.set_cons_succ]
    refine wpAnyH_take (i := 28) (v := ?_) (by (simp only [List.getElem?_toArray, List.getElem?_cons_zero, List.getElem?_cons_succ]; exact rfl)) (by kernel_rfl) (by kernel_rfl) (by kernel_rfl) (by exact fun _ _ _ h => h) (Or.inl ⟨by rfl, ?_⟩) (by assumption) ?_
    rotate_left
    · (intro w hSw; (try dsimp only at hSw); first | (go_simp; done) | (go_simp; with_reducible rfl))
    try simp only [Act.put, List.setIfInBounds_toArray, List.set_cons_zero, List.set_cons_succ]
    refine wpAnyH_take (i := 29) (v := ?_) (by (simp only [List.getElem?_toArray, List.getElem?_cons_zero, List.getElem?_cons_succ]; exact rfl)) (by kernel_rfl) (by kernel_rfl) (by kernel_rfl) (by exact fun _ _ _ h => h) (Or.inl ⟨by rfl, ?_⟩) (by assumption) ?_
    rotate_left
    · (intro w hSw; (try dsimp only at hSw); first | (go_simp; done) | (go_simp; with_reducible rfl))
    try simp only [Act.put, List.setIfInBounds_toArray, List.set_cons_zero, List.set_cons_succ]
    refine wpAnyH_take (i := 30) (v := ?_) (by (simp only [List.getElem?_toArray, List.getElem?_cons_zero, List.getElem?_cons_succ]; exact rfl)) (by kernel_rfl) (by kernel_rfl) (by kernel_rfl) (by exact fun _ _ _ h => h) (Or.inl ⟨by rfl, ?_⟩) (by assumption) ?_
    rotate_left
    · (intro w hSw; (try dsimp only at hSw); first | (go_simp; done) | (go_simp; with_reducible rfl))
    try simp only [Act.put, List.setIfInBounds_toArray, List.set_cons_zero, List.set_cons_succ]
    refine wpAnyH_take (i := 31) (v := ?_) (by (simp only [List.getElem?_toArray, List.getElem?_cons_zero, List.getElem?_cons_succ]; exact rfl)) (by kernel_rfl) (by kernel_rfl) (by kernel_rfl) (by exact fun _ _ _ h => h) (Or.inl ⟨by rfl, ?_⟩) (by assumption) ?_
    rotate_left
    · (intro w hSw; (try dsimp only at hSw); first | (go_simp; done) | (go_simp; with_reducible rfl))
    try simp only [Act.put, List.setIfInBounds_toArray, List.set_cons_zero, List.set_cons_succ]
    refine wpAnyH_ready (rs := [27]) (by kernel_rfl) (by simp) ?_
    refine AllReadyH.cons (by (simp only [List.getElem?_toArray, List.getElem?_cons_zero, List.getElem?_cons_succ]; exact rfl)) (fun K hK => ?_) AllReadyH.nil
    go_simp
    (go_at_call 19; refine (FU.out _ (by first | exact HB0 | exact HB0.drew)).mono ?_; rintro e w8 ⟨rfl, HB0⟩)
    go_wp2_with fail
    refine hK.out _ _ (KM.out _ HB0) (fun hHeld => ?_)
    clear hK K
    try simp only [Act.put, List.setIfInBounds_toArray, List.set_cons_zero, List.set_cons_succ]
    refine wpAnyH_take (i := 32) (v := ?_) (by (simp only [List.getElem?_toArray, List.getElem?_cons_zero, List.getElem?_cons_succ]; exact rfl)) (by kernel_rfl) (by kernel_rfl) (by kernel_rfl) (by exact fun _ _ _ h => h) (Or.inl ⟨by rfl, ?_⟩) (by assumption) ?_
    rotate_left
    · (intro w hSw; (try dsimp only at hSw); first | (go_simp; done) | (go_simp; with_reducible rfl))
    try simp only [Act.put, List.setIfInBounds_toArray, List.set_cons_zero, List.set_cons_succ]
    refine wpAnyH_take (i := 33) (v := ?_) (by (simp only [List.getElem?_toArray, List.getElem?_cons_zero, List.getElem?_cons_succ]; exact rfl)) (by kernel_rfl) (by kernel_rfl) (by kernel_rfl) (by exact fun _ _ _ h => h) (Or.inl ⟨by rfl, ?_⟩) (by assumption) ?_
    rotate_left
    · (intro w hSw; (try dsimp only at hSw); first | (go_simp; done) | (go_simp; with_reducible rfl))
    try simp only [Act.put, List.setIfInBounds_toArray, List.set_cons_zero, List.set_cons_succ]
    refine wpAnyH_done (by kernel_rfl) ?_ _
    have I2 := Lib.hid (I.out.below HB0)
    clear HB0 MM RW RT FU KM I mm uu tt
    go_wp2
    go_roundw
    case rel => exact ⟨N2, q + 1, y, rfl, by go_num, NB.out, I2.out⟩
    case measure => simp [intOf]; omega
end Go.Proofs.Ytogkjgglpokkaaa
