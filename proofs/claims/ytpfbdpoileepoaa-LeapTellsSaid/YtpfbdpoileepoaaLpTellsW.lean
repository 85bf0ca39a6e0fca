/- LeapTells, the walk, over LCode (by tools/genlptells.py). -/
import Derived.Test.YtpfbdpoileepoaaLpK
import Derived.BigRegion
import Derived.Deep.RegionHeld3
import Derived.Deep.DeepCutAuto
import Derived.Deep.CutBlock
import Derived.Deep.CutRange
set_option maxRecDepth 100000
namespace Go.Proofs.Ytpfbdpoileepoaa
open Go.ChangeShapes Go.WideShapes Go.ChangeAt Go.RowKit SmM

theorem wrap_any (x : Int) : ∃ t, IntKind.i64.wrap x = t ∧ wrap64 x = t ∧ I64 t :=
  ⟨_, rfl, by rw [IntKind.wrap_i64]; unfold wrap64; omega, by rw [IntKind.wrap_i64]; unfold I64; omega⟩
theorem times_m {r : Nat} (h : r < 3) : IntKind.i64.wrap ((r : Int) * 1000) = (r : Int) * 1000 ∧ wrap64 ((r : Int) * 1000) = (r : Int) * 1000 := by
  have := wr16 (x := (r : Int) * 1000) (by unfold I64; omega)
  exact ⟨this.2, this.1⟩
set_option maxHeartbeats 8000000 in
theorem tells16_core (C : LCode) (w : World) (p : Option Addr) (n c m : Nat) (l : List Lp) (EM : min (n : Int) 40 = (m : Int)) (mc : (m : Int) ≤ (c : Int)) (h : HoldsL w p m c l) (bare : p = none → c = 0) (hi : ∀ y ∈ l, I64 y.t ∧ I64 y.k) (e b : Int) (he : I64 e) (hb : I64 b)
    (q : Option Addr) (k d : Nat) (zs : List Int) (ht : Holds w q k d (valsI .i64 zs)) (hz : ∀ z ∈ zs, I64 z)
    (p2 : Option Addr) (n2 c2 : Nat) (l2 : List Lp) (h2 : HoldsL w p2 n2 c2 l2) (hi2 : ∀ y ∈ l2, I64 y.t ∧ I64 y.k) :
    Calls Try.prog 3 #[.slice p n c, .int .i64 e, .int .i64 b, .slice q k d, .slice p2 n2 c2] w fun r w' => r = .returned (.bool true) ∧ Below w.heap.size w w' := by
  have EI : (if (40 : Int) < (n : Int) then (40 : Int) else (n : Int)) = (m : Int) := by split <;> omega
  have m0 : (0 : Int) ≤ (m : Int) := by omega
  have m40 : (m : Int) ≤ 40 := by omega
  have AW := Lib.hid (alive16 C)
  have HL := Lib.hid h
  have HT := Lib.hid ht
  have H2 := Lib.hid h2
  have HI := Lib.hid hi
  have HEB : Hid (I64 e ∧ I64 b) := ⟨he, hb⟩
  have HM := Lib.hid h.len
  have BR := Lib.hid bare
  have HZ : Hid (∀ i, i < k → I64 (zs.getD i 0)) := fun i hk => by
    have ln := ht.len
    rw [valsI_len] at ln
    rw [List.getD_eq_getElem?_getD, List.getElem?_eq_getElem (by omega)]
    exact hz _ (List.getElem_mem _)
  have HI2 : Hid (∀ i, i < n2 → I64 (gl l2 i).t ∧ I64 (gl l2 i).k) := fun i hk => by
    rw [gl_of (by rw [h2.len]; exact hk)]
    exact hi2 _ (List.getElem_mem _)
  have kb : (k : Int) ≤ 9223372036854775807 := by have := ht.cap; have := ht.max; unfold maxLen at this; omega
  have nb2 : (n2 : Int) ≤ 9223372036854775807 := by have := h2.cap; have := h2.max; unfold maxLen at this; omega
  have NO : Hid (w.ownsRow w.heap.size 33 2 (.slice none 0 0) 0 (cellsL [])) := ⟨rfl, .inl ⟨rfl, rfl⟩⟩
  clear h hi ht hz h2 hi2 he hb bare
  go_enter Try.func3, Try.ntmps3
  go_upto_region 2 with fail
  clear EI EM mc
  go_wp2_with (at_builtin; refine append_lps rfl _ _ rfl w.heap.size (.slice none 0 0) 0 [] rfl NO.out p m c l rfl HL.out BR.out (by omega) (Nat.le_refl _) ?_)
  intro p1 c1 w1 o1 g1
  have o1' : OwnL w1 w.heap.size p1 m c1 l := o1
  have b1 : Below w.heap.size w w1 := (Below.refl _ _).grown g1 (Nat.le_refl _) (fun j hj => (World.ownsRow.lt NO.out j hj).1)
  have O1 := Lib.hid o1'
  have L1 := Lib.hid b1
  have NW := Lib.hid (C.new e b o1'.holds HI.out HEB.out.1 HEB.out.2)
  clear o1 o1' g1 b1 NO
  go_wp2_with fail
  refine NW.out.mono ?_; rintro r2 w2 ⟨b2, hc⟩
  have B2 := Lib.hid b2
  have L2 := Lib.hid (L1.out.trans (b2.mono L1.out.size))
  have RN := Lib.hid (rnew16 w2 p m c l (HL.out.below L2.out) BR.out HI.out e b)
  clear b2 NW
  rcases hc with ⟨ok, N, F, rfl, t2, f2⟩ | ⟨x, nx, x0, rfl⟩
  · have T2 := Lib.hid t2
    have F2 := Lib.hid f2
    have OK := Lib.hid ok
    clear t2 f2 ok
    go_wp2_with fail
    refine RN.out.mono ?_; rintro r3 w3 ⟨b3, hc⟩
    have NE : Hid (∀ x, NewT l e b x → x ≠ 0 → False) := fun x h hx => hx (newT_one h (.inr ⟨OK.out.2.1, .inr ⟨rfl, OK.out⟩⟩))
    rcases hc with ⟨-, M, p5, c5, rfl, q3, mM, ba3, aw3⟩ | ⟨x, nx, x0, -⟩
    rotate_left
    · exact (NE.out x nx x0).elim
    have S3 : Hid (TlS C w1.heap.size w3 N M l e b) := TlS.new B2.out.size T2.out F2.out b3 q3 mM ba3 aw3
    have B3 := Lib.hid (B2.out.trans (b3.mono B2.out.size))
    have L3 := Lib.hid (L2.out.trans (b3.mono L2.out.size))
    clear b3 q3 mM ba3 aw3 T2 F2 OK NE RN B2 L2
    have RW := Lib.hid (O1.out.rws B3.out)
    clear O1 B3
    go_wp2_with fail
    go_loopw [16] (fun ii wr => ∃ i : Nat, ii = .int .i64 (i : Nat) ∧ Hid (i ≤ m) ∧ Hid (RwS w.heap.size w1.heap.size w3 wr p1 m)) (fun ii _ => 1000 - (intOf ii).toNat)
    case atStart => exact ⟨0, rfl, Nat.zero_le _, RW⟩
    case round =>
      obtain ⟨i, rfl, I, R⟩ := hrel
      have i0 : (0 : Int) ≤ (i : Int) := by omega
      by_cases y : i < m
      · have y1 : (i : Int) < (m : Int) := by omega
        obtain ⟨a, rfl, ⟨x, cx⟩, -, fz, -, st, -⟩ := R.out.at y
        have R2 := st 5
        obtain ⟨a', ha', -, ⟨x', cx'⟩, -, fz', -, st'⟩ := R2.at y
        injection ha' with ha'
        subst ha'
        have NX : Hid (i + 1 ≤ m) := y
        have ST := Lib.hid st'
        clear y I st R RW st' R2
        go_wp2_with fail
        go_roundw
        case rel => exact ⟨i + 1, by go_num, NX, ST.out _⟩
        case measure => simp [intOf]; omega
      · have y1 : (m : Int) ≤ (i : Int) := by omega
        have y2 : decide ((i : Int) < (m : Int)) = false := decide_eq_false (by omega)
        obtain ⟨w4, rfl⟩ : ∃ w4, w4 = wr := ⟨_, rfl⟩
        have S4 : Hid (TlS C w.heap.size w4 N M l e b) := (S3.out.far fun K hK hl => R.out.far K hK hl).base L1.out.size
        have L4 := Lib.hid (L3.out.trans R.out.low)
        clear y I R RW S3 L3
        go_wp2_with fail
        rw [show decide (i < m) = false from decide_eq_false (by omega)]
        clear y1 y2 i0
        go_loopw [17] (fun ii wr => ∃ (i : Nat) (l' : List Lp) (e' : Int), ii = .int .i64 (i : Nat) ∧ Hid (i ≤ n2 ∧ i ≤ 6) ∧ Hid (TlS C w.heap.size wr N M l' e' b) ∧ Hid (Below w.heap.size w wr)) (fun ii _ => 1000 - (intOf ii).toNat)
        case atStart => exact ⟨0, l, e, rfl, ⟨Nat.zero_le _, Nat.zero_le _⟩, S4, L4⟩
        case round =>
          obtain ⟨i, l', e', rfl, I, S, L⟩ := hrel
          clear S4 L4
          obtain ⟨w5, rfl⟩ : ∃ w5, w5 = wr := ⟨_, rfl⟩
          have i0 : (0 : Int) ≤ (i : Int) := by omega
          have i1 : (i : Int) ≤ (n2 : Int) := by have := I.out.1; omega
          have i2 : decide ((i : Int) ≤ (n2 : Int)) = true := decide_eq_true i1
          have i3 : (i : Int) ≤ 6 := by have := I.out.2; omega
          have i4 : decide ((i : Int) ≤ 6) = true := decide_eq_true i3
          have SA : Hid (∀ w' x y, Below w5.heap.size w5 w' → Calls Try.prog 13 #[.pointer (some ⟨N, 0, none⟩), .pointer (some ⟨M, 0, none⟩), .int .i64 x, .int .i64 y] w' fun r w'' => r = .returned (.bool true) ∧ Below w5.heap.size w5 w'') := fun w' x y k =>
            ((S.out.below k).sames x y).mono fun r w'' ⟨a, b⟩ => ⟨a, k.trans (b.mono k.size)⟩
          go_upto_block 4 with fail
          go_cut [18] from 81 to 106 (fun _ wx => Hid (Below w5.heap.size w5 wx))
          case first =>
            go_wp2_with fail
            go_loopw [18] (fun jj wr => ∃ j : Nat, jj = .int .i64 (j : Nat) ∧ Hid (j ≤ k ∧ j ≤ 6) ∧ Hid (Below w5.heap.size w5 wr)) (fun jj _ => 1000 - (intOf jj).toNat)
            case atStart => exact ⟨0, rfl, ⟨Nat.zero_le _, Nat.zero_le _⟩, Below.refl _ _⟩
            case round =>
              clear i1 i2 i3 i4 i0
              obtain ⟨j, rfl, J, K⟩ := hrel
              have j0 : (0 : Int) ≤ (j : Int) := by omega
              have j6 : (j : Int) ≤ 6 := by have := J.out.2; omega
              have stop : (k ≤ j) ∨ (j < k ∧ j = 6) ∨ (j < k ∧ j < 6) := by have := J.out; omega
              rcases stop with z | ⟨z, z'⟩ | ⟨z, z'⟩
              · have z1 : (k : Int) ≤ (j : Int) := by omega
                have z2 : decide ((j : Int) < (k : Int)) = false := decide_eq_false (by omega)
                clear z J
                go_wp2_with fail
                go_meet
                exact K
              · have z1 : (j : Int) < (k : Int) := by omega
                have z2 : decide ((j : Int) < (k : Int)) = true := decide_eq_true z1
                have z3 : decide ((j : Int) < 6) = false := decide_eq_false (by omega)
                have z4 : ¬ (j : Int) < 6 := by omega
                clear z z' J
                go_wp2_with fail
                go_meet
                exact K
              · have z1 : (j : Int) < (k : Int) := by omega
                have z2 : decide ((j : Int) < (k : Int)) = true := decide_eq_true z1
                have z3 : decide ((j : Int) < 6) = true := decide_eq_true (by omega)
                have z4 : (j : Int) < 6 := by omega
                obtain ⟨r, hr⟩ : ∃ r, k - 1 - j = r := ⟨_, rfl⟩
                have rk : r < k := by omega
                obtain ⟨ap, rfl, cj⟩ := (HT.out.below L.out).atI z
                obtain ⟨ap', ha', cr⟩ := (HT.out.below L.out).atI rk
                injection ha' with ha'
                subst ha'
                obtain ⟨xj, hxj⟩ : ∃ x, zs.getD j 0 = x := ⟨_, rfl⟩
                obtain ⟨xr, hxr⟩ : ∃ x, zs.getD r 0 = x := ⟨_, rfl⟩
                rw [hxj] at cj
                rw [hxr] at cr
                have s1 : IntKind.i64.wrap ((k : Int) - 1) = ((k : Int) - 1) := (wr16 (by unfold I64; omega)).2
                have s2 : wrap64 ((k : Int) - 1) = ((k : Int) - 1) := (wr16 (by unfold I64; omega)).1
                have s3 : IntKind.i64.wrap ((k : Int) - 1 - (j : Int)) = ((r : Nat) : Int) := by rw [(wr16 (by unfold I64; omega)).2]; omega
                have s4 : wrap64 ((k : Int) - 1 - (j : Int)) = ((r : Nat) : Int) := by rw [(wr16 (by unfold I64; omega)).1]; omega
                have r1 : (r : Int) < (k : Int) := by omega
                have r0 : (0 : Int) ≤ (r : Int) := by omega
                have CE : Hid (∀ w', Below w5.heap.size w5 w' → w'.cell? (ap.add j) = some (.int .i64 xj) ∧ w'.cell? (ap.add r) = some (.int .i64 xr)) := fun w' k =>
                  ⟨(k.cell (World.block_lt_of_cell? w5 _ cj)).trans cj, (k.cell (World.block_lt_of_cell? w5 _ cr)).trans cr⟩
                have NX : Hid (j + 1 ≤ k ∧ j + 1 ≤ 6) := by unfold Hid; omega
                have K1 : Below w5.heap.size w5 wr.drew := K.out.drew
                clear hr rk cj cr hxj hxr z z' J K
                go_wp2_with fail
                refine wp_region_held_drew (S := fun w' => w'.cell? (ap.add j) = some (.int .i64 xj) ∧ w'.cell? (ap.add r) = some (.int .i64 xr)) (by kernel_rfl) (CE.out _ K1) (fun hHeld => ?_)
                refine wpAnyH_take (i := 0) (v := ?_) (by (simp only [List.getElem?_toArray, List.getElem?_cons_zero]; exact rfl)) (by kernel_rfl) (by kernel_rfl) (by kernel_rfl) (by exact fun _ _ _ h => h) (Or.inl ⟨by rfl, ?_⟩) (by assumption) ?_
                rotate_left
                · (intro w hSw; (try dsimp only at hSw); first | (go_simp; done) | (go_simp; with_reducible rfl))
                try simp only [Act.put, List.setIfInBounds_toArray, List.set_cons_zero, List.set_cons_succ]
                refine wpAnyH_take (i := 1) (v := ?_) (by (simp only [List.getElem?_toArray, List.getElem?_cons_zero, List.getElem?_cons_succ]; exact rfl)) (by kernel_rfl) (by kernel_rfl) (by kernel_rfl) (by exact fun _ _ _ h => h) (Or.inl ⟨by rfl, ?_⟩) (by assumption) ?_
                rotate_left
                · (intro w hSw; (try dsimp only at hSw); first | (go_simp; done) | (go_simp; with_reducible rfl))
                try simp only [Act.put, List.setIfInBounds_toArray, List.set_cons_zero, List.set_cons_succ]
                refine wpAnyH_take (i := 2) (v := ?_) (by (simp only [List.getElem?_toArray, List.getElem?_cons_zero, List.getElem?_cons_succ]; exact rfl)) (by kernel_rfl) (by kernel_rfl) (by kernel_rfl) (by exact fun _ _ _ h => h) (Or.inl ⟨by rfl, ?_⟩) (by assumption) ?_
                rotate_left
                · (intro w hSw; (try dsimp only at hSw); first | (go_simp; done) | (go_simp; with_reducible rfl))
                try simp only [Act.put, List.setIfInBounds_toArray, List.set_cons_zero, List.set_cons_succ]
                refine wpAnyH_take (i := 3) (v := ?_) (by (simp only [List.getElem?_toArray, List.getElem?_cons_zero, List.getElem?_cons_succ]; exact rfl)) (by kernel_rfl) (by kernel_rfl) (by kernel_rfl) (by exact fun _ _ _ h => h) (Or.inl ⟨by rfl, ?_⟩) (by assumption) ?_
                rotate_left
                · (intro w hSw; (try dsimp only at hSw); first | (go_simp; done) | (go_simp; with_reducible rfl))
                try simp only [Act.put, List.setIfInBounds_toArray, List.set_cons_zero, List.set_cons_succ]
                refine wpAnyH_take (i := 4) (v := ?_) (by (simp only [List.getElem?_toArray, List.getElem?_cons_zero, List.getElem?_cons_succ]; exact rfl)) (by kernel_rfl) (by kernel_rfl) (by kernel_rfl) (by exact fun _ _ _ h => h) (Or.inl ⟨by rfl, ?_⟩) (by assumption) ?_
                rotate_left
                · (intro w hSw; (try dsimp only at hSw); first | (go_simp; done) | (go_simp; with_reducible rfl))
                try simp only [Act.put, List.setIfInBounds_toArray, List.set_cons_zero, List.set_cons_succ]
                refine wpAnyH_take (i := 5) (v := ?_) (by (simp only [List.getElem?_toArray, List.getElem?_cons_zero, List.getElem?_cons_succ]; exact rfl)) (by kernel_rfl) (by kernel_rfl) (by kernel_rfl) (by exact fun _ _ _ h => h) (Or.inl ⟨by rfl, ?_⟩) (by assumption) ?_
                rotate_left
                · (intro w hSw; (try dsimp only at hSw); first | (go_simp; done) | (go_simp; with_reducible rfl))
                try simp only [Act.put, List.setIfInBounds_toArray, List.set_cons_zero, List.set_cons_succ]
                refine wpAnyH_take (i := 6) (v := ?_) (by (simp only [List.getElem?_toArray, List.getElem?_cons_zero, List.getElem?_cons_succ]; exact rfl)) (by kernel_rfl) (by kernel_rfl) (by kernel_rfl) (by exact fun _ _ _ h => h) (Or.inl ⟨by rfl, ?_⟩) (by assumption) ?_
                rotate_left
                · (intro w hSw; (try dsimp only at hSw); first | (go_simp; done) | (go_simp; with_reducible rfl))
                try simp only [Act.put, List.setIfInBounds_toArray, List.set_cons_zero, List.set_cons_succ]
                refine wpAnyH_take (i := 7) (v := ?_) (by (simp only [List.getElem?_toArray, List.getElem?_cons_zero, List.getElem?_cons_succ]; exact rfl)) (by kernel_rfl) (by kernel_rfl) (by kernel_rfl) (by exact fun _ _ _ h => h) (Or.inl ⟨by rfl, ?_⟩) (by assumption) ?_
                rotate_left
                · (intro w hSw; (try dsimp only at hSw); first | (go_simp; done) | (go_simp; with_reducible rfl))
                try simp only [Act.put, List.setIfInBounds_toArray, List.set_cons_zero, List.set_cons_succ]
                refine wpAnyH_take (i := 8) (v := ?_) (by (simp only [List.getElem?_toArray, List.getElem?_cons_zero, List.getElem?_cons_succ]; exact rfl)) (by kernel_rfl) (by kernel_rfl) (by kernel_rfl) (by exact fun _ _ _ h => h) (Or.inl ⟨by rfl, ?_⟩) (by assumption) ?_
                rotate_left
                · (intro w hSw; (try dsimp only at hSw); first | (go_simp; done) | (go_simp; with_reducible rfl))
                try simp only [Act.put, List.setIfInBounds_toArray, List.set_cons_zero, List.set_cons_succ]
                refine wpAnyH_take (i := 9) (v := ?_) (by (simp only [List.getElem?_toArray, List.getElem?_cons_zero, List.getElem?_cons_succ]; exact rfl)) (by kernel_rfl) (by kernel_rfl) (by kernel_rfl) (by exact fun _ _ _ h => h) (Or.inl ⟨by rfl, ?_⟩) (by assumption) ?_
                rotate_left
                · (intro w hSw; (try dsimp only at hSw); first | (go_simp; done) | (go_simp; with_reducible rfl))
                try simp only [Act.put, List.setIfInBounds_toArray, List.set_cons_zero, List.set_cons_succ]
                refine wpAnyH_take (i := 10) (v := ?_) (by (simp only [List.getElem?_toArray, List.getElem?_cons_zero, List.getElem?_cons_succ]; exact rfl)) (by kernel_rfl) (by kernel_rfl) (by kernel_rfl) (by exact fun _ _ _ h => h) (Or.inl ⟨by rfl, ?_⟩) (by assumption) ?_
                rotate_left
                · (intro w hSw; (try dsimp only at hSw); first | (go_simp; done) | (go_simp; with_reducible rfl))
                try simp only [Act.put, List.setIfInBounds_toArray, List.set_cons_zero, List.set_cons_succ]
                refine wpAnyH_take (i := 11) (v := ?_) (by (simp only [List.getElem?_toArray, List.getElem?_cons_zero, List.getElem?_cons_succ]; exact rfl)) (by kernel_rfl) (by kernel_rfl) (by kernel_rfl) (by exact fun _ _ _ h => h) (Or.inl ⟨by rfl, ?_⟩) (by assumption) ?_
                rotate_left
                · (intro w hSw; (try dsimp only at hSw); first | (go_simp; done) | (go_simp; with_reducible rfl))
                try simp only [Act.put, List.setIfInBounds_toArray, List.set_cons_zero, List.set_cons_succ]
                refine wpAnyH_take (i := 12) (v := ?_) (by (simp only [List.getElem?_toArray, List.getElem?_cons_zero, List.getElem?_cons_succ]; exact rfl)) (by kernel_rfl) (by kernel_rfl) (by kernel_rfl) (by exact fun _ _ _ h => h) (Or.inl ⟨by rfl, ?_⟩) (by assumption) ?_
                rotate_left
                · (intro w hSw; (try dsimp only at hSw); first | (go_simp; done) | (go_simp; with_reducible rfl))
                try simp only [Act.put, List.setIfInBounds_toArray, List.set_cons_zero, List.set_cons_succ]
                refine wpAnyH_take (i := 13) (v := ?_) (by (simp only [List.getElem?_toArray, List.getElem?_cons_zero, List.getElem?_cons_succ]; exact rfl)) (by kernel_rfl) (by kernel_rfl) (by kernel_rfl) (by exact fun _ _ _ h => h) (Or.inl ⟨by rfl, ?_⟩) (by assumption) ?_
                rotate_left
                · (intro w hSw; (try dsimp only at hSw); first | (go_simp; done) | (go_simp; with_reducible rfl))
                try simp only [Act.put, List.setIfInBounds_toArray, List.set_cons_zero, List.set_cons_succ]
                refine wpAnyH_ready (rs := [14]) (by kernel_rfl) (by simp) ?_
                refine AllReadyH.cons (by (simp only [List.getElem?_toArray, List.getElem?_cons_zero, List.getElem?_cons_succ]; exact rfl)) (fun K hK => ?_) AllReadyH.nil
                go_simp
                go_at_call 13; refine (SA.out _ _ _ K1).mono ?_; rintro r7 w7 ⟨rfl, K2⟩
                go_wp2_with fail
                refine hK.out _ _ (CE.out _ K2) (fun hHeld => ?_)
                clear hK K
                try simp only [Act.put, List.setIfInBounds_toArray, List.set_cons_zero, List.set_cons_succ]
                refine wpAnyH_take (i := 15) (v := ?_) (by (simp only [List.getElem?_toArray, List.getElem?_cons_zero, List.getElem?_cons_succ]; exact rfl)) (by kernel_rfl) (by kernel_rfl) (by kernel_rfl) (by exact fun _ _ _ h => h) (Or.inl ⟨by rfl, ?_⟩) (by assumption) ?_
                rotate_left
                · (intro w hSw; (try dsimp only at hSw); first | (go_simp; done) | (go_simp; with_reducible rfl))
                try simp only [Act.put, List.setIfInBounds_toArray, List.set_cons_zero, List.set_cons_succ]
                refine wpAnyH_done (by kernel_rfl) ?_ _
                go_wp2_with fail
                go_roundw
                case rel => exact ⟨j + 1, by go_num, NX.out, K2⟩
                case measure => simp [intOf]; omega
          have K := hcut
          clear hcut
          obtain ⟨w6, rfl⟩ : ∃ w6, w6 = wc := ⟨_, rfl⟩
          have L6 := Lib.hid (L.out.trans (K.out.mono L.out.size))
          have S6 := Lib.hid (S.out.below K.out)
          have LI := Lib.hid S6.out.list
          obtain ⟨p5, c5, x5, h5⟩ := S6.out.row
          have few := S6.out.few
          have ln : l'.length = l'.length := rfl
          obtain ⟨n3, hn3⟩ : ∃ n3, l'.length = n3 := ⟨_, rfl⟩
          rw [hn3] at LI x5 h5 few
          have n30 : (0 : Int) ≤ (n3 : Int) := by omega
          have n31 : (n3 : Int) ≤ 32 := by omega
          have X5 : Hid (∀ w', Below w6.heap.size w6 w' → w'.cell? ⟨M, 0, none⟩ = some (.slice p5 n3 c5) ∧ HoldsL w' p5 n3 c5 l') := fun w' k =>
            ⟨(k.cell (World.block_lt_of_cell? w6 _ x5)).trans x5, h5.below k⟩
          clear SA S L K x5 h5 hn3 ln few
          go_wp2_with fail
          refine LI.out.mono ?_; rintro r7 w7 ⟨tq, td, rfl, o7, b7⟩
          have R7 : Hid (LsS w6.heap.size w7 w7 tq n3 l' 0) := o7.lss
          have B7 := Lib.hid b7
          obtain ⟨x7, -⟩ := X5.out _ b7
          clear o7 b7 LI
          go_wp2_with fail
          clear x7
          go_loopw [20] (fun jj wr => ∃ j : Nat, jj = .int .i64 (j : Nat) ∧ Hid (j ≤ n3) ∧ Hid (LsS w6.heap.size w7 wr tq n3 l' j)) (fun jj _ => 1000 - (intOf jj).toNat)
          case atStart => exact ⟨0, rfl, Nat.zero_le _, R7⟩
          case round =>
            obtain ⟨j, rfl, J, R⟩ := hrel
            have j0 : (0 : Int) ≤ (j : Int) := by omega
            by_cases z : j < n3
            · have z1 : (j : Int) < (n3 : Int) := by omega
              have z2 : decide ((j : Int) < (n3 : Int)) = true := decide_eq_true z1
              have R8 : LsS w6.heap.size w7 wr.drew tq n3 l' j := R.out.drewN 1
              obtain ⟨cm, hm⟩ := X5.out _ (B7.out.trans R8.low)
              obtain ⟨ar, hpr, d1, d2⟩ := hm.cell j z
              obtain ⟨a, rfl, d3, d4, fz, st⟩ := R8.at z
              subst hpr
              obtain ⟨xt, hxt⟩ : ∃ x, (gl l' j).t = x := ⟨_, rfl⟩
              obtain ⟨xk, hxk⟩ : ∃ x, (gl l' j).k = x := ⟨_, rfl⟩
              rw [hxt] at d1 d3
              rw [hxk] at d2 d4
              have NQ := fun w => neq_lp w xt xk
              have NX : Hid (j + 1 ≤ n3) := z
              have ST := Lib.hid st
              have CC : Hid (wr.drew.cell? (a.add (j * 2)) = some (.int .i64 xt) ∧ wr.drew.cell? ⟨(a.add (j * 2)).block, (a.add (j * 2)).off + 1, none⟩ = some (.int .i64 xk) ∧ wr.drew.cell? ⟨M, 0, none⟩ = some (.slice (some ar) n3 c5) ∧ wr.drew.cell? (ar.add (j * 2)) = some (.int .i64 xt) ∧ wr.drew.cell? ⟨(ar.add (j * 2)).block, (ar.add (j * 2)).off + 1, none⟩ = some (.int .i64 xk)) := ⟨d3, d4, cm, d1, d2⟩
              clear z J R R7 st hxt hxk R8 hm d1 d2 cm
              go_wp2_with fail
              refine wp_region_held_drew (S := fun w' => w'.cell? (a.add (j * 2)) = some (.int .i64 xt) ∧ w'.cell? ⟨(a.add (j * 2)).block, (a.add (j * 2)).off + 1, none⟩ = some (.int .i64 xk) ∧ w'.cell? ⟨M, 0, none⟩ = some (.slice (some ar) n3 c5) ∧ w'.cell? (ar.add (j * 2)) = some (.int .i64 xt) ∧ w'.cell? ⟨(ar.add (j * 2)).block, (ar.add (j * 2)).off + 1, none⟩ = some (.int .i64 xk)) (by kernel_rfl) (CC.out) (fun hHeld => ?_)
              refine wpAnyH_take (i := 0) (v := ?_) (by (simp only [List.getElem?_toArray, List.getElem?_cons_zero]; exact rfl)) (by kernel_rfl) (by kernel_rfl) (by kernel_rfl) (by exact fun _ _ _ h => h) (Or.inl ⟨by rfl, ?_⟩) (by assumption) ?_
              rotate_left
              · (intro w hSw; (try dsimp only at hSw); first | (go_simp; done) | (go_simp; with_reducible rfl))
              try simp only [Act.put, List.setIfInBounds_toArray, List.set_cons_zero, List.set_cons_succ]
              refine wpAnyH_take (i := 1) (v := ?_) (by (simp only [List.getElem?_toArray, List.getElem?_cons_zero, List.getElem?_cons_succ]; exact rfl)) (by kernel_rfl) (by kernel_rfl) (by kernel_rfl) (by exact fun _ _ _ h => h) (Or.inl ⟨by rfl, ?_⟩) (by assumption) ?_
              rotate_left
              · (intro w hSw; (try dsimp only at hSw); first | (go_simp; done) | (go_simp; with_reducible rfl))
              try simp only [Act.put, List.setIfInBounds_toArray, List.set_cons_zero, List.set_cons_succ]
              refine wpAnyH_take (i := 2) (v := ?_) (by (simp only [List.getElem?_toArray, List.getElem?_cons_zero, List.getElem?_cons_succ]; exact rfl)) (by kernel_rfl) (by kernel_rfl) (by kernel_rfl) (by exact fun _ _ _ h => h) (Or.inl ⟨by rfl, ?_⟩) (by assumption) ?_
              rotate_left
              · (intro w hSw; (try dsimp only at hSw); first | (go_simp; done) | (go_simp; with_reducible rfl))
              try simp only [Act.put, List.setIfInBounds_toArray, List.set_cons_zero, List.set_cons_succ]
              refine wpAnyH_take (i := 3) (v := ?_) (by (simp only [List.getElem?_toArray, List.getElem?_cons_zero, List.getElem?_cons_succ]; exact rfl)) (by kernel_rfl) (by kernel_rfl) (by kernel_rfl) (by exact fun _ _ _ h => h) (Or.inl ⟨by rfl, ?_⟩) (by assumption) ?_
              rotate_left
              · (intro w hSw; (try dsimp only at hSw); first | (go_simp; done) | (go_simp; with_reducible rfl))
              try simp only [Act.put, List.setIfInBounds_toArray, List.set_cons_zero, List.set_cons_succ]
              refine wpAnyH_take (i := 4) (v := ?_) (by (simp only [List.getElem?_toArray, List.getElem?_cons_zero, List.getElem?_cons_succ]; exact rfl)) (by kernel_rfl) (by kernel_rfl) (by kernel_rfl) (by exact fun _ _ _ h => h) (Or.inl ⟨by rfl, ?_⟩) (by assumption) ?_
              rotate_left
              · (intro w hSw; (try dsimp only at hSw); first | (go_simp; done) | (go_simp; with_reducible rfl))
              try simp only [Act.put, List.setIfInBounds_toArray, List.set_cons_zero, List.set_cons_succ]
              refine wpAnyH_take (i := 5) (v := ?_) (by (simp only [List.getElem?_toArray, List.getElem?_cons_zero, List.getElem?_cons_succ]; exact rfl)) (by kernel_rfl) (by kernel_rfl) (by kernel_rfl) (by exact fun _ _ _ h => h) (Or.inl ⟨by rfl, ?_⟩) (by assumption) ?_
              rotate_left
              · (intro w hSw; (try dsimp only at hSw); first | (go_simp; done) | (go_simp; with_reducible rfl))
              try simp only [Act.put, List.setIfInBounds_toArray, List.set_cons_zero, List.set_cons_succ]
              refine wpAnyH_take (i := 6) (v := ?_) (by (simp only [List.getElem?_toArray, List.getElem?_cons_zero, List.getElem?_cons_succ]; exact rfl)) (by kernel_rfl) (by kernel_rfl) (by kernel_rfl) (by exact fun _ _ _ h => h) (Or.inl ⟨by rfl, ?_⟩) (by assumption) ?_
              rotate_left
              · (intro w hSw; (try dsimp only at hSw); first | (go_simp; done) | (go_simp; with_reducible rfl))
              try simp only [Act.put, List.setIfInBounds_toArray, List.set_cons_zero, List.set_cons_succ]
              refine wpAnyH_take (i := 7) (v := ?_) (by (simp only [List.getElem?_toArray, List.getElem?_cons_zero, List.getElem?_cons_succ]; exact rfl)) (by kernel_rfl) (by kernel_rfl) (by kernel_rfl) (by exact fun _ _ _ h => h) (Or.inl ⟨by rfl, ?_⟩) (by assumption) ?_
              rotate_left
              · (intro w hSw; (try dsimp only at hSw); first | (go_simp; done) | (go_simp; with_reducible rfl))
              try simp only [Act.put, List.setIfInBounds_toArray, List.set_cons_zero, List.set_cons_succ]
              refine wpAnyH_take (i := 8) (v := ?_) (by (simp only [List.getElem?_toArray, List.getElem?_cons_zero, List.getElem?_cons_succ]; exact rfl)) (by kernel_rfl) (by kernel_rfl) (by kernel_rfl) (by exact fun _ _ _ h => h) (Or.inl ⟨by rfl, ?_⟩) (by assumption) ?_
              rotate_left
              · (intro w hSw; (try dsimp only at hSw); first | (go_simp; done) | (go_simp; with_reducible rfl))
              try simp only [Act.put, List.setIfInBounds_toArray, List.set_cons_zero, List.set_cons_succ]
              refine wpAnyH_take (i := 9) (v := ?_) (by (simp only [List.getElem?_toArray, List.getElem?_cons_zero, List.getElem?_cons_succ]; exact rfl)) (by kernel_rfl) (by kernel_rfl) (by kernel_rfl) (by exact fun _ _ _ h => h) (Or.inl ⟨by rfl, ?_⟩) (by assumption) ?_
              rotate_left
              · (intro w hSw; (try dsimp only at hSw); first | (go_simp; done) | (go_simp; with_reducible rfl))
              try simp only [Act.put, List.setIfInBounds_toArray, List.set_cons_zero, List.set_cons_succ]
              refine wpAnyH_take (i := 10) (v := ?_) (by (simp only [List.getElem?_toArray, List.getElem?_cons_zero, List.getElem?_cons_succ]; exact rfl)) (by kernel_rfl) (by kernel_rfl) (by kernel_rfl) (by exact fun _ _ _ h => h) (Or.inl ⟨by rfl, ?_⟩) (by assumption) ?_
              rotate_left
              · (intro w hSw; (try dsimp only at hSw); first | (go_simp; done) | (go_simp; with_reducible rfl))
              try simp only [Act.put, List.setIfInBounds_toArray, List.set_cons_zero, List.set_cons_succ]
              refine wpAnyH_take (i := 11) (v := ?_) (by (simp only [List.getElem?_toArray, List.getElem?_cons_zero, List.getElem?_cons_succ]; exact rfl)) (by kernel_rfl) (by kernel_rfl) (by kernel_rfl) (by exact fun _ _ _ h => h) (Or.inl ⟨by rfl, ?_⟩) (by assumption) ?_
              rotate_left
              · (intro w hSw; (try dsimp only at hSw); first | (go_simp; done) | (go_simp; with_reducible rfl))
              try simp only [Act.put, List.setIfInBounds_toArray, List.set_cons_zero, List.set_cons_succ]
              refine wpAnyH_done (by kernel_rfl) ?_ _
              go_wp2_with fail
              go_roundw
              case rel => exact ⟨j + 1, by go_num, NX, ST.out _⟩
              case measure => simp [intOf]; omega
            · have z1 : (n3 : Int) ≤ (j : Int) := by omega
              have z2 : decide ((j : Int) < (n3 : Int)) = false := decide_eq_false (by omega)
              obtain ⟨w9, rfl⟩ : ∃ w9, w9 = wr := ⟨_, rfl⟩
              have K9 := B7.out.trans R.out.low
              have L9 := Lib.hid (L6.out.trans (K9.mono L6.out.size))
              have S9 := Lib.hid (S6.out.below K9)
              clear z J R R7 K9 L6 S6 B7 X5
              have stop : (i = n2) ∨ (i < n2 ∧ i = 6) ∨ (i < n2 ∧ i < 6) := by have := I.out; omega
              rcases stop with y | ⟨y, y'⟩ | ⟨y, y'⟩
              · have y1 : (i : Int) = (n2 : Int) := by omega
                have y2 : ((i : Int) == (n2 : Int)) = true := beq_iff_eq.2 y1
                clear y1
                clear y I
                go_wp2_with fail
                refine (AW.out _).mono ?_; rintro e w10 ⟨rfl, b10⟩
                have L10 := Lib.hid (L9.out.trans (b10.mono L9.out.size))
                clear b10
                go_wp2
                go_ret
                exact ⟨rfl, L10.out⟩
              · have y1 : ¬ (i : Int) = (n2 : Int) := by omega
                have y2 : ((i : Int) == (n2 : Int)) = false := beq_eq_false_iff_ne.2 y1
                have y3 : (i : Int) = 6 := by omega
                have y4 : ((i : Int) == 6) = true := beq_iff_eq.2 y3
                clear y y' I y3
                go_wp2_with fail
                refine (AW.out _).mono ?_; rintro e w10 ⟨rfl, b10⟩
                have L10 := Lib.hid (L9.out.trans (b10.mono L9.out.size))
                clear b10
                go_wp2
                go_ret
                exact ⟨rfl, L10.out⟩
              · have y1 : ¬ (i : Int) = (n2 : Int) := by omega
                have y2 : ((i : Int) == (n2 : Int)) = false := beq_eq_false_iff_ne.2 y1
                have y3 : ¬ (i : Int) = 6 := by omega
                have y4 : ((i : Int) == 6) = false := beq_eq_false_iff_ne.2 y3
                have y5 : (i : Int) < (n2 : Int) := by omega
                have NX : Hid (i + 1 ≤ n2 ∧ i + 1 ≤ 6) := by unfold Hid; omega
                have CO := Lib.hid (S9.out.copy ⟨4611686018427387904, 1⟩ (by unfold I64; decide) 4611686018427387904 (by unfold I64; decide))
                obtain ⟨r, hr⟩ : ∃ r, i % 3 = r := ⟨_, rfl⟩
                have r3 : r < 3 := by omega
                have tr : ((i : Nat) : Int).tmod 3 = ((r : Nat) : Int) := by rw [Int.tmod_eq_emod_of_nonneg (by omega)]; omega
                obtain ⟨m1, m2⟩ := times_m r3
                obtain ⟨th, t1, t2, hI⟩ := wrap_any (e + (r : Int) * 1000)
                have TI := Lib.hid hI
                obtain ⟨a, rfl, -, -⟩ := H2.out.cell i y
                obtain ⟨xt, hxt⟩ : ∃ x, (gl l2 i).t = x := ⟨_, rfl⟩
                obtain ⟨xk, hxk⟩ : ∃ x, (gl l2 i).k = x := ⟨_, rfl⟩
                have IX : Hid (I64 xt ∧ I64 xk) := by have := HI2.out i y; rw [hxt, hxk] at this; exact this
                have CE : Hid (∀ w', Below w.heap.size w w' → w'.cell? (a.add (i * 2)) = some (.int .i64 xt) ∧ w'.cell? ⟨(a.add (i * 2)).block, (a.add (i * 2)).off + 1, none⟩ = some (.int .i64 xk)) := fun w' k => by
                  obtain ⟨a', ha', c1, c2⟩ := (H2.out.below k).cell i y
                  injection ha' with ha'
                  subst ha'
                  rw [hxt] at c1
                  rw [hxk] at c2
                  exact ⟨c1, c2⟩
                clear y y' I hr r3 hI hxt hxk
                go_wp2_with fail
                refine CO.out.mono ?_; rintro r10 w10 ⟨N', rfl, b10, hA⟩
                have HA := hA w10 (Below.refl _ _)
                try dsimp only at HA
                have HB := Lib.hid HA
                clear CO b10 hA HA
                go_wp2_with fail
                refine HB.out.mono ?_; rintro r11 w11 ⟨⟨x0, rfl⟩, b11⟩
                have S12 := S9.out.below b11.drew
                have L12 := Lib.hid (L9.out.trans (b11.drew.mono L9.out.size))
                have AD := S12.add L12.out.size ⟨xt, xk⟩ IX.out th TI.out
                try dsimp only at AD
                have AE := Lib.hid AD
                clear HB b11 S12 AD S9 L9
                go_wp2_with fail
                refine wp_region_held_drew (S := fun w' => w'.cell? (a.add (i * 2)) = some (.int .i64 xt) ∧ w'.cell? ⟨(a.add (i * 2)).block, (a.add (i * 2)).off + 1, none⟩ = some (.int .i64 xk)) (by kernel_rfl) (CE.out _ L12.out) (fun hHeld => ?_)
                refine wpAnyH_take (i := 0) (v := ?_) (by (simp only [List.getElem?_toArray, List.getElem?_cons_zero]; exact rfl)) (by kernel_rfl) (by kernel_rfl) (by kernel_rfl) (by exact fun _ _ _ h => h) (Or.inl ⟨by rfl, ?_⟩) (by assumption) ?_
                rotate_left
                · (intro w hSw; (try dsimp only at hSw); first | (go_simp; done) | (go_simp; with_reducible rfl))
                try simp only [Act.put, List.setIfInBounds_toArray, List.set_cons_zero, List.set_cons_succ]
                refine wpAnyH_take (i := 1) (v := ?_) (by (simp only [List.getElem?_toArray, List.getElem?_cons_zero, List.getElem?_cons_succ]; exact rfl)) (by kernel_rfl) (by kernel_rfl) (by kernel_rfl) (by exact fun _ _ _ h => h) (Or.inl ⟨by rfl, ?_⟩) (by assumption) ?_
                rotate_left
                · (intro w hSw; (try dsimp only at hSw); first | (go_simp; done) | (go_simp; with_reducible rfl))
                try simp only [Act.put, List.setIfInBounds_toArray, List.set_cons_zero, List.set_cons_succ]
                refine wpAnyH_take (i := 2) (v := ?_) (by (simp only [List.getElem?_toArray, List.getElem?_cons_zero, List.getElem?_cons_succ]; exact rfl)) (by kernel_rfl) (by kernel_rfl) (by kernel_rfl) (by exact fun _ _ _ h => h) (Or.inl ⟨by rfl, ?_⟩) (by assumption) ?_
                rotate_left
                · (intro w hSw; (try dsimp only at hSw); first | (go_simp; done) | (go_simp; with_reducible rfl))
                try simp only [Act.put, List.setIfInBounds_toArray, List.set_cons_zero, List.set_cons_succ]
                refine wpAnyH_take (i := 3) (v := ?_) (by (simp only [List.getElem?_toArray, List.getElem?_cons_zero, List.getElem?_cons_succ]; exact rfl)) (by kernel_rfl) (by kernel_rfl) (by kernel_rfl) (by exact fun _ _ _ h => h) (Or.inl ⟨by rfl, ?_⟩) (by assumption) ?_
                rotate_left
                · (intro w hSw; (try dsimp only at hSw); first | (go_simp; done) | (go_simp; with_reducible rfl))
                try simp only [Act.put, List.setIfInBounds_toArray, List.set_cons_zero, List.set_cons_succ]
                refine wpAnyH_take (i := 4) (v := ?_) (by (simp only [List.getElem?_toArray, List.getElem?_cons_zero, List.getElem?_cons_succ]; exact rfl)) (by kernel_rfl) (by kernel_rfl) (by kernel_rfl) (by exact fun _ _ _ h => h) (Or.inl ⟨by rfl, ?_⟩) (by assumption) ?_
                rotate_left
                · (intro w hSw; (try dsimp only at hSw); first | (go_simp; done) | (go_simp; with_reducible rfl))
                try simp only [Act.put, List.setIfInBounds_toArray, List.set_cons_zero, List.set_cons_succ]
                refine wpAnyH_take (i := 5) (v := ?_) (by (simp only [List.getElem?_toArray, List.getElem?_cons_zero, List.getElem?_cons_succ]; exact rfl)) (by kernel_rfl) (by kernel_rfl) (by kernel_rfl) (by exact fun _ _ _ h => h) (Or.inl ⟨by rfl, ?_⟩) (by assumption) ?_
                rotate_left
                · (intro w hSw; (try dsimp only at hSw); first | (go_simp; done) | (go_simp; with_reducible rfl))
                try simp only [Act.put, List.setIfInBounds_toArray, List.set_cons_zero, List.set_cons_succ]
                refine wpAnyH_take (i := 7) (v := ?_) (by (simp only [List.getElem?_toArray, List.getElem?_cons_zero, List.getElem?_cons_succ]; exact rfl)) (by kernel_rfl) (by kernel_rfl) (by kernel_rfl) (by exact fun _ _ _ h => h) (Or.inl ⟨by rfl, ?_⟩) (by assumption) ?_
                rotate_left
                · (intro w hSw; (try dsimp only at hSw); first | (go_simp; done) | (go_simp; with_reducible rfl))
                try simp only [Act.put, List.setIfInBounds_toArray, List.set_cons_zero, List.set_cons_succ]
                refine wpAnyH_take (i := 8) (v := ?_) (by (simp only [List.getElem?_toArray, List.getElem?_cons_zero, List.getElem?_cons_succ]; exact rfl)) (by kernel_rfl) (by kernel_rfl) (by kernel_rfl) (by exact fun _ _ _ h => h) (Or.inl ⟨by rfl, ?_⟩) (by assumption) ?_
                rotate_left
                · (intro w hSw; (try dsimp only at hSw); first | (go_simp; done) | (go_simp; with_reducible rfl))
                try simp only [Act.put, List.setIfInBounds_toArray, List.set_cons_zero, List.set_cons_succ]
                refine wpAnyH_take (i := 9) (v := ?_) (by (simp only [List.getElem?_toArray, List.getElem?_cons_zero, List.getElem?_cons_succ]; exact rfl)) (by kernel_rfl) (by kernel_rfl) (by kernel_rfl) (by exact fun _ _ _ h => h) (Or.inl ⟨by rfl, ?_⟩) (by assumption) ?_
                rotate_left
                · (intro w hSw; (try dsimp only at hSw); first | (go_simp; done) | (go_simp; with_reducible rfl))
                try simp only [Act.put, List.setIfInBounds_toArray, List.set_cons_zero, List.set_cons_succ]
                refine wpAnyH_take (i := 10) (v := ?_) (by (simp only [List.getElem?_toArray, List.getElem?_cons_zero, List.getElem?_cons_succ]; exact rfl)) (by kernel_rfl) (by kernel_rfl) (by kernel_rfl) (by exact fun _ _ _ h => h) (Or.inl ⟨by rfl, ?_⟩) (by assumption) ?_
                rotate_left
                · (intro w hSw; (try dsimp only at hSw); first | (go_simp; done) | (go_simp; with_reducible rfl))
                try simp only [Act.put, List.setIfInBounds_toArray, List.set_cons_zero, List.set_cons_succ]
                refine wpAnyH_take (i := 11) (v := ?_) (by (simp only [List.getElem?_toArray, List.getElem?_cons_zero, List.getElem?_cons_succ]; exact rfl)) (by kernel_rfl) (by kernel_rfl) (by kernel_rfl) (by exact fun _ _ _ h => h) (Or.inl ⟨by rfl, ?_⟩) (by assumption) ?_
                rotate_left
                · (intro w hSw; (try dsimp only at hSw); first | (go_simp; done) | (go_simp; with_reducible rfl))
                try simp only [Act.put, List.setIfInBounds_toArray, List.set_cons_zero, List.set_cons_succ]
                refine wpAnyH_take (i := 12) (v := ?_) (by (simp only [List.getElem?_toArray, List.getElem?_cons_zero, List.getElem?_cons_succ]; exact rfl)) (by kernel_rfl) (by kernel_rfl) (by kernel_rfl) (by exact fun _ _ _ h => h) (Or.inl ⟨by rfl, ?_⟩) (by assumption) ?_
                rotate_left
                · (intro w hSw; (try dsimp only at hSw); first | (go_simp; done) | (go_simp; with_reducible rfl))
                try simp only [Act.put, List.setIfInBounds_toArray, List.set_cons_zero, List.set_cons_succ]
                refine wpAnyH_ready (rs := [6]) (by kernel_rfl) (by simp) ?_
                refine AllReadyH.cons (by (simp only [List.getElem?_toArray, List.getElem?_cons_zero, List.getElem?_cons_succ]; exact rfl)) (fun K hK => ?_) AllReadyH.nil
                go_simp
                go_at_call 16; refine AE.out.mono ?_; rintro r13 w13 ⟨x13, rfl, b13, hR⟩; have L13 := L12.out.trans b13; have HR := Lib.hid (hR _ (Below.refl _ _)); clear b13 hR
                go_wp2_with fail
                refine hK.out _ _ (CE.out _ L13) (fun hHeld => ?_)
                clear hK K
                try simp only [Act.put, List.setIfInBounds_toArray, List.set_cons_zero, List.set_cons_succ]
                refine wpAnyH_ready (rs := [13]) (by kernel_rfl) (by simp) ?_
                refine AllReadyH.cons (by (simp only [List.getElem?_toArray, List.getElem?_cons_zero, List.getElem?_cons_succ]; exact rfl)) (fun K hK => ?_) AllReadyH.nil
                go_simp
                go_at_call 17; refine HR.out.mono ?_; rintro r14 w14 ⟨rfl, b14, l9, e9, S14⟩; have L14 := L13.trans b14; clear b14
                go_wp2_with fail
                refine hK.out _ _ (CE.out _ L14) (fun hHeld => ?_)
                clear hK K
                try simp only [Act.put, List.setIfInBounds_toArray, List.set_cons_zero, List.set_cons_succ]
                refine wpAnyH_take (i := 14) (v := ?_) (by (simp only [List.getElem?_toArray, List.getElem?_cons_zero, List.getElem?_cons_succ]; exact rfl)) (by kernel_rfl) (by kernel_rfl) (by kernel_rfl) (by exact fun _ _ _ h => h) (Or.inl ⟨by rfl, ?_⟩) (by assumption) ?_
                rotate_left
                · (intro w hSw; (try dsimp only at hSw); first | (go_simp; done) | (go_simp; with_reducible rfl))
                try simp only [Act.put, List.setIfInBounds_toArray, List.set_cons_zero, List.set_cons_succ]
                refine wpAnyH_done (by kernel_rfl) ?_ _
                go_wp2_with fail
                go_roundw
                case rel => exact ⟨i + 1, l9, e9, by go_num, NX, S14, L14⟩
                case measure => simp [intOf]; omega
  · go_wp2_with fail
    refine RN.out.mono ?_; rintro r3 w3 ⟨b3, hc⟩
    have L3 := Lib.hid (L2.out.trans (b3.mono L2.out.size))
    rcases hc with ⟨ok, -⟩ | ⟨x', nx', x0', rfl⟩
    · exact absurd (newT_one nx (.inr ⟨ok.2.1, .inr ⟨rfl, ok⟩⟩)) x0
    obtain rfl := newT_one nx nx'
    have x1 : (x != 0) = true := by rw [bne_iff_ne]; exact x0
    have x2 : (x == 0) = false := by simp [x0]
    clear b3 nx nx' x0' RN
    go_wp2_with fail
    refine (AW.out _).mono ?_; rintro e w4 ⟨rfl, b4⟩
    have L4 := Lib.hid (L3.out.trans (b4.mono L3.out.size))
    clear b4
    go_wp2
    go_ret
    exact ⟨rfl, L4.out⟩
theorem holdsL_take {w : World} {p : Option Addr} {n c : Nat} {l : List Lp} (h : HoldsL w p n c l) {m : Nat} (hm : m ≤ n) : HoldsL w p m c (l.take m) :=
  ⟨by rw [List.length_take, h.len]; omega, Nat.le_trans hm h.cap, h.max, fun i hi => by
    have e : gl (l.take m) i = gl l i := by
      rw [gl_of (by rw [List.length_take, h.len]; omega), gl_of (by rw [h.len]; omega), List.getElem_take]
    rw [e]
    exact h.cell i (by omega)⟩
theorem tells16_walk (C : LCode) (w : World) (p : Option Addr) (n c : Nat) (l : List Lp) (h : HoldsL w p n c l) (bare : p = none → c = 0) (hi : ∀ y ∈ l, I64 y.t ∧ I64 y.k) (e b : Int) (he : I64 e) (hb : I64 b)
    (q : Option Addr) (k d : Nat) (zs : List Int) (ht : Holds w q k d (valsI .i64 zs)) (hz : ∀ z ∈ zs, I64 z)
    (p2 : Option Addr) (n2 c2 : Nat) (l2 : List Lp) (h2 : HoldsL w p2 n2 c2 l2) (hi2 : ∀ y ∈ l2, I64 y.t ∧ I64 y.k) :
    Calls Try.prog 3 #[.slice p n c, .int .i64 e, .int .i64 b, .slice q k d, .slice p2 n2 c2] w fun r w' => r = .returned (.bool true) ∧ Below w.heap.size w w' := by
  have hm : min n 40 ≤ n := Nat.min_le_left _ _
  have cap := h.cap
  exact tells16_core C w p n c (min n 40) (l.take (min n 40)) (by omega) (by omega) (holdsL_take h hm) bare (fun y hy => hi y (List.mem_of_mem_take hy)) e b he hb q k d zs ht hz p2 n2 c2 l2 h2 hi2
end Go.Proofs.Ytpfbdpoileepoaa
