/- TimersTimes: the walk. -/
import Derived.Test.YtbfmmeapjfljbaaTmQ
import Derived.Deep.CutBlock
import Derived.Deep.CutRange
set_option maxRecDepth 100000
namespace Go.Proofs.Ytbfmmeapjfljbaa
open Go.ChangeShapes Go.WideShapes Go.ChangeAt Go.RowKit Go.Maps HeapM

set_option maxHeartbeats 4000000 in
theorem times14_false (w : World) (x y : Nat) (hx : x < 65536) (hy : y < 65536) (p : Option Addr) (n c : Nat) (ds : List Nat) (hp : Holds w p n c (valsN .u16 ds)) :
    Calls Try.prog 3 #[.bool false, .int .u16 (x : Nat), .int .u16 (y : Nat), .slice p n c] w fun e w' => e = .returned (.bool true) ∧ Below w.heap.size w w' := by
  obtain ⟨A, hA⟩ : ∃ A, x % 10000 = A := ⟨_, rfl⟩
  obtain ⟨B, hB⟩ : ∃ B, y % 9999 = B := ⟨_, rfl⟩
  obtain ⟨E, hE⟩ : ∃ E, 1 + B = E := ⟨_, rfl⟩
  have Ab : A < 10000 := by omega
  have Bb : B < 9999 := by omega
  have a1 : ((x : Nat) : Int).tmod 10000 = (A : Nat) := by rw [Int.tmod_eq_emod_of_nonneg (by omega)]; omega
  have a2 : ((x : Nat) : Int) % 10000 = (A : Nat) := by omega
  have b1 : ((y : Nat) : Int).tmod 9999 = (B : Nat) := by rw [Int.tmod_eq_emod_of_nonneg (by omega)]; omega
  have b2 : ((y : Nat) : Int) % 9999 = (B : Nat) := by omega
  have num : ∀ z : Nat, z < 60000 → IntKind.u16.wrap ((z : Nat) : Int) = (z : Nat) ∧ IntKind.i64.wrap ((z : Nat) : Int) = (z : Nat) ∧ wrap64 ((z : Nat) : Int) = (z : Nat) := by
    clear hA hB hE Ab Bb a1 a2 b1 b2 hx hy
    intro z hz
    refine ⟨by rw [IntKind.wrap_u16]; omega, by rw [IntKind.wrap_i64]; omega, by unfold wrap64; omega⟩
  have AE : Hid (A < 10000 ∧ 1 ≤ E ∧ E ≤ 9999) := by clear hA hB a1 a2 b1 b2 num; unfold Hid; omega
  clear hA hB
  have e1 : (1 : Int) + ((B : Nat) : Int) = (E : Nat) := by clear a1 a2 b1 b2 num; omega
  have E1 : 1 ≤ E := AE.out.2.1
  have e4 : ((E : Nat) : Int) ≠ 0 := by clear a1 a2 b1 b2 num e1; omega
  have e5 : (((E : Nat) : Int) == 0) = false := by rw [beq_eq_false_iff_ne]; exact e4
  have e6 : (E == 0) = false := by rw [beq_eq_false_iff_ne]; intro e; rw [e] at E1; exact absurd E1 (by decide)
  have NA := Lib.hid (num A (Nat.lt_trans Ab (by decide)))
  have NB := Lib.hid (num B (Nat.lt_trans Bb (by decide)))
  have NE := Lib.hid (num E (Nat.lt_of_le_of_lt AE.out.2.2 (by decide)))
  have NUM := Lib.hid num
  clear num hE Ab Bb E1 e4
  have nb : (n : Int) ≤ 9223372036854775807 := by have := hp.cap; have := hp.max; unfold maxLen at this; omega
  have AL : Below w.heap.size w (w.alloc (.cells #[.bool false, .int .i64 (A : Nat), .int .i64 (E : Nat)] 25)) := (Below.refl _ _).alloc (Nat.le_refl _) _
  have BX : Hid ((w.alloc (.cells #[.bool false, .int .i64 (A : Nat), .int .i64 (E : Nat)] 25)).heap[w.heap.size]? = some (.cells #[.bool false, .int .i64 (A : Nat), .int .i64 (E : Nat)] 25 (0, 0))) := heap_alloc_new _ _
  have HP := Lib.hid (hp.below AL)
  have L1 := Lib.hid AL
  have BL : Hid (∀ v wr : World, Below v.heap.size v wr → v.heap[w.heap.size]? = some (.cells #[.bool false, .int .i64 (A : Nat), .int .i64 (E : Nat)] 25 (0, 0)) → wr.cell? ⟨w.heap.size, 0, none⟩ = some (.bool false) ∧ wr.cell? ⟨w.heap.size, 1, none⟩ = some (.int .i64 (A : Nat)) ∧ wr.cell? ⟨w.heap.size, 2, none⟩ = some (.int .i64 (E : Nat))) := fun v wr b h => by
    have h' := (b.block _ (Array.getElem?_eq_some_iff.1 h).1).trans h
    exact ⟨blk_cell h', blk_cell h', blk_cell h'⟩
  clear hp AL hx hy
  obtain ⟨a3, a4, a5⟩ := NA.out
  obtain ⟨b3, b4, b5⟩ := NB.out
  obtain ⟨e0x, e2, e3⟩ := NE.out
  clear e0x
  go_enter Try.func3, Try.ntmps3
  go_wp2_with fail
  generalize w.alloc (.cells #[.bool false, .int .i64 (A : Nat), .int .i64 (E : Nat)] 25) = v at *
  obtain ⟨bx, hbx⟩ : ∃ bx, w.heap.size = bx := ⟨_, rfl⟩
  have HX := Lib.hid hbx
  rw [hbx] at BX BL ⊢
  clear hbx a1 a2 a3 a4 a5 b1 b2 b3 b4 b5 e1 e2 e3 NB
  refine (pnew14 v v (Below.refl _ _)).mono ?_; rintro r0 w0 ⟨N, rfl, T0⟩
  obtain ⟨q0, q1, q2⟩ := BL.out v w0 T0.low BX.out
  have AD : Hid (Calls Try.prog 7 #[.pointer (some ⟨N, 0, none⟩), .agg #[.bool false, .int .i64 (A : Nat), .int .i64 (E : Nat)]] w0 fun r w' => r = .returned (.tuple #[.int .u64 1, .int .i64 0]) ∧ TAt v w' N (stT false A E)) :=
    T0.add false A E (by omega) (by have := AE.out; unfold topT; omega) (by omega) (by have := AE.out; unfold topT; omega) (by decide) (by decide)
  clear T0
  go_wp2_with fail
  refine AD.out.mono ?_; rintro r1 w1 ⟨rfl, T1⟩
  have S0 : Hid (TmsS v w1 N false A E 0 0 0) := ⟨by
    have e : (A : Int) + ((0 : Nat) : Int) * (E : Int) = A := by rw [show ((0 : Nat) : Int) = 0 from rfl, Int.zero_mul, Int.add_zero]
    rw [e]; exact T1, Nat.zero_le _, by decide, .inl rfl⟩
  clear AD T1 q0 q1 q2
  go_wp2_with fail
  go_loopw [13, 14, 15] (fun nw cc ii wr => ∃ t q i : Nat, nw = .int .i64 (t : Nat) ∧ cc = .int .i64 (q : Nat) ∧ ii = .int .i64 (i : Nat) ∧ Hid (i ≤ n) ∧ Hid (TmsS v wr N false A E t q i)) (fun _ _ ii _ => 1000 - (intOf ii).toNat)
  case atStart => exact ⟨0, 0, 0, rfl, rfl, rfl, Nat.zero_le _, S0.out⟩
  case round =>
    clear S0
    obtain ⟨t, q, i, rfl, rfl, rfl, hb, S⟩ := hrel
    have i0 : (0 : Int) ≤ (i : Int) := by omega
    have i40 : (i : Int) ≤ 40 := by have := S.out.ib; omega
    have AV := Lib.hid (fun w => alive14_any w)
    have stop : (n ≤ i) ∨ (i < n ∧ i = 40) ∨ (i < n ∧ i < 40) := by have := S.out.ib; omega
    rcases stop with z | ⟨z, z'⟩ | ⟨z, z'⟩
    · have z1 : (n : Int) ≤ (i : Int) := by omega
      have z2 : decide ((i : Int) < (n : Int)) = false := decide_eq_false (by omega)
      have LE := Lib.hid (L1.out.trans (S.out.tat.low.mono L1.out.size))
      clear hb z S HP BL BX
      go_wp2_with (go_at_call 9; refine (AV.out _).mono ?_; rintro r9 w9 ⟨rfl, l9⟩; have L9 := Lib.hid (LE.out.trans (l9.mono LE.out.size)); clear l9)
      go_ret
      exact ⟨rfl, L9.out⟩
    · have h' : (i : Int) < (n : Int) := by omega
      have z3 : decide ((i : Int) < 40) = false := decide_eq_false (by omega)
      have z4 : (40 : Int) ≤ (i : Int) := by omega
      have z5 : decide (i < 40) = false := decide_eq_false (by omega)
      have LE := Lib.hid (L1.out.trans (S.out.tat.low.mono L1.out.size))
      clear hb z z' S HP BL BX
      go_wp2_with (go_at_call 9; refine (AV.out _).mono ?_; rintro r9 w9 ⟨rfl, l9⟩; have L9 := Lib.hid (LE.out.trans (l9.mono LE.out.size)); clear l9)
      go_ret
      exact ⟨rfl, L9.out⟩
    · clear AV
      have h' : (i : Int) < (n : Int) := by omega
      have z3 : (i : Int) < 40 := by omega
      have I40 := Lib.hid z'
      have NI := Lib.hid z
      obtain ⟨ap, rfl, cz⟩ := (HP.out.below S.out.tat.low).atN z
      obtain ⟨dz, hdz⟩ : ∃ d, ds.getD i 0 = d := ⟨_, rfl⟩
      rw [hdz] at cz
      obtain ⟨d, hd⟩ : ∃ d, dz % 5000 = d := ⟨_, rfl⟩
      obtain ⟨t', ht'⟩ : ∃ t', t + d = t' := ⟨_, rfl⟩
      have d1 : ((dz : Nat) : Int).tmod 5000 = (d : Nat) := by rw [Int.tmod_eq_emod_of_nonneg (by omega)]; omega
      have d2 : ((dz : Nat) : Int) % 5000 = (d : Nat) := by omega
      have dl : d < 5000 := by omega
      have tb := S.out.tb
      have t1 : ((t : Nat) : Int) + ((d : Nat) : Int) = (t' : Nat) := by omega
      have TB : Hid (t' ≤ 200000) := by unfold Hid; omega
      have FI : Hid (Calls Try.prog 8 #[.pointer (some ⟨N, 0, none⟩), .int .i64 (t' : Nat), .int .i64 (-1)] wr fun r w' => ∃ p n c q', r = .returned (.slice p n c) ∧ TmsH v w' N false A E t' i q q' p n c) := by
        have := S.out.fire AE.out.2.1 AE.out.2.2 dl z' (t' : Nat) (-1) (by rw [ht']; rfl) (by have := TB.out; omega)
        rw [ht'] at this
        exact this
      have t2 : IntKind.i64.wrap ((t' : Nat) : Int) = (t' : Nat) := by have := TB.out; rw [IntKind.wrap_i64]; omega
      have t3 : wrap64 ((t' : Nat) : Int) = (t' : Nat) := by have := TB.out; unfold wrap64; omega
      obtain ⟨d3, d4, d5⟩ := NUM.out d (Nat.lt_trans dl (by decide))
      clear hb z z' hdz hd ht' dl tb S
      go_wp2_with fail
      refine FI.out.mono ?_; rintro r2 w5 ⟨p5, n5, c5, q', rfl, H5⟩
      have H5 := Lib.hid H5
      clear FI
      /- the tail: the loop over what fired -/
      clear d1 d2 d3 d4 d5 t1 t2 t3
      obtain ⟨q0', qx1, qx2⟩ := BL.out v _ H5.out.next.tat.low BX.out
      have n1 := H5.out.one
      have QB := Lib.hid (H5.out.qb AE.out.2.1)
      clear q0'
      have n2 : (n5 : Int) ≤ 1 := by omega
      have n3 : decide ((1 : Int) < (n5 : Int)) = false := decide_eq_false (by omega)
      have n4 : decide (1 < n5) = false := decide_eq_false (by omega)
      clear n1
      go_wp2_with fail
      go_loopw [14, 17] (fun cc kk wx => ∃ j g : Nat, kk = .int .i64 (j : Nat) ∧ cc = .int .i64 (g : Nat) ∧ wx = w5 ∧ Hid (j ≤ n5 ∧ (j = n5 → g = q') ∧ (j < n5 → g = q))) (fun _ kk _ => 10 - (intOf kk).toNat)
      case atStart => exact ⟨0, q, rfl, rfl, rfl, Nat.zero_le _, fun e => by
        obtain ⟨fs, -, e1 | e1⟩ := H5.out.row
        · exact e1.2.symm
        · omega, fun _ => rfl⟩
      case round =>
        obtain ⟨j, g, rfl, rfl, rfl, J⟩ := hrel
        have j0 : (0 : Int) ≤ (j : Int) := by omega
        by_cases jz : j < n5
        · obtain ⟨j1, -, a5, m, rfl, r0, r5, hm⟩ := H5.out.read jz
          have jn : (j : Int) < (n5 : Int) := by omega
          have gq := J.out.2.2 jz
          subst gq
          obtain ⟨m1, hm1⟩ : ∃ m1, 1 + m = m1 := ⟨_, rfl⟩
          have s1 : (1 : Int) + ((m : Nat) : Int) = (m1 : Nat) := by omega
          have s2 : ((g : Nat) : Int) + ((m1 : Nat) : Int) = (q' : Nat) := by omega
          have mb : m1 ≤ 200001 := by have := QB.out; omega
          have s3 : IntKind.i64.wrap ((m1 : Nat) : Int) = (m1 : Nat) := by rw [IntKind.wrap_i64]; omega
          have s4 : wrap64 ((m1 : Nat) : Int) = (m1 : Nat) := by unfold wrap64; omega
          have s5 : IntKind.i64.wrap ((q' : Nat) : Int) = (q' : Nat) := by have := QB.out; rw [IntKind.wrap_i64]; omega
          have s6 : wrap64 ((q' : Nat) : Int) = (q' : Nat) := by have := QB.out; unfold wrap64; omega
          have j10 : (j : Int) ≤ 0 := by omega
          have JN : Hid (j + 1 ≤ n5 ∧ (j + 1 = n5 → q' = q') ∧ (j + 1 < n5 → q' = g)) := ⟨by omega, fun _ => rfl, fun h => by omega⟩
          clear jz J hm hm1 mb j1 H5
          go_wp2_with fail
          go_roundw
          case rel => exact ⟨j + 1, q', by go_num, rfl, by first | trivial | rfl, JN⟩
          case measure => simp [intOf]; omega
        · have je : j = n5 := by have := J.out.1; omega
          have jn : (n5 : Int) ≤ (j : Int) := by omega
          have jd : decide ((j : Int) < (n5 : Int)) = false := decide_eq_false (by omega)
          have ge := J.out.2.1 je
          subst ge
          have WN := Lib.hid (H5.out.want AE.out.2.1)
          have NX := Lib.hid H5.out.next
          have NI1 : Hid (i + 1 ≤ n) := NI.out
          clear J je H5
          by_cases tz : (A : Int) ≤ (t' : Int)
          · have tz1 : decide ((A : Int) ≤ (t' : Int)) = true := decide_eq_true tz
            obtain ⟨s, hs⟩ : ∃ s, ((t' : Nat) : Int) - ((A : Nat) : Int) = s := ⟨_, rfl⟩
            have u1 : IntKind.i64.wrap s = s := by have := TB.out; have := AE.out.1; rw [IntKind.wrap_i64]; omega
            have u2 : wrap64 s = s := by have := TB.out; have := AE.out.1; unfold wrap64; omega
            have WN := WN.out
            unfold wantI at WN
            rw [if_pos tz, hs] at WN
            have td : s.tdiv ((E : Nat) : Int) = s / ((E : Nat) : Int) := Int.tdiv_eq_ediv_of_nonneg (by omega)
            obtain ⟨dd, hdd⟩ : ∃ dd, s.tdiv ((E : Nat) : Int) = dd := ⟨_, rfl⟩
            rw [← td, hdd] at WN
            have u3 : (1 : Int) + dd = ((g : Nat) : Int) := WN.symm
            have gb := QB.out
            have u4 : IntKind.i64.wrap dd = dd := by rw [IntKind.wrap_i64]; omega
            have u5 : wrap64 dd = dd := by unfold wrap64; omega
            have u6 : IntKind.i64.wrap ((g : Nat) : Int) = (g : Nat) := by rw [IntKind.wrap_i64]; omega
            have u7 : wrap64 ((g : Nat) : Int) = (g : Nat) := by unfold wrap64; omega
            have u8 : ((E : Nat) : Int) ≠ 0 := by have := AE.out.2.1; omega
            clear td gb WN
            go_wp2_with fail
            go_roundw
            case rel => exact ⟨t', g, i + 1, rfl, rfl, by go_num, NI1, NX⟩
            case measure => simp [intOf]; omega
          · have tz1 : decide ((A : Int) ≤ (t' : Int)) = false := decide_eq_false tz
            have tz2 : (t' : Int) < (A : Int) := by omega
            have WN := WN.out
            unfold wantI at WN
            rw [if_neg tz] at WN
            have g0 : (((g : Nat) : Int) == 0) = true := by rw [WN]; rfl
            have gz : g = 0 := by omega
            have g1 : (g == 0) = true := by rw [gz]; rfl
            clear WN tz gz
            go_wp2_with fail
            go_roundw
            case rel => exact ⟨t', g, i + 1, rfl, rfl, by go_num, NI1, NX⟩
            case measure => simp [intOf]; omega
set_option maxHeartbeats 4000000 in
theorem times14_true (w : World) (x y : Nat) (hx : x < 65536) (hy : y < 65536) (p : Option Addr) (n c : Nat) (ds : List Nat) (hp : Holds w p n c (valsN .u16 ds)) :
    Calls Try.prog 3 #[.bool true, .int .u16 (x : Nat), .int .u16 (y : Nat), .slice p n c] w fun e w' => e = .returned (.bool true) ∧ Below w.heap.size w w' := by
  obtain ⟨A, hA⟩ : ∃ A, x % 10000 = A := ⟨_, rfl⟩
  obtain ⟨B, hB⟩ : ∃ B, y % 9999 = B := ⟨_, rfl⟩
  obtain ⟨E, hE⟩ : ∃ E, 1 + B = E := ⟨_, rfl⟩
  have Ab : A < 10000 := by omega
  have Bb : B < 9999 := by omega
  have a1 : ((x : Nat) : Int).tmod 10000 = (A : Nat) := by rw [Int.tmod_eq_emod_of_nonneg (by omega)]; omega
  have a2 : ((x : Nat) : Int) % 10000 = (A : Nat) := by omega
  have b1 : ((y : Nat) : Int).tmod 9999 = (B : Nat) := by rw [Int.tmod_eq_emod_of_nonneg (by omega)]; omega
  have b2 : ((y : Nat) : Int) % 9999 = (B : Nat) := by omega
  have num : ∀ z : Nat, z < 60000 → IntKind.u16.wrap ((z : Nat) : Int) = (z : Nat) ∧ IntKind.i64.wrap ((z : Nat) : Int) = (z : Nat) ∧ wrap64 ((z : Nat) : Int) = (z : Nat) := by
    clear hA hB hE Ab Bb a1 a2 b1 b2 hx hy
    intro z hz
    refine ⟨by rw [IntKind.wrap_u16]; omega, by rw [IntKind.wrap_i64]; omega, by unfold wrap64; omega⟩
  have AE : Hid (A < 10000 ∧ 1 ≤ E ∧ E ≤ 9999) := by clear hA hB a1 a2 b1 b2 num; unfold Hid; omega
  clear hA hB
  have e1 : (1 : Int) + ((B : Nat) : Int) = (E : Nat) := by clear a1 a2 b1 b2 num; omega
  have E1 : 1 ≤ E := AE.out.2.1
  have e4 : ((E : Nat) : Int) ≠ 0 := by clear a1 a2 b1 b2 num e1; omega
  have e5 : (((E : Nat) : Int) == 0) = false := by rw [beq_eq_false_iff_ne]; exact e4
  have e6 : (E == 0) = false := by rw [beq_eq_false_iff_ne]; intro e; rw [e] at E1; exact absurd E1 (by decide)
  have NA := Lib.hid (num A (Nat.lt_trans Ab (by decide)))
  have NB := Lib.hid (num B (Nat.lt_trans Bb (by decide)))
  have NE := Lib.hid (num E (Nat.lt_of_le_of_lt AE.out.2.2 (by decide)))
  have NUM := Lib.hid num
  clear num hE Ab Bb E1 e4
  have nb : (n : Int) ≤ 9223372036854775807 := by have := hp.cap; have := hp.max; unfold maxLen at this; omega
  have AL : Below w.heap.size w (w.alloc (.cells #[.bool true, .int .i64 (A : Nat), .int .i64 (E : Nat)] 25)) := (Below.refl _ _).alloc (Nat.le_refl _) _
  have BX : Hid ((w.alloc (.cells #[.bool true, .int .i64 (A : Nat), .int .i64 (E : Nat)] 25)).heap[w.heap.size]? = some (.cells #[.bool true, .int .i64 (A : Nat), .int .i64 (E : Nat)] 25 (0, 0))) := heap_alloc_new _ _
  have HP := Lib.hid (hp.below AL)
  have L1 := Lib.hid AL
  have BL : Hid (∀ v wr : World, Below v.heap.size v wr → v.heap[w.heap.size]? = some (.cells #[.bool true, .int .i64 (A : Nat), .int .i64 (E : Nat)] 25 (0, 0)) → wr.cell? ⟨w.heap.size, 0, none⟩ = some (.bool true) ∧ wr.cell? ⟨w.heap.size, 1, none⟩ = some (.int .i64 (A : Nat)) ∧ wr.cell? ⟨w.heap.size, 2, none⟩ = some (.int .i64 (E : Nat))) := fun v wr b h => by
    have h' := (b.block _ (Array.getElem?_eq_some_iff.1 h).1).trans h
    exact ⟨blk_cell h', blk_cell h', blk_cell h'⟩
  clear hp AL hx hy
  obtain ⟨a3, a4, a5⟩ := NA.out
  obtain ⟨b3, b4, b5⟩ := NB.out
  obtain ⟨e0x, e2, e3⟩ := NE.out
  clear e0x
  go_enter Try.func3, Try.ntmps3
  go_wp2_with fail
  generalize w.alloc (.cells #[.bool true, .int .i64 (A : Nat), .int .i64 (E : Nat)] 25) = v at *
  obtain ⟨bx, hbx⟩ : ∃ bx, w.heap.size = bx := ⟨_, rfl⟩
  have HX := Lib.hid hbx
  rw [hbx] at BX BL ⊢
  clear hbx a1 a2 a3 a4 a5 b1 b2 b3 b4 b5 e1 e2 e3 NB
  refine (pnew14 v v (Below.refl _ _)).mono ?_; rintro r0 w0 ⟨N, rfl, T0⟩
  obtain ⟨q0, q1, q2⟩ := BL.out v w0 T0.low BX.out
  have AD : Hid (Calls Try.prog 7 #[.pointer (some ⟨N, 0, none⟩), .agg #[.bool true, .int .i64 (A : Nat), .int .i64 (E : Nat)]] w0 fun r w' => r = .returned (.tuple #[.int .u64 1, .int .i64 0]) ∧ TAt v w' N (stT true A E)) :=
    T0.add true A E (by omega) (by have := AE.out; unfold topT; omega) (by omega) (by have := AE.out; unfold topT; omega) (by decide) (by decide)
  clear T0
  go_wp2_with fail
  refine AD.out.mono ?_; rintro r1 w1 ⟨rfl, T1⟩
  have S0 : Hid (TmsS v w1 N true A E 0 0 0) := ⟨by
    have e : (A : Int) + ((0 : Nat) : Int) * (E : Int) = A := by rw [show ((0 : Nat) : Int) = 0 from rfl, Int.zero_mul, Int.add_zero]
    rw [e]; exact T1, Nat.zero_le _, by decide, .inl rfl⟩
  clear AD T1 q0 q1 q2
  go_wp2_with fail
  go_loopw [13, 14, 15] (fun nw cc ii wr => ∃ t q i : Nat, nw = .int .i64 (t : Nat) ∧ cc = .int .i64 (q : Nat) ∧ ii = .int .i64 (i : Nat) ∧ Hid (i ≤ n) ∧ Hid (TmsS v wr N true A E t q i)) (fun _ _ ii _ => 1000 - (intOf ii).toNat)
  case atStart => exact ⟨0, 0, 0, rfl, rfl, rfl, Nat.zero_le _, S0.out⟩
  case round =>
    clear S0
    obtain ⟨t, q, i, rfl, rfl, rfl, hb, S⟩ := hrel
    have i0 : (0 : Int) ≤ (i : Int) := by omega
    have i40 : (i : Int) ≤ 40 := by have := S.out.ib; omega
    have AV := Lib.hid (fun w => alive14_any w)
    have stop : (n ≤ i) ∨ (i < n ∧ i = 40) ∨ (i < n ∧ i < 40) := by have := S.out.ib; omega
    rcases stop with z | ⟨z, z'⟩ | ⟨z, z'⟩
    · have z1 : (n : Int) ≤ (i : Int) := by omega
      have z2 : decide ((i : Int) < (n : Int)) = false := decide_eq_false (by omega)
      have LE := Lib.hid (L1.out.trans (S.out.tat.low.mono L1.out.size))
      clear hb z S HP BL BX
      go_wp2_with (go_at_call 9; refine (AV.out _).mono ?_; rintro r9 w9 ⟨rfl, l9⟩; have L9 := Lib.hid (LE.out.trans (l9.mono LE.out.size)); clear l9)
      go_ret
      exact ⟨rfl, L9.out⟩
    · have h' : (i : Int) < (n : Int) := by omega
      have z3 : decide ((i : Int) < 40) = false := decide_eq_false (by omega)
      have z4 : (40 : Int) ≤ (i : Int) := by omega
      have z5 : decide (i < 40) = false := decide_eq_false (by omega)
      have LE := Lib.hid (L1.out.trans (S.out.tat.low.mono L1.out.size))
      clear hb z z' S HP BL BX
      go_wp2_with (go_at_call 9; refine (AV.out _).mono ?_; rintro r9 w9 ⟨rfl, l9⟩; have L9 := Lib.hid (LE.out.trans (l9.mono LE.out.size)); clear l9)
      go_ret
      exact ⟨rfl, L9.out⟩
    · clear AV
      have h' : (i : Int) < (n : Int) := by omega
      have z3 : (i : Int) < 40 := by omega
      have I40 := Lib.hid z'
      have NI := Lib.hid z
      obtain ⟨ap, rfl, cz⟩ := (HP.out.below S.out.tat.low).atN z
      obtain ⟨dz, hdz⟩ : ∃ d, ds.getD i 0 = d := ⟨_, rfl⟩
      rw [hdz] at cz
      obtain ⟨d, hd⟩ : ∃ d, dz % 5000 = d := ⟨_, rfl⟩
      obtain ⟨t', ht'⟩ : ∃ t', t + d = t' := ⟨_, rfl⟩
      have d1 : ((dz : Nat) : Int).tmod 5000 = (d : Nat) := by rw [Int.tmod_eq_emod_of_nonneg (by omega)]; omega
      have d2 : ((dz : Nat) : Int) % 5000 = (d : Nat) := by omega
      have dl : d < 5000 := by omega
      have tb := S.out.tb
      have t1 : ((t : Nat) : Int) + ((d : Nat) : Int) = (t' : Nat) := by omega
      have TB : Hid (t' ≤ 200000) := by unfold Hid; omega
      have FI : Hid (∀ w6, TmsS v w6 N true A E t q i → Calls Try.prog 8 #[.pointer (some ⟨N, 0, none⟩), .int .i64 0, .int .i64 (t' : Nat)] w6 fun r w' => ∃ p n c q', r = .returned (.slice p n c) ∧ TmsH v w' N true A E t' i q q' p n c) := fun w6 S6 => by
        have := S6.fire AE.out.2.1 AE.out.2.2 dl z' 0 (t' : Nat) (by rw [ht']; rfl) (by have := TB.out; omega)
        rw [ht'] at this
        exact this
      have ID := Lib.hid (S.out.idle AE.out.2.1 AE.out.2.2 (t' : Nat) (by have := TB.out; omega))
      have t2 : IntKind.i64.wrap ((t' : Nat) : Int) = (t' : Nat) := by have := TB.out; rw [IntKind.wrap_i64]; omega
      have t3 : wrap64 ((t' : Nat) : Int) = (t' : Nat) := by have := TB.out; unfold wrap64; omega
      obtain ⟨d3, d4, d5⟩ := NUM.out d (Nat.lt_trans dl (by decide))
      clear hb z z' hdz hd ht' dl tb S
      go_wp2_with fail
      refine ID.out.mono ?_; rintro r2 w6 ⟨p6, c6, rfl, S6⟩
      have S6 := Lib.hid S6
      clear ID
      go_wp2_with fail
      refine (FI.out _ S6.out).mono ?_; rintro r2 w5 ⟨p5, n5, c5, q', rfl, H5⟩
      have H5 := Lib.hid H5
      clear FI S6
      obtain ⟨v0', v1', v2'⟩ := BL.out v _ H5.out.next.tat.low BX.out
      have ID := Lib.hid (H5.out.idle AE.out.2.1 AE.out.2.2 (t' : Nat) (by have := TB.out; omega))
      have m1 := H5.out.one
      have m2 : (n5 : Int) ≤ 1 := by omega
      have m3 : decide ((1 : Int) < (n5 : Int)) = false := decide_eq_false (by omega)
      have m4 : decide (1 < n5) = false := decide_eq_false (by omega)
      go_upto_region 14 with fail
      go_cut [79] from 62 to 79 (fun b wx => b = .bool false ∧ Hid (TmsH v wx N true A E t' i q q' p5 n5 c5))
      case first =>
        by_cases az : A = 0
        · subst az
          clear ID
          go_wp2_with fail
          go_meet
          exact ⟨rfl, H5.out⟩
        · have g1 : (((A : Nat) : Int) == 0) = false := by rw [beq_eq_false_iff_ne]; omega
          have g2 : (A == 0) = false := by rw [beq_eq_false_iff_ne]; exact az
          have g3 : ¬ ((A : Nat) : Int) = 0 := by omega
          clear az H5
          go_wp2_with fail
          refine ID.out.mono ?_; rintro r2 w7 ⟨p7, c7, rfl, H7⟩
          have H7 := Lib.hid H7
          go_wp2_with fail
          go_meet
          exact ⟨rfl, H7.out⟩
      obtain ⟨rfl, H5⟩ := hcut
      clear ID v0' v1' v2' m1 m2 m3 m4
      /- the tail: the loop over what fired -/
      clear d1 d2 d3 d4 d5 t1 t2 t3
      obtain ⟨q0', qx1, qx2⟩ := BL.out v _ H5.out.next.tat.low BX.out
      have n1 := H5.out.one
      have QB := Lib.hid (H5.out.qb AE.out.2.1)
      clear q0'
      have n2 : (n5 : Int) ≤ 1 := by omega
      have n3 : decide ((1 : Int) < (n5 : Int)) = false := decide_eq_false (by omega)
      have n4 : decide (1 < n5) = false := decide_eq_false (by omega)
      clear n1
      go_wp2_with fail
      go_loopw [14, 17] (fun cc kk wx => ∃ j g : Nat, kk = .int .i64 (j : Nat) ∧ cc = .int .i64 (g : Nat) ∧ wx = wc ∧ Hid (j ≤ n5 ∧ (j = n5 → g = q') ∧ (j < n5 → g = q))) (fun _ kk _ => 10 - (intOf kk).toNat)
      case atStart => exact ⟨0, q, rfl, rfl, rfl, Nat.zero_le _, fun e => by
        obtain ⟨fs, -, e1 | e1⟩ := H5.out.row
        · exact e1.2.symm
        · omega, fun _ => rfl⟩
      case round =>
        obtain ⟨j, g, rfl, rfl, rfl, J⟩ := hrel
        have j0 : (0 : Int) ≤ (j : Int) := by omega
        by_cases jz : j < n5
        · obtain ⟨j1, -, a5, m, rfl, r0, r5, hm⟩ := H5.out.read jz
          have jn : (j : Int) < (n5 : Int) := by omega
          have gq := J.out.2.2 jz
          subst gq
          obtain ⟨m1, hm1⟩ : ∃ m1, 1 + m = m1 := ⟨_, rfl⟩
          have s1 : (1 : Int) + ((m : Nat) : Int) = (m1 : Nat) := by omega
          have s2 : ((g : Nat) : Int) + ((m1 : Nat) : Int) = (q' : Nat) := by omega
          have mb : m1 ≤ 200001 := by have := QB.out; omega
          have s3 : IntKind.i64.wrap ((m1 : Nat) : Int) = (m1 : Nat) := by rw [IntKind.wrap_i64]; omega
          have s4 : wrap64 ((m1 : Nat) : Int) = (m1 : Nat) := by unfold wrap64; omega
          have s5 : IntKind.i64.wrap ((q' : Nat) : Int) = (q' : Nat) := by have := QB.out; rw [IntKind.wrap_i64]; omega
          have s6 : wrap64 ((q' : Nat) : Int) = (q' : Nat) := by have := QB.out; unfold wrap64; omega
          have j10 : (j : Int) ≤ 0 := by omega
          have JN : Hid (j + 1 ≤ n5 ∧ (j + 1 = n5 → q' = q') ∧ (j + 1 < n5 → q' = g)) := ⟨by omega, fun _ => rfl, fun h => by omega⟩
          clear jz J hm hm1 mb j1 H5
          go_wp2_with fail
          go_roundw
          case rel => exact ⟨j + 1, q', by go_num, rfl, by first | trivial | rfl, JN⟩
          case measure => simp [intOf]; omega
        · have je : j = n5 := by have := J.out.1; omega
          have jn : (n5 : Int) ≤ (j : Int) := by omega
          have jd : decide ((j : Int) < (n5 : Int)) = false := decide_eq_false (by omega)
          have ge := J.out.2.1 je
          subst ge
          have WN := Lib.hid (H5.out.want AE.out.2.1)
          have NX := Lib.hid H5.out.next
          have NI1 : Hid (i + 1 ≤ n) := NI.out
          clear J je H5
          by_cases tz : (A : Int) ≤ (t' : Int)
          · have tz1 : decide ((A : Int) ≤ (t' : Int)) = true := decide_eq_true tz
            obtain ⟨s, hs⟩ : ∃ s, ((t' : Nat) : Int) - ((A : Nat) : Int) = s := ⟨_, rfl⟩
            have u1 : IntKind.i64.wrap s = s := by have := TB.out; have := AE.out.1; rw [IntKind.wrap_i64]; omega
            have u2 : wrap64 s = s := by have := TB.out; have := AE.out.1; unfold wrap64; omega
            have WN := WN.out
            unfold wantI at WN
            rw [if_pos tz, hs] at WN
            have td : s.tdiv ((E : Nat) : Int) = s / ((E : Nat) : Int) := Int.tdiv_eq_ediv_of_nonneg (by omega)
            obtain ⟨dd, hdd⟩ : ∃ dd, s.tdiv ((E : Nat) : Int) = dd := ⟨_, rfl⟩
            rw [← td, hdd] at WN
            have u3 : (1 : Int) + dd = ((g : Nat) : Int) := WN.symm
            have gb := QB.out
            have u4 : IntKind.i64.wrap dd = dd := by rw [IntKind.wrap_i64]; omega
            have u5 : wrap64 dd = dd := by unfold wrap64; omega
            have u6 : IntKind.i64.wrap ((g : Nat) : Int) = (g : Nat) := by rw [IntKind.wrap_i64]; omega
            have u7 : wrap64 ((g : Nat) : Int) = (g : Nat) := by unfold wrap64; omega
            have u8 : ((E : Nat) : Int) ≠ 0 := by have := AE.out.2.1; omega
            clear td gb WN
            go_wp2_with fail
            go_roundw
            case rel => exact ⟨t', g, i + 1, rfl, rfl, by go_num, NI1, NX⟩
            case measure => simp [intOf]; omega
          · have tz1 : decide ((A : Int) ≤ (t' : Int)) = false := decide_eq_false tz
            have tz2 : (t' : Int) < (A : Int) := by omega
            have WN := WN.out
            unfold wantI at WN
            rw [if_neg tz] at WN
            have g0 : (((g : Nat) : Int) == 0) = true := by rw [WN]; rfl
            have gz : g = 0 := by omega
            have g1 : (g == 0) = true := by rw [gz]; rfl
            clear WN tz gz
            go_wp2_with fail
            go_roundw
            case rel => exact ⟨t', g, i + 1, rfl, rfl, by go_num, NI1, NX⟩
            case measure => simp [intOf]; omega
end Go.Proofs.Ytbfmmeapjfljbaa
