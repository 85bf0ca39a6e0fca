/- The walk of OctetHole where the number fits and the place is within: Put changes its place alone. -/
import Derived.Test.YtpamnephndoefaaOctHoleW
import Derived.Deep.RegionHeld3
namespace Go.Proofs.Ytpamnephndoefaa
open Go.ChangeShapes Go.WideShapes Go.ChangeAt Go.RowKit OctM

set_option maxRecDepth 100000 in
set_option maxHeartbeats 40000000 in
theorem hole_ok_walk_a (HC : OctCode) (w : World) (p : Option Addr) (nn c m k pp sz at' v : Nat) (es : List Nat) (I : HoleIn w p nn c m k pp sz at' es) (hs : sz < 256) (ha : at' < 256) (hv : v < 18446744073709551616) (hk : k < 8) (hf : v < 256 ^ k) (hl : pp + k ≤ es.length) :
    Calls Try.prog 7 #[.slice p nn c, .agg #[.int .u8 sz, .int .u64 v], .int .u8 at'] w fun e w' => e = .returned (.bool true) ∧ Below w.heap.size w w' := by
  have HH := Lib.hid HC
  have II := Lib.hid I
  have e1 := I.em
  have e2 := I.ek
  have e3 := I.ep
  have q1 : (1 : Int) ≤ (k : Int) := by have := I.k1; omega
  have q8 : (k : Int) ≤ 8 := by have := I.k8; omega
  have q2 : (m : Int) ≤ (c : Int) := by have := I.mc; omega
  have q3 : (m : Int) ≤ 200 := by have := I.mb; omega
  have q5 : (sz : Int) < 256 := by omega
  have q6 : (at' : Int) < 256 := by omega
  have q4 : decide ((k : Int) < 8) = true := by simp; omega
  have q4' : (k : Int) < 8 := by omega
  have q7 : (((v : Int) / 2 ^ (8 * k)) != 0) = false := by rw [shr_ne]; exact decide_eq_false (not_not_intro hf)
  have q7' : (((v : Int) / 2 ^ (8 * k)) == 0) = true := by rw [shr_eq]; exact decide_eq_true hf
  have q9 : (pp : Int) + (k : Int) ≤ (m : Int) := by have := I.len; omega
  have q10 : decide ((m : Int) < (pp : Int) + (k : Int)) = false := by simp; omega
  have q11 : (pp : Int) ≤ (m : Int) := by have := I.len; omega
  obtain ⟨D, hD⟩ : ∃ D, D = holeD es pp k v := ⟨_, rfl⟩
  obtain ⟨u, hu⟩ : ∃ u, u = numN ((es.drop pp).take k) := ⟨_, rfl⟩
  have r1 : Hid (putD es (pp : Int) (k : Int) v = D ∧ putE es (pp : Int) (k : Int) v = 0) := by rw [hD]; exact hole_put es pp k v I.k1 I.k8 hf hl
  have r2 : Hid (atV D (pp : Int) (k : Int) = v ∧ decide (inP D.length (pp : Int) (k : Int)) = true) := by rw [hD]; exact hole_at es pp k v I.k1 I.k8 hf hl
  have r3 : Hid (atV es (pp : Int) (k : Int) = u ∧ decide (inP es.length (pp : Int) (k : Int)) = true) := by rw [hu]; exact hole_is es pp k I.k1 I.k8 hl
  have ub : u < 256 ^ k := by rw [hu]; exact hole_was es pp k I.byt hl
  have UB : Hid (u < 18446744073709551616) := by unfold Hid; have := pow_le8 k I.k8; omega
  have r4 : Hid (putD D (pp : Int) (k : Int) u = es ∧ putE D (pp : Int) (k : Int) u = 0) := by
    have a := hole_put D pp k u I.k1 I.k8 ub (by rw [hD, holeD_len _ _ _ _ hl]; exact hl)
    rwa [hD, hu, hole_back es pp k v I.byt hl, ← hu, ← hD] at a
  have r5 : Hid (D.take pp = es.take pp) := by rw [hD]; exact holeD_take es pp k v hl
  have r6 : Hid (D.drop (pp + k) = es.drop (pp + k)) := by rw [hD]; exact holeD_drop es pp k v hl
  have yD : Hid (Byt D) := by rw [hD]; exact holeD_byt I.byt pp k v
  have LD : Hid (D.length = m) := by rw [hD]; unfold Hid; rw [holeD_len _ _ _ _ hl]; exact I.len
  have PK : Hid (pp + k ≤ m) := by unfold Hid; have := I.len; omega
  have HV := Lib.hid hv
  have KI : Hid (I64 (k : Int)) := i64k _ (by omega) (by omega)
  have PI : Hid (I64 (pp : Int)) := i64k _ (by omega) (by have := I.pm; omega)
  clear I hs ha hv HC hf hk hl hD hu ub
  go_enter Try.func7, Try.ntmps7
  go_wp2_with fail
  go_quiet (fail)
  have W1 : Hid (Below w.heap.size w ((w.alloc (.cells #[.int .u8 sz, .int .u64 v] 64)).drewN nq)) := below_drewN (laidB _ _) nq
  generalize hw : (w.alloc (.cells #[.int .u8 sz, .int .u64 v] 64)).drewN nq = w1 at *
  clear hw
  go_wp2_with fail
  refine (put_at HH.out _ _ _ _ es pp k v D 0 (II.out.rows _ W1.out) II.out.byt PI.out KI.out (by have := II.out.mb; omega) HV.out r1.out.1 r1.out.2).mono ?_
  rintro e w2 ⟨px, cx, he, nx, l⟩
  rw [LD.out] at he nx
  subst he
  have W2 : Hid (Below w.heap.size w w2) := seqB W1.out l
  have NX := Lib.hid nx.holds
  clear l nx
  go_wp2_with fail
  refine (at_at HH.out _ _ _ _ es pp k u true (II.out.rows _ W2.out) II.out.byt PI.out KI.out (by have := II.out.mb; omega) r3.out.1 r3.out.2).mono ?_
  rintro e w3 ⟨rfl, l⟩
  have L23 := Lib.hid l
  clear l
  go_wp2_with fail
  refine (at_at HH.out _ _ _ _ D pp k v true (NX.out.below L23.out) yD.out PI.out KI.out (by have := II.out.mb; omega) r2.out.1 r2.out.2).mono ?_
  rintro e w4 ⟨rfl, l⟩
  have L24 : Hid (Below w2.heap.size w2 w4) := seqB L23.out l
  clear l
  go_wp2_with fail
  refine (put_at HH.out _ _ _ _ D pp k u es 0 (NX.out.below L24.out) yD.out PI.out KI.out (by have := II.out.mb; omega) UB.out r4.out.1 r4.out.2).mono ?_
  rintro e w5 ⟨py, cy, he, ny, l⟩
  rw [II.out.len] at he ny
  subst he
  have L25 : Hid (Below w2.heap.size w2 w5) := seqB L24.out l
  have W5 : Hid (Below w.heap.size w w5) := seqB W2.out L25.out
  have NY := Lib.hid ny.holds
  clear l ny
  have xc : m ≤ cx := NX.out.cap
  have xc' : (m : Int) ≤ (cx : Int) := by omega
  have XC := Lib.hid xc
  obtain ⟨a, ea, -⟩ := NX.out.atN (i := 0) (by have := PK.out; have := II.out.k1; omega)
  obtain ⟨b, eb, -⟩ := (II.out.rows _ (Below.refl _ _)).atN (i := 0) (by have := PK.out; have := II.out.k1; omega)
  subst ea eb
  have E1 : Hid (∀ w', Below w5.heap.size w5 w' → Calls Try.prog 17 #[.slice (some a) pp cx, .slice (some b) pp c] w' fun e w'' => e = .returned (.bool true) ∧ w' = w'') := fun w' h => by
    have h1 := holdsN_take (NX.out.below (seqB L25.out h)) (k := pp) (by have := PK.out; omega)
    rw [r5.out] at h1
    exact bequal_same w' _ _ _ _ _ _ (es.take pp) h1 (holdsN_take (II.out.rows _ (seqB W5.out h)) (k := pp) (by have := PK.out; omega)) (byt_take II.out.byt _)
  have E3 : Hid (∀ w', Below w5.heap.size w5 w' → Calls Try.prog 17 #[.slice py m cy, .slice (some b) m c] w' fun e w'' => e = .returned (.bool true) ∧ w' = w'') := fun w' h =>
    bequal_same w' _ _ _ _ _ _ es (NY.out.below h) (II.out.rows _ (seqB W5.out h)) II.out.byt
  have H1 : ∀ w', Below w5.heap.size w5 w' → Holds w' (if cx = pp + k then some a else (some a).map (·.add ((pp + k) * 1))) (m - (pp + k)) (cx - (pp + k)) (valsN .u8 (es.drop (pp + k))) := fun w' h => by
    have h1 := drop_own (NX.out.below (seqB L25.out h)) PK.out
    rwa [r6.out] at h1
  have H2 : ∀ w', Below w5.heap.size w5 w' → Holds w' (if c = pp + k then some b else (some b).map (·.add ((pp + k) * 1))) (m - (pp + k)) (c - (pp + k)) (valsN .u8 (es.drop (pp + k))) := fun w' h =>
    drop_own (II.out.rows _ (seqB W5.out h)) PK.out
  clear xc
  have z1 : (0 : Int) ≤ (pp : Int) := by omega
  have z2 : (pp : Int) ≤ (cx : Int) := by omega
  have z3 : (pp : Int) ≤ (c : Int) := by omega
  have z4 : (0 : Int) ≤ (pp : Int) + (k : Int) := by omega
  have z6 : IntKind.i64.wrap ((pp : Int) + (k : Int)) = (pp : Int) + (k : Int) := by rw [IntKind.wrap_i64]; omega
  have z7 : (m : Int) ≤ (cx : Int) := by omega
  have HB0 : Below w5.heap.size w5 w5.drew := (Below.refl _ _).drew
  have tn : ((pp : Int) + (k : Int)).toNat = pp + k := by omega
  obtain ⟨pa, hpa⟩ : ∃ pa : Option Addr, (if cx = ((pp : Int) + (k : Int)).toNat then some a else some (a.add ((pp : Int) + (k : Int)).toNat)) = pa := ⟨_, rfl⟩
  obtain ⟨pb, hpb⟩ : ∃ pb : Option Addr, (if c = ((pp : Int) + (k : Int)).toNat then some b else some (b.add ((pp : Int) + (k : Int)).toNat)) = pb := ⟨_, rfl⟩
  have E2 : Hid (∀ w', Below w5.heap.size w5 w' → Calls Try.prog 17 #[.slice pa (m - ((pp : Int) + (k : Int)).toNat) (cx - ((pp : Int) + (k : Int)).toNat), .slice pb (m - ((pp : Int) + (k : Int)).toNat) (c - ((pp : Int) + (k : Int)).toNat)] w' fun e w'' => e = .returned (.bool true) ∧ w' = w'') := fun w' h => by
    have h1 := H1 w' h
    have h2 := H2 w' h
    rw [Option.map_some, Nat.mul_one, ← tn, hpa] at h1
    rw [Option.map_some, Nat.mul_one, ← tn, hpb] at h2
    exact bequal_same w' _ _ _ _ _ _ (es.drop ((pp : Int) + (k : Int)).toNat) h1 h2 (byt_drop II.out.byt _)
  clear H1 H2 tn
  go_wp2_with fail
  go_region_held3 (fun _ => True)
    (trivial)
    (first
      | (go_at_call 19; refine (awake3_any HH.out _).mono ?_; rintro e w6 ⟨rfl, l⟩; have HB1 : Below w5.heap.size w5 w6 := HB0.trans (l.mono (Nat.le_refl _)); clear l)
      | (go_at_call 17; (first | refine (E1.out _ HB1).mono ?_ | refine (E2.out _ HB1).mono ?_ | refine (E3.out _ HB1).mono ?_); rintro e wx ⟨rfl, rfl⟩))
  have FIN : Hid (Below w.heap.size w w6) := seqB W5.out HB1
  go_wp2
  go_ret
  exact ⟨rfl, FIN.out⟩
end Go.Proofs.Ytpamnephndoefaa
