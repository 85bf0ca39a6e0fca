/- The walk of OctetBack: rows there and back. -/
import Derived.Test.YtpamnephndoefaaOctBackM
import Derived.Test.YtpamnephndoefaaOctCode
import Derived.Test.YtpamnephndoefaaAppend
namespace Go.Proofs.Ytpamnephndoefaa
open Go.ChangeShapes Go.WideShapes Go.ChangeAt Go.RowKit OctM

/-- Lay where all fits: the row is the call's own. -/
theorem lay_row (w : World) (p q : Option Addr) (n c c' : Nat) (zs : List Int) (xs : List Nat) (D : List Nat) (hz : Holds w p n c (valsI .i64 zs)) (hx : Holds w q n c' (valsN .u64 xs)) (h64 : ∀ x ∈ xs, x < 18446744073709551616) (hn : n ≤ 1000) (hE : layE zs xs = 0) (hD : layD zs xs = D) (L : Nat) (hL : D.length = L) :
    Calls Try.prog 11 #[.slice p n c, .slice q n c'] w (RowPost w L D) := by
  have lz : zs.length = n := by have := hz.len; rwa [valsI_len] at this
  have lx : xs.length = n := by have := hx.len; rwa [valsN_len] at this
  subst lz
  have h : okAll zs ∧ xs.length = zs.length := by
    unfold layE at hE
    split at hE
    · assumption
    · omega
  have f : fitT zs xs zs.length := by
    unfold layE at hE
    rw [if_pos h] at hE
    split at hE
    · assumption
    · omega
  have e : layT zs xs zs.length = D := by rw [← hD]; unfold layD; rw [if_pos ⟨h, f⟩]
  have a := layT_at xs h.1 (k := zs.length) (Nat.le_refl _)
  rw [e, hL] at a
  refine (play_any w p q zs.length c c' L zs xs hz hx h64 hn h.1 a.symm).mono fun e' w' k => ?_
  rcases k with ⟨_, r⟩ | ⟨g, _⟩
  · rwa [e] at r
  · exact absurd f g

/-- What every way through the law begins with. -/
structure BackIn (w : World) (p0 p : Option Addr) (n0 c0 n c N K M cut L : Nat) (zs : List Int) (xs D bh es : List Nat) : Prop where
  cells : Calls Try.prog 28 #[.slice p0 n0 c0] w fun e w' => ∃ p1 c1 p2 c2, e = .returned (.tuple #[.slice p1 N c1, .slice p2 N c2]) ∧ Holds w' p1 N c1 (valsI .i64 zs) ∧ Holds w' p2 N c2 (valsN .u64 xs) ∧ Below w.heap.size w w'
  n30 : N ≤ 30
  ok : okAll zs
  zlen : zs.length = N
  xlen : xs.length = N
  x64 : ∀ x ∈ xs, x < 18446744073709551616
  num : BackN zs xs D L
  kmin : min (n : Int) (cut : Int) = (K : Int)
  mmin : min (n : Int) 300 = (M : Int)
  kc : K ≤ c
  mc : M ≤ c
  k255 : K ≤ 255
  m300 : M ≤ 300
  hbh : ∀ w', Below w.heap.size w w' → Holds w' p K c (valsN .u8 bh)
  bhy : Byt bh
  hes : ∀ w', Below w.heap.size w w' → Holds w' p M c (valsN .u8 es)
  esy : Byt es
  blen : bh.length = K
  elen : es.length = M
  nb : n ≤ 9223372036854775807

set_option maxRecDepth 100000 in
set_option maxHeartbeats 8000000 in
theorem back_1 (w : World) (p0 p : Option Addr) (n0 c0 n c N K M cut L : Nat) (zs : List Int) (xs D bh es : List Nat) (I : BackIn w p0 p n0 c0 n c N K M cut L zs xs D bh es) (hc : cut < 256) (hL : 1 ≤ L) (hM : M < L) :
    Calls Try.prog 5 #[.slice p0 n0 c0, .slice p n c, .int .u8 cut] w fun e w' => e = .returned (.bool true) ∧ Below w.heap.size w w' := by
  have II := Lib.hid I
  obtain ⟨i0, hi, hz0, hz1, hz2⟩ := info_of info8
  have q1 := I.kmin
  have q2 : (K : Int) ≤ (c : Int) := by have := I.kc; omega
  have q3 := I.mmin
  have q4 : (M : Int) ≤ (c : Int) := by have := I.mc; omega
  have q5 : (cut : Int) < 256 := by omega
  have q6 : (n : Int) ≤ 9223372036854775807 := by have := I.nb; omega
  have q7 : (N : Int) ≤ 30 := by have := I.n30; omega
  have l8 : L ≤ 240 := by have := I.num.low; have := I.zlen; have := I.n30; omega
  have q8 : (L : Int) ≤ 240 := by omega
  have bL : ((L : Int) != (L : Int)) = false := by simp
  have L8 := Lib.hid l8
  have HL := Lib.hid hL
  have HM := Lib.hid hM
  have BM : Hid (L + K ≤ maxLen) := by unfold Hid maxLen; have := I.k255; omega
  have BY : Hid ((L + K) * 1 ≤ 140737488355328) := by unfold Hid; have := I.k255; omega
  clear I hc l8 hL hM
  go_enter Try.func5, Try.ntmps5
  go_wp2_with fail
  refine II.out.cells.mono ?_; rintro e w1 ⟨p1, c1, p2, c2, rfl, h1, h2, l⟩
  have H1 := Lib.hid h1
  have H2 := Lib.hid h2
  have W1 := Lib.hid l
  clear h1 h2 l
  go_wp2_with fail
  refine (lay_row _ _ _ N _ _ zs xs D H1.out H2.out II.out.x64 (by have := II.out.n30; omega) II.out.num.lay.2 II.out.num.lay.1 L II.out.num.len).mono ?_
  rintro e w2 ⟨v, rfl, o, l⟩
  obtain ⟨px, cx, rfl, hx⟩ := own_holds o
  have HX := Lib.hid hx
  have L12 := Lib.hid l
  clear hx o l
  go_wp2_with fail
  refine (width_at oct_code _ _ N _ zs (L : Int) 0 (H1.out.below L12.out) (by have := II.out.n30; omega) II.out.num.wid.1 II.out.num.wid.2).mono ?_
  rintro e w3 ⟨rfl, l⟩
  have L23 := Lib.hid l
  clear l
  go_wp2_with fail
  refine (clone8_any _ _ _ _ D (HX.out.below L23.out) (by have := L8.out; omega)).mono ?_
  rintro e w4 ⟨v3, rfl, o3, l⟩
  have L24 : Hid (Below w2.heap.size w2 w4) := seqB L23.out l
  have L34 := Lib.hid l
  have O3 := Lib.hid o3
  clear l o3
  have BS : Hid (w3.heap.size ≤ w4.heap.size) := L34.out.size
  have WB : Hid (Holds w4 p K c (valsN .u8 bh)) := II.out.hbh _ (seqB W1.out (seqB L12.out L24.out))
  go_wp2_with (at_builtin; refine append_held rfl _ _ 24 rfl w3.heap.size 5 i0 (.int .u8 0) 1 Try.underlying24 hi hz0 hz1 hz2 rfl v3 L (valsN .u8 D) rfl O3.out p K c (valsN .u8 bh) rfl WB.out (valsN_one _ _) BM.out BY.out BS.out ?_)
  intro v4 w5 o4 g4
  obtain ⟨p4, c4, rfl, h4⟩ := own_holds o4
  rw [← valsN_append] at h4
  have L25 : Hid (Below w2.heap.size w2 w5) := L24.out.grown g4 L24.out.size (fun j hj => Nat.le_trans L23.out.size (World.ownsRow.lt O3.out j hj).1)
  have H4 := Lib.hid h4
  clear o4 g4 h4
  go_wp2_with fail
  refine (take_at oct_code _ _ _ N _ (L + K) _ zs (D ++ bh) xs bh 0 (H1.out.below (seqB L12.out L25.out)) H4.out (byt_append II.out.num.byt II.out.bhy) (by have := II.out.n30; omega) (by have := L8.out; have := II.out.k255; omega) (II.out.num.take bh).1 (II.out.num.take bh).2.1 (II.out.num.take bh).2.2).mono ?_
  rintro e w6 ⟨p5, c5, q5', d5, he, h5, h6, l⟩
  rw [II.out.xlen, II.out.blen] at he
  rw [II.out.xlen] at h5
  rw [II.out.blen] at h6
  subst he
  have L26 : Hid (Below w2.heap.size w2 w6) := seqB L25.out l
  have H5 := Lib.hid h5.holds
  have H6 := Lib.hid h6.holds
  clear l h5 h6
  go_wp2_with fail
  refine (sequal_any _ _ _ N _ N _ xs xs H5.out (H2.out.below (seqB L12.out L26.out)) (by have := II.out.n30; omega) (by have := II.out.n30; omega)).mono ?_
  rintro e w7 ⟨rfl, k7, rfl⟩
  rw [decide_eq_true rfl]
  have L67 : Hid (Below w6.heap.size w6 (w6.drewN k7)) := below_drewN (Below.refl _ _) _
  have L27 : Hid (Below w2.heap.size w2 (w6.drewN k7)) := seqB L26.out L67.out
  go_wp2_with fail
  refine (bequal_same _ _ _ K _ K _ bh (H6.out.below L67.out) (II.out.hbh _ (seqB W1.out (seqB L12.out L27.out))) II.out.bhy).mono ?_
  rintro e w8 ⟨rfl, rfl⟩
  go_wp2_with fail
  generalize hw : w6.drewN k7 = w8 at *
  clear hw L67 H5 H6 H4 BS WB O3 L34 L24 L25 L26
  go_loopw [17, 91] (fun a i wr => ∃ k t : Nat, i = .int .i64 k ∧ a = .int .i64 t ∧ Hid (k ≤ N) ∧ Hid (atT zs k = t) ∧ Hid (Below w2.heap.size w2 wr)) (fun _ i _ => 2000 - (intOf i).toNat)
  case atStart => exact ⟨0, 0, rfl, rfl, Nat.zero_le _, rfl, L27⟩
  case round =>
    obtain ⟨k, t, rfl, rfl, hk, ht, h⟩ := hrel
    by_cases g : k < N
    · have g' : (k : Int) < (N : Int) := by omega
      have G := Lib.hid g
      obtain ⟨a, ea, ca⟩ := (H1.out.below (seqB L12.out h.out)).atI g
      subst ea
      obtain ⟨s, es'⟩ : ∃ s, (zs.getD k 0).toNat = s := ⟨_, rfl⟩
      have os := okAll_get II.out.ok (i := k) (by rw [II.out.zlen]; exact g)
      have e0 : zs.getD k 0 = (s : Int) := by unfold okS at os; omega
      rw [e0] at ca
      have s1 : (1 : Int) ≤ (s : Int) := by unfold okS at os; omega
      have s8 : (s : Int) ≤ 8 := by unfold okS at os; omega
      have a1 := atT_succ II.out.ok (k := k) (by rw [II.out.zlen]; exact g)
      rw [es', ht.out] at a1
      have a2 := II.out.num.at' k (by rw [II.out.zlen]; exact g)
      rw [e0, ht.out] at a2
      have a3 : (t : Int) ≤ 240 := by
        have := a2.2.2.2
        rw [II.out.num.len] at this
        omega
      obtain ⟨x, ex⟩ : ∃ x, xs.getD k 0 = x := ⟨_, rfl⟩
      rw [ex] at a2
      have A1 := Lib.hid a1
      have A2 := Lib.hid a2
      have EX := Lib.hid ex
      have bx : ((x : Int) != (x : Int)) = false := by simp
      clear g es' os e0 a1 a2 ex
      go_wp2_with fail
      refine (at_at oct_code _ _ _ _ D (t : Int) (s : Int) x true (HX.out.below h.out) II.out.num.byt (i64k _ (by omega) (by omega)) (i64k _ (by omega) (by omega)) (by have := L8.out; omega) A2.out.1 (decide_eq_true A2.out.2)).mono ?_
      rintro e w9 ⟨rfl, l⟩
      have L9 : Hid (Below w2.heap.size w2 w9) := seqB h.out l
      obtain ⟨b, eb, cb⟩ := (H2.out.below (seqB L12.out L9.out)).atN G.out
      subst eb
      rw [EX.out] at cb
      clear l
      go_wp2
      go_roundw
      case rel => exact ⟨k + 1, t + s, by go_num, by go_num, G.out, A1.out, L9⟩
      case measure => simp [intOf]; omega
    · have g' : (N : Int) ≤ (k : Int) := by omega
      clear g hk ht
      have b0 : decide (0 < (L : Int)) = true := by have := HL.out; simp; omega
      have b0' : (0 : Int) < (L : Int) := by have := HL.out; omega
      obtain ⟨j, hj⟩ : ∃ j, j = cut % L := ⟨_, rfl⟩
      have jl : j < L := by rw [hj]; exact Nat.mod_lt _ HL.out
      have j1 : (cut : Int) % (L : Int) = (j : Int) := by rw [hj]; simp
      have j2 : (j : Int) ≤ 240 := by omega
      have xc : L ≤ cx := HX.out.cap
      have j3 : (j : Int) ≤ (cx : Int) := by omega
      have JL := Lib.hid jl
      clear hj jl xc
      go_wp2_with fail
      refine (take_at oct_code _ _ _ N _ j _ zs (D.take j) _ _ 4 (H1.out.below (seqB L12.out h.out)) (holdsN_take (HX.out.below h.out) (by have := JL.out; omega)) (byt_take II.out.num.byt _) (by have := II.out.n30; omega) (by have := JL.out; have := L8.out; omega) rfl rfl (II.out.num.short j JL.out)).mono ?_
      rintro e w10 ⟨pa, ca, pb, cb, rfl, -, -, l⟩
      have L10 : Hid (Below w2.heap.size w2 w10) := seqB h.out l
      clear l
      go_wp2_with fail
      have WE : Hid (Holds w10 p M c (valsN .u8 es)) := II.out.hes _ (seqB W1.out (seqB L12.out L10.out))
      refine (take_at oct_code _ _ _ N _ M _ zs es _ _ 4 (H1.out.below (seqB L12.out L10.out)) WE.out II.out.esy (by have := II.out.n30; omega) (by have := II.out.m300; omega) rfl rfl (II.out.num.other es II.out.esy (by rw [II.out.elen]; exact HM.out))).mono ?_
      rintro e w11 ⟨pa, ca, pb, cb, rfl, -, -, l⟩
      have L11 : Hid (Below w2.heap.size w2 w11) := seqB L10.out l
      have bm : decide ((M : Int) < (L : Int)) = true := by have := HM.out; simp; omega
      have bm' : (M : Int) < (L : Int) := by have := HM.out; omega
      have bm'' : decide (M < L) = true := by have := HM.out; simp; omega
      clear l
      go_wp2_with fail
      refine (awake3_any oct_code _).mono ?_; rintro e w12 ⟨rfl, l⟩
      have FIN : Hid (Below w.heap.size w w12) := seqB W1.out (seqB L12.out (seqB L11.out l))
      clear l
      go_wp2
      go_ret
      exact ⟨rfl, FIN.out⟩

set_option maxRecDepth 100000 in
set_option maxHeartbeats 8000000 in
theorem back_2 (w : World) (p0 p : Option Addr) (n0 c0 n c N K M cut L : Nat) (zs : List Int) (xs D bh es : List Nat) (I : BackIn w p0 p n0 c0 n c N K M cut L zs xs D bh es) (hc : cut < 256) (hL : 1 ≤ L) (hM : L ≤ M) :
    Calls Try.prog 5 #[.slice p0 n0 c0, .slice p n c, .int .u8 cut] w fun e w' => e = .returned (.bool true) ∧ Below w.heap.size w w' := by
  have II := Lib.hid I
  obtain ⟨i0, hi, hz0, hz1, hz2⟩ := info_of info8
  have q1 := I.kmin
  have q2 : (K : Int) ≤ (c : Int) := by have := I.kc; omega
  have q3 := I.mmin
  have q4 : (M : Int) ≤ (c : Int) := by have := I.mc; omega
  have q5 : (cut : Int) < 256 := by omega
  have q6 : (n : Int) ≤ 9223372036854775807 := by have := I.nb; omega
  have q7 : (N : Int) ≤ 30 := by have := I.n30; omega
  have l8 : L ≤ 240 := by have := I.num.low; have := I.zlen; have := I.n30; omega
  have q8 : (L : Int) ≤ 240 := by omega
  have bL : ((L : Int) != (L : Int)) = false := by simp
  have L8 := Lib.hid l8
  have HL := Lib.hid hL
  have HM := Lib.hid hM
  have BM : Hid (L + K ≤ maxLen) := by unfold Hid maxLen; have := I.k255; omega
  have BY : Hid ((L + K) * 1 ≤ 140737488355328) := by unfold Hid; have := I.k255; omega
  clear I hc l8 hL hM
  go_enter Try.func5, Try.ntmps5
  go_wp2_with fail
  refine II.out.cells.mono ?_; rintro e w1 ⟨p1, c1, p2, c2, rfl, h1, h2, l⟩
  have H1 := Lib.hid h1
  have H2 := Lib.hid h2
  have W1 := Lib.hid l
  clear h1 h2 l
  go_wp2_with fail
  refine (lay_row _ _ _ N _ _ zs xs D H1.out H2.out II.out.x64 (by have := II.out.n30; omega) II.out.num.lay.2 II.out.num.lay.1 L II.out.num.len).mono ?_
  rintro e w2 ⟨v, rfl, o, l⟩
  obtain ⟨px, cx, rfl, hx⟩ := own_holds o
  have HX := Lib.hid hx
  have L12 := Lib.hid l
  clear hx o l
  go_wp2_with fail
  refine (width_at oct_code _ _ N _ zs (L : Int) 0 (H1.out.below L12.out) (by have := II.out.n30; omega) II.out.num.wid.1 II.out.num.wid.2).mono ?_
  rintro e w3 ⟨rfl, l⟩
  have L23 := Lib.hid l
  clear l
  go_wp2_with fail
  refine (clone8_any _ _ _ _ D (HX.out.below L23.out) (by have := L8.out; omega)).mono ?_
  rintro e w4 ⟨v3, rfl, o3, l⟩
  have L24 : Hid (Below w2.heap.size w2 w4) := seqB L23.out l
  have L34 := Lib.hid l
  have O3 := Lib.hid o3
  clear l o3
  have BS : Hid (w3.heap.size ≤ w4.heap.size) := L34.out.size
  have WB : Hid (Holds w4 p K c (valsN .u8 bh)) := II.out.hbh _ (seqB W1.out (seqB L12.out L24.out))
  go_wp2_with (at_builtin; refine append_held rfl _ _ 24 rfl w3.heap.size 5 i0 (.int .u8 0) 1 Try.underlying24 hi hz0 hz1 hz2 rfl v3 L (valsN .u8 D) rfl O3.out p K c (valsN .u8 bh) rfl WB.out (valsN_one _ _) BM.out BY.out BS.out ?_)
  intro v4 w5 o4 g4
  obtain ⟨p4, c4, rfl, h4⟩ := own_holds o4
  rw [← valsN_append] at h4
  have L25 : Hid (Below w2.heap.size w2 w5) := L24.out.grown g4 L24.out.size (fun j hj => Nat.le_trans L23.out.size (World.ownsRow.lt O3.out j hj).1)
  have H4 := Lib.hid h4
  clear o4 g4 h4
  go_wp2_with fail
  refine (take_at oct_code _ _ _ N _ (L + K) _ zs (D ++ bh) xs bh 0 (H1.out.below (seqB L12.out L25.out)) H4.out (byt_append II.out.num.byt II.out.bhy) (by have := II.out.n30; omega) (by have := L8.out; have := II.out.k255; omega) (II.out.num.take bh).1 (II.out.num.take bh).2.1 (II.out.num.take bh).2.2).mono ?_
  rintro e w6 ⟨p5, c5, q5', d5, he, h5, h6, l⟩
  rw [II.out.xlen, II.out.blen] at he
  rw [II.out.xlen] at h5
  rw [II.out.blen] at h6
  subst he
  have L26 : Hid (Below w2.heap.size w2 w6) := seqB L25.out l
  have H5 := Lib.hid h5.holds
  have H6 := Lib.hid h6.holds
  clear l h5 h6
  go_wp2_with fail
  refine (sequal_any _ _ _ N _ N _ xs xs H5.out (H2.out.below (seqB L12.out L26.out)) (by have := II.out.n30; omega) (by have := II.out.n30; omega)).mono ?_
  rintro e w7 ⟨rfl, k7, rfl⟩
  rw [decide_eq_true rfl]
  have L67 : Hid (Below w6.heap.size w6 (w6.drewN k7)) := below_drewN (Below.refl _ _) _
  have L27 : Hid (Below w2.heap.size w2 (w6.drewN k7)) := seqB L26.out L67.out
  go_wp2_with fail
  refine (bequal_same _ _ _ K _ K _ bh (H6.out.below L67.out) (II.out.hbh _ (seqB W1.out (seqB L12.out L27.out))) II.out.bhy).mono ?_
  rintro e w8 ⟨rfl, rfl⟩
  go_wp2_with fail
  generalize hw : w6.drewN k7 = w8 at *
  clear hw L67 H5 H6 H4 BS WB O3 L34 L24 L25 L26
  go_loopw [17, 91] (fun a i wr => ∃ k t : Nat, i = .int .i64 k ∧ a = .int .i64 t ∧ Hid (k ≤ N) ∧ Hid (atT zs k = t) ∧ Hid (Below w2.heap.size w2 wr)) (fun _ i _ => 2000 - (intOf i).toNat)
  case atStart => exact ⟨0, 0, rfl, rfl, Nat.zero_le _, rfl, L27⟩
  case round =>
    obtain ⟨k, t, rfl, rfl, hk, ht, h⟩ := hrel
    by_cases g : k < N
    · have g' : (k : Int) < (N : Int) := by omega
      have G := Lib.hid g
      obtain ⟨a, ea, ca⟩ := (H1.out.below (seqB L12.out h.out)).atI g
      subst ea
      obtain ⟨s, es'⟩ : ∃ s, (zs.getD k 0).toNat = s := ⟨_, rfl⟩
      have os := okAll_get II.out.ok (i := k) (by rw [II.out.zlen]; exact g)
      have e0 : zs.getD k 0 = (s : Int) := by unfold okS at os; omega
      rw [e0] at ca
      have s1 : (1 : Int) ≤ (s : Int) := by unfold okS at os; omega
      have s8 : (s : Int) ≤ 8 := by unfold okS at os; omega
      have a1 := atT_succ II.out.ok (k := k) (by rw [II.out.zlen]; exact g)
      rw [es', ht.out] at a1
      have a2 := II.out.num.at' k (by rw [II.out.zlen]; exact g)
      rw [e0, ht.out] at a2
      have a3 : (t : Int) ≤ 240 := by
        have := a2.2.2.2
        rw [II.out.num.len] at this
        omega
      obtain ⟨x, ex⟩ : ∃ x, xs.getD k 0 = x := ⟨_, rfl⟩
      rw [ex] at a2
      have A1 := Lib.hid a1
      have A2 := Lib.hid a2
      have EX := Lib.hid ex
      have bx : ((x : Int) != (x : Int)) = false := by simp
      clear g es' os e0 a1 a2 ex
      go_wp2_with fail
      refine (at_at oct_code _ _ _ _ D (t : Int) (s : Int) x true (HX.out.below h.out) II.out.num.byt (i64k _ (by omega) (by omega)) (i64k _ (by omega) (by omega)) (by have := L8.out; omega) A2.out.1 (decide_eq_true A2.out.2)).mono ?_
      rintro e w9 ⟨rfl, l⟩
      have L9 : Hid (Below w2.heap.size w2 w9) := seqB h.out l
      obtain ⟨b, eb, cb⟩ := (H2.out.below (seqB L12.out L9.out)).atN G.out
      subst eb
      rw [EX.out] at cb
      clear l
      go_wp2
      go_roundw
      case rel => exact ⟨k + 1, t + s, by go_num, by go_num, G.out, A1.out, L9⟩
      case measure => simp [intOf]; omega
    · have g' : (N : Int) ≤ (k : Int) := by omega
      clear g hk ht
      have b0 : decide (0 < (L : Int)) = true := by have := HL.out; simp; omega
      have b0' : (0 : Int) < (L : Int) := by have := HL.out; omega
      obtain ⟨j, hj⟩ : ∃ j, j = cut % L := ⟨_, rfl⟩
      have jl : j < L := by rw [hj]; exact Nat.mod_lt _ HL.out
      have j1 : (cut : Int) % (L : Int) = (j : Int) := by rw [hj]; simp
      have j2 : (j : Int) ≤ 240 := by omega
      have xc : L ≤ cx := HX.out.cap
      have j3 : (j : Int) ≤ (cx : Int) := by omega
      have JL := Lib.hid jl
      clear hj jl xc
      go_wp2_with fail
      refine (take_at oct_code _ _ _ N _ j _ zs (D.take j) _ _ 4 (H1.out.below (seqB L12.out h.out)) (holdsN_take (HX.out.below h.out) (by have := JL.out; omega)) (byt_take II.out.num.byt _) (by have := II.out.n30; omega) (by have := JL.out; have := L8.out; omega) rfl rfl (II.out.num.short j JL.out)).mono ?_
      rintro e w10 ⟨pa, ca, pb, cb, rfl, -, -, l⟩
      have L10 : Hid (Below w2.heap.size w2 w10) := seqB h.out l
      clear l
      go_wp2_with fail
      have WE : Hid (Holds w10 p M c (valsN .u8 es)) := II.out.hes _ (seqB W1.out (seqB L12.out L10.out))
      obtain ⟨oo, ll, t1, t2, t3, t4, t5, t6, t7⟩ := II.out.num.back es II.out.esy (by rw [II.out.elen]; have := HM.out; omega)
      have T4 := Lib.hid t4; have T5 := Lib.hid t5; have T6 := Lib.hid t6; have T7 := Lib.hid t7; have T1 := Lib.hid t1; have T2 := Lib.hid t2; have T3 := Lib.hid t3
      clear t1 t2 t3 t4 t5 t6 t7
      refine (take_at oct_code _ _ _ N _ M _ zs es oo ll 0 (H1.out.below (seqB L12.out L10.out)) WE.out II.out.esy (by have := II.out.n30; omega) (by have := II.out.m300; omega) T1.out T2.out T3.out).mono ?_
      rintro e w11 ⟨pa, ca', pb, cb', he, ha, hb, l⟩
      have ol : oo.length = N := T5.out.trans II.out.zlen
      rw [ol] at he ha
      obtain ⟨ln, hln⟩ : ∃ ln, ll.length = ln := ⟨_, rfl⟩
      rw [hln] at he hb
      subst he
      have L11 : Hid (Below w2.heap.size w2 w11) := seqB L10.out l
      have HA := Lib.hid ha.holds
      have HB := Lib.hid hb.holds
      obtain ⟨dn, hdn⟩ : ∃ dn, (layD zs oo).length = dn := ⟨_, rfl⟩
      have SUM : Hid (dn + ln = M) := by unfold Hid; rw [← hdn, ← hln, ← List.length_append, T7.out]; exact II.out.elen
      have OL := Lib.hid ol
      have HDN := Lib.hid hdn
      have yo : Hid (Byt (layD zs oo)) := by intro d hd; refine II.out.esy d ?_; rw [← T7.out]; exact List.mem_append_left _ hd
      clear l ha hb hdn hln ol
      go_wp2_with fail
      refine (lay_row _ _ _ N _ _ zs oo (layD zs oo) (H1.out.below (seqB L12.out L11.out)) HA.out T4.out (by have := II.out.n30; omega) T6.out rfl dn HDN.out).mono ?_
      rintro e w12 ⟨vy, rfl, oy, l⟩
      obtain ⟨py, cy, rfl, -⟩ := own_holds oy
      have L1112 := Lib.hid l
      have OY := Lib.hid oy
      clear l oy
      go_wp2_with fail
      refine (awake3_any oct_code _).mono ?_; rintro e w13 ⟨rfl, l⟩
      have L1213 := Lib.hid l
      have O13 : Hid (w13.ownsRow w11.heap.size 5 1 (.slice py dn cy) dn (valsN .u8 (layD zs oo))) := own_keep OY.out l
      have B13 : Hid (w11.heap.size ≤ w13.heap.size) := Nat.le_trans L1112.out.size l.size
      have H13 : Hid (Holds w13 pb ln cb' (valsN .u8 ll)) := HB.out.below (seqB L1112.out l)
      have BM2 : Hid (dn + ln ≤ maxLen) := by unfold Hid maxLen; have := SUM.out; have := II.out.m300; omega
      have BY2 : Hid ((dn + ln) * 1 ≤ 140737488355328) := by unfold Hid; have := SUM.out; have := II.out.m300; omega
      clear l
      go_wp2_with (at_builtin; refine append_want (by rfl) _ _ 24 rfl w11.heap.size 5 i0 (.int .u8 0) 1 Try.underlying24 hi hz0 hz1 hz2 rfl _ dn (valsN .u8 (layD zs oo)) rfl O13.out pb ln cb' (valsN .u8 ll) rfl H13.out (valsN_one _ _) BM2.out BY2.out B13.out ?_)
      intro vz w14 oz gz
      rw [SUM.out, ← valsN_append, T7.out] at oz
      obtain ⟨pz, cz, rfl, hz⟩ := own_holds oz
      have L14 : Hid (Below w2.heap.size w2 w14) := (seqB L11.out (seqB L1112.out L1213.out)).grown gz (seqB L11.out (seqB L1112.out L1213.out)).size (fun j hj => Nat.le_trans L11.out.size (World.ownsRow.lt O13.out j hj).1)
      have HZ := Lib.hid hz
      clear oz gz hz
      go_wp2_with fail
      refine (bequal_same _ _ _ M _ M _ es HZ.out (II.out.hes _ (seqB W1.out (seqB L12.out L14.out))) II.out.esy).mono ?_
      rintro e w15 ⟨rfl, rfl⟩
      have FIN : Hid (Below w.heap.size w w14) := seqB W1.out (seqB L12.out L14.out)
      go_wp2
      go_ret
      exact ⟨rfl, FIN.out⟩

set_option maxRecDepth 100000 in
set_option maxHeartbeats 8000000 in
theorem back_3 (w : World) (p0 p : Option Addr) (n0 c0 n c N K M cut L : Nat) (zs : List Int) (xs D bh es : List Nat) (I : BackIn w p0 p n0 c0 n c N K M cut L zs xs D bh es) (hc : cut < 256) (hL : L = 0) (hM : L ≤ M) :
    Calls Try.prog 5 #[.slice p0 n0 c0, .slice p n c, .int .u8 cut] w fun e w' => e = .returned (.bool true) ∧ Below w.heap.size w w' := by
  have II := Lib.hid I
  obtain ⟨i0, hi, hz0, hz1, hz2⟩ := info_of info8
  have q1 := I.kmin
  have q2 : (K : Int) ≤ (c : Int) := by have := I.kc; omega
  have q3 := I.mmin
  have q4 : (M : Int) ≤ (c : Int) := by have := I.mc; omega
  have q5 : (cut : Int) < 256 := by omega
  have q6 : (n : Int) ≤ 9223372036854775807 := by have := I.nb; omega
  have q7 : (N : Int) ≤ 30 := by have := I.n30; omega
  have l8 : L ≤ 240 := by have := I.num.low; have := I.zlen; have := I.n30; omega
  have q8 : (L : Int) ≤ 240 := by omega
  have bL : ((L : Int) != (L : Int)) = false := by simp
  have L8 := Lib.hid l8
  have HL := Lib.hid hL
  have HM := Lib.hid hM
  have BM : Hid (L + K ≤ maxLen) := by unfold Hid maxLen; have := I.k255; omega
  have BY : Hid ((L + K) * 1 ≤ 140737488355328) := by unfold Hid; have := I.k255; omega
  clear I hc l8 hL hM
  go_enter Try.func5, Try.ntmps5
  go_wp2_with fail
  refine II.out.cells.mono ?_; rintro e w1 ⟨p1, c1, p2, c2, rfl, h1, h2, l⟩
  have H1 := Lib.hid h1
  have H2 := Lib.hid h2
  have W1 := Lib.hid l
  clear h1 h2 l
  go_wp2_with fail
  refine (lay_row _ _ _ N _ _ zs xs D H1.out H2.out II.out.x64 (by have := II.out.n30; omega) II.out.num.lay.2 II.out.num.lay.1 L II.out.num.len).mono ?_
  rintro e w2 ⟨v, rfl, o, l⟩
  obtain ⟨px, cx, rfl, hx⟩ := own_holds o
  have HX := Lib.hid hx
  have L12 := Lib.hid l
  clear hx o l
  go_wp2_with fail
  refine (width_at oct_code _ _ N _ zs (L : Int) 0 (H1.out.below L12.out) (by have := II.out.n30; omega) II.out.num.wid.1 II.out.num.wid.2).mono ?_
  rintro e w3 ⟨rfl, l⟩
  have L23 := Lib.hid l
  clear l
  go_wp2_with fail
  refine (clone8_any _ _ _ _ D (HX.out.below L23.out) (by have := L8.out; omega)).mono ?_
  rintro e w4 ⟨v3, rfl, o3, l⟩
  have L24 : Hid (Below w2.heap.size w2 w4) := seqB L23.out l
  have L34 := Lib.hid l
  have O3 := Lib.hid o3
  clear l o3
  have BS : Hid (w3.heap.size ≤ w4.heap.size) := L34.out.size
  have WB : Hid (Holds w4 p K c (valsN .u8 bh)) := II.out.hbh _ (seqB W1.out (seqB L12.out L24.out))
  go_wp2_with (at_builtin; refine append_held rfl _ _ 24 rfl w3.heap.size 5 i0 (.int .u8 0) 1 Try.underlying24 hi hz0 hz1 hz2 rfl v3 L (valsN .u8 D) rfl O3.out p K c (valsN .u8 bh) rfl WB.out (valsN_one _ _) BM.out BY.out BS.out ?_)
  intro v4 w5 o4 g4
  obtain ⟨p4, c4, rfl, h4⟩ := own_holds o4
  rw [← valsN_append] at h4
  have L25 : Hid (Below w2.heap.size w2 w5) := L24.out.grown g4 L24.out.size (fun j hj => Nat.le_trans L23.out.size (World.ownsRow.lt O3.out j hj).1)
  have H4 := Lib.hid h4
  clear o4 g4 h4
  go_wp2_with fail
  refine (take_at oct_code _ _ _ N _ (L + K) _ zs (D ++ bh) xs bh 0 (H1.out.below (seqB L12.out L25.out)) H4.out (byt_append II.out.num.byt II.out.bhy) (by have := II.out.n30; omega) (by have := L8.out; have := II.out.k255; omega) (II.out.num.take bh).1 (II.out.num.take bh).2.1 (II.out.num.take bh).2.2).mono ?_
  rintro e w6 ⟨p5, c5, q5', d5, he, h5, h6, l⟩
  rw [II.out.xlen, II.out.blen] at he
  rw [II.out.xlen] at h5
  rw [II.out.blen] at h6
  subst he
  have L26 : Hid (Below w2.heap.size w2 w6) := seqB L25.out l
  have H5 := Lib.hid h5.holds
  have H6 := Lib.hid h6.holds
  clear l h5 h6
  go_wp2_with fail
  refine (sequal_any _ _ _ N _ N _ xs xs H5.out (H2.out.below (seqB L12.out L26.out)) (by have := II.out.n30; omega) (by have := II.out.n30; omega)).mono ?_
  rintro e w7 ⟨rfl, k7, rfl⟩
  rw [decide_eq_true rfl]
  have L67 : Hid (Below w6.heap.size w6 (w6.drewN k7)) := below_drewN (Below.refl _ _) _
  have L27 : Hid (Below w2.heap.size w2 (w6.drewN k7)) := seqB L26.out L67.out
  go_wp2_with fail
  refine (bequal_same _ _ _ K _ K _ bh (H6.out.below L67.out) (II.out.hbh _ (seqB W1.out (seqB L12.out L27.out))) II.out.bhy).mono ?_
  rintro e w8 ⟨rfl, rfl⟩
  go_wp2_with fail
  generalize hw : w6.drewN k7 = w8 at *
  clear hw L67 H5 H6 H4 BS WB O3 L34 L24 L25 L26
  go_loopw [17, 91] (fun a i wr => ∃ k t : Nat, i = .int .i64 k ∧ a = .int .i64 t ∧ Hid (k ≤ N) ∧ Hid (atT zs k = t) ∧ Hid (Below w2.heap.size w2 wr)) (fun _ i _ => 2000 - (intOf i).toNat)
  case atStart => exact ⟨0, 0, rfl, rfl, Nat.zero_le _, rfl, L27⟩
  case round =>
    obtain ⟨k, t, rfl, rfl, hk, ht, h⟩ := hrel
    by_cases g : k < N
    · have g' : (k : Int) < (N : Int) := by omega
      have G := Lib.hid g
      obtain ⟨a, ea, ca⟩ := (H1.out.below (seqB L12.out h.out)).atI g
      subst ea
      obtain ⟨s, es'⟩ : ∃ s, (zs.getD k 0).toNat = s := ⟨_, rfl⟩
      have os := okAll_get II.out.ok (i := k) (by rw [II.out.zlen]; exact g)
      have e0 : zs.getD k 0 = (s : Int) := by unfold okS at os; omega
      rw [e0] at ca
      have s1 : (1 : Int) ≤ (s : Int) := by unfold okS at os; omega
      have s8 : (s : Int) ≤ 8 := by unfold okS at os; omega
      have a1 := atT_succ II.out.ok (k := k) (by rw [II.out.zlen]; exact g)
      rw [es', ht.out] at a1
      have a2 := II.out.num.at' k (by rw [II.out.zlen]; exact g)
      rw [e0, ht.out] at a2
      have a3 : (t : Int) ≤ 240 := by
        have := a2.2.2.2
        rw [II.out.num.len] at this
        omega
      obtain ⟨x, ex⟩ : ∃ x, xs.getD k 0 = x := ⟨_, rfl⟩
      rw [ex] at a2
      have A1 := Lib.hid a1
      have A2 := Lib.hid a2
      have EX := Lib.hid ex
      have bx : ((x : Int) != (x : Int)) = false := by simp
      clear g es' os e0 a1 a2 ex
      go_wp2_with fail
      refine (at_at oct_code _ _ _ _ D (t : Int) (s : Int) x true (HX.out.below h.out) II.out.num.byt (i64k _ (by omega) (by omega)) (i64k _ (by omega) (by omega)) (by have := L8.out; omega) A2.out.1 (decide_eq_true A2.out.2)).mono ?_
      rintro e w9 ⟨rfl, l⟩
      have L9 : Hid (Below w2.heap.size w2 w9) := seqB h.out l
      obtain ⟨b, eb, cb⟩ := (H2.out.below (seqB L12.out L9.out)).atN G.out
      subst eb
      rw [EX.out] at cb
      clear l
      go_wp2
      go_roundw
      case rel => exact ⟨k + 1, t + s, by go_num, by go_num, G.out, A1.out, L9⟩
      case measure => simp [intOf]; omega
    · have g' : (N : Int) ≤ (k : Int) := by omega
      clear g hk ht
      have b0 : decide (0 < (L : Int)) = false := by have := HL.out; simp; omega
      have b0' : ¬ (0 : Int) < (L : Int) := by have := HL.out; omega
      obtain ⟨w10, hw10⟩ : ∃ w10, w10 = wr := ⟨_, rfl⟩
      rw [← hw10] at h ⊢
      have L10 := h
      clear hw10
      go_wp2_with fail
      have WE : Hid (Holds w10 p M c (valsN .u8 es)) := II.out.hes _ (seqB W1.out (seqB L12.out L10.out))
      obtain ⟨oo, ll, t1, t2, t3, t4, t5, t6, t7⟩ := II.out.num.back es II.out.esy (by rw [II.out.elen]; have := HM.out; omega)
      have T4 := Lib.hid t4; have T5 := Lib.hid t5; have T6 := Lib.hid t6; have T7 := Lib.hid t7; have T1 := Lib.hid t1; have T2 := Lib.hid t2; have T3 := Lib.hid t3
      clear t1 t2 t3 t4 t5 t6 t7
      refine (take_at oct_code _ _ _ N _ M _ zs es oo ll 0 (H1.out.below (seqB L12.out L10.out)) WE.out II.out.esy (by have := II.out.n30; omega) (by have := II.out.m300; omega) T1.out T2.out T3.out).mono ?_
      rintro e w11 ⟨pa, ca', pb, cb', he, ha, hb, l⟩
      have ol : oo.length = N := T5.out.trans II.out.zlen
      rw [ol] at he ha
      obtain ⟨ln, hln⟩ : ∃ ln, ll.length = ln := ⟨_, rfl⟩
      rw [hln] at he hb
      subst he
      have L11 : Hid (Below w2.heap.size w2 w11) := seqB L10.out l
      have HA := Lib.hid ha.holds
      have HB := Lib.hid hb.holds
      obtain ⟨dn, hdn⟩ : ∃ dn, (layD zs oo).length = dn := ⟨_, rfl⟩
      have SUM : Hid (dn + ln = M) := by unfold Hid; rw [← hdn, ← hln, ← List.length_append, T7.out]; exact II.out.elen
      have OL := Lib.hid ol
      have HDN := Lib.hid hdn
      have yo : Hid (Byt (layD zs oo)) := by intro d hd; refine II.out.esy d ?_; rw [← T7.out]; exact List.mem_append_left _ hd
      clear l ha hb hdn hln ol
      go_wp2_with fail
      refine (lay_row _ _ _ N _ _ zs oo (layD zs oo) (H1.out.below (seqB L12.out L11.out)) HA.out T4.out (by have := II.out.n30; omega) T6.out rfl dn HDN.out).mono ?_
      rintro e w12 ⟨vy, rfl, oy, l⟩
      obtain ⟨py, cy, rfl, -⟩ := own_holds oy
      have L1112 := Lib.hid l
      have OY := Lib.hid oy
      clear l oy
      go_wp2_with fail
      refine (awake3_any oct_code _).mono ?_; rintro e w13 ⟨rfl, l⟩
      have L1213 := Lib.hid l
      have O13 : Hid (w13.ownsRow w11.heap.size 5 1 (.slice py dn cy) dn (valsN .u8 (layD zs oo))) := own_keep OY.out l
      have B13 : Hid (w11.heap.size ≤ w13.heap.size) := Nat.le_trans L1112.out.size l.size
      have H13 : Hid (Holds w13 pb ln cb' (valsN .u8 ll)) := HB.out.below (seqB L1112.out l)
      have BM2 : Hid (dn + ln ≤ maxLen) := by unfold Hid maxLen; have := SUM.out; have := II.out.m300; omega
      have BY2 : Hid ((dn + ln) * 1 ≤ 140737488355328) := by unfold Hid; have := SUM.out; have := II.out.m300; omega
      clear l
      go_wp2_with (at_builtin; refine append_want (by rfl) _ _ 24 rfl w11.heap.size 5 i0 (.int .u8 0) 1 Try.underlying24 hi hz0 hz1 hz2 rfl _ dn (valsN .u8 (layD zs oo)) rfl O13.out pb ln cb' (valsN .u8 ll) rfl H13.out (valsN_one _ _) BM2.out BY2.out B13.out ?_)
      intro vz w14 oz gz
      rw [SUM.out, ← valsN_append, T7.out] at oz
      obtain ⟨pz, cz, rfl, hz⟩ := own_holds oz
      have L14 : Hid (Below w2.heap.size w2 w14) := (seqB L11.out (seqB L1112.out L1213.out)).grown gz (seqB L11.out (seqB L1112.out L1213.out)).size (fun j hj => Nat.le_trans L11.out.size (World.ownsRow.lt O13.out j hj).1)
      have HZ := Lib.hid hz
      clear oz gz hz
      go_wp2_with fail
      refine (bequal_same _ _ _ M _ M _ es HZ.out (II.out.hes _ (seqB W1.out (seqB L12.out L14.out))) II.out.esy).mono ?_
      rintro e w15 ⟨rfl, rfl⟩
      have FIN : Hid (Below w.heap.size w w14) := seqB W1.out (seqB L12.out L14.out)
      go_wp2
      go_ret
      exact ⟨rfl, FIN.out⟩

end Go.Proofs.Ytpamnephndoefaa
