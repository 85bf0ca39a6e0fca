/- The walk of PacketForm: one form. -/
import Derived.Test.YtfnidehbibfclaaPktOne
import Derived.Test.YtfnidehbibfclaaGD
import Derived.Deep.DeepCutAuto
import Derived.Deep.RegionHeld3
set_option maxRecDepth 100000
namespace Go.Proofs.Ytfnidehbibfclaa
open Go.ChangeShapes Go.WideShapes Go.ChangeAt Go.RowKit OctM

attribute [local go_sem ↓] loadP_eq storeP_eq boxP_eq allocP_eq zeroP_eq zeroP_eq'

set_option maxHeartbeats 16000000 in
theorem form7_walk (w : World) (h : Hd) (x : Xt) (fs : List Fld) (k : Pak) (p : Option Addr) (n c : Nat) (bs : List Nat) (I : Pk w h x fs k) (hb : Holds w p n c (valsN .u8 bs)) (yb : Byt bs) :
    Calls Try.prog 5 #[pkV h x, .slice p n c] w (SaidB w true) := by
  have bx := box_pk h x
  have az := alloc_pk
  have zz := zero_pk
  obtain ⟨kk, hk⟩ : ∃ k, k = min n 600 := ⟨_, rfl⟩
  have bc := hb.cap
  have bm := hb.max
  unfold maxLen at bm
  have nb : (n : Int) ≤ 9223372036854775807 := by omega
  have EM : min (n : Int) 600 = (kk : Int) := by omega
  have EI : (if (600 : Int) < (n : Int) then (600 : Int) else (n : Int)) = (kk : Int) := by split <;> omega
  have kc : (kk : Int) ≤ (c : Int) := by omega
  have k2 : (kk : Int) ≤ 600 := by omega
  have HK := Lib.hid (holdsN_take hb (k := kk) (by omega))
  have YK := Lib.hid (byt_take yb kk)
  generalize bs.take kk = ds at *
  have B1 : Hid ((w.alloc (.cells (pkC h x) 27)).heap[w.heap.size]? = some (.cells (pkC h x) 27 (0, 0))) := heap_alloc_new w _
  have L0 : Hid (Below w.heap.size w (w.alloc (.cells (pkC h x) 27))) := (Below.refl _ _).alloc (Nat.le_refl _) _
  have z0 : (w.alloc (.cells (pkC h x) 27)).heap.size = w.heap.size + 1 := by simp
  have LD1 := load_pk B1.out
  have FP := Lib.hid (few7_all _ h x fs k (I.below L0.out))
  have DX := Lib.hid I.hx.data
  clear hb yb hk bc bm I
  go_enter Try.func5, Try.ntmps5
  go_wp2_with fail
  generalize w.alloc (.cells (pkC h x) 27) = v at *
  refine FP.out.mono ?_; rintro e w1 ⟨h1, x1, n1, rfl, I1, p1, l1⟩
  have K1 := pk_keep B1.out l1
  have SF := store_pk h1 x1 K1 rfl
  have T := Lib.hid (one_meet (B := v.heap.size) DX.out (Nat.le_refl _) (by omega) I1 p1 (L0.out.trans (l1.mono L0.out.size)) K1)
  generalize (fs.take n1).map cutF = f1 at *
  generalize fewP k = K at *
  have LD2 := load_pk T.out.bi
  clear FP DX I1 p1 l1 K1 LD1 B1 L0 z0
  go_wp2_with fail
  generalize w1.setRow w.heap.size (pkC h1 x1) = wp at *
  clear SF
  refine (pput7_any _ h1 x1 f1 K T.out.i).mono ?_; rintro e w2 ⟨pa, ca, rfl, na, l2⟩
  obtain ⟨E, hE⟩ : ∃ E, putE7 K = E := ⟨_, rfl⟩
  obtain ⟨m, hm⟩ : ∃ m, (putD7 K).length = m := ⟨_, rfl⟩
  have T2 := Lib.hid (T.out.below l2)
  have HA := na.holds
  rw [hm] at HA
  have HAh := Lib.hid HA
  rw [hE, hm]
  clear na l2 HA LD2 T
  go_upto_if 21 with fail
  go_cut [22] (fun _ wx => Hid (Below w.heap.size w wx))
  case first =>
    have h3 := putE_three K
    rw [hE] at h3
    have mb : (m : Int) ≤ 512 := by have := putD_len K; rw [hm] at this; omega
    by_cases g : E = 0
    · subst g
      have yD : Byt (putD7 K) := putD_byt T2.out.i.ok
      have PB : parP (putD7 K) = (K, 0) := by rw [putD_ok hE]; exact par_back T2.out.i.ok hE
      have P1 := pparse7_any w2 pa m ca _ HAh.out yD
      rw [PB] at P1
      have P1h := Lib.hid P1
      have MY := (putE_may hE).1
      have S1 := Lib.hid (fun (W : World) (h3 : Hd) (x3 : Xt) (f3 : List Fld) (i3 : Pk W h3 x3 f3 K) (b : Below w2.heap.size w2 W) => show Calls Try.prog 19 #[pkV h1 x1, pkV h3 x3] W (SaidB W true) from by
        have r := psame7_any W h1 h3 x1 x3 f1 f3 K K (T2.out.i.below b) i3
        rwa [decide_eq_true (same_eq.2 rfl)] at r)
      have M1 := Lib.hid (fun (W : World) (b : Below w2.heap.size w2 W) => show Calls Try.prog 17 #[pkV h1 x1] W (SaidB W true) from by
        have r := pmay7_any W h1 x1 f1 K (T2.out.i.below b)
        rwa [decide_eq_true MY] at r)
      clear hE hm h3 yD PB P1 MY HAh
      go_wp2_with fail
      refine P1h.out.mono ?_; rintro e w3 ⟨h3, x3, f3, rfl, I3, -, l3⟩
      have SN3 := store_new w3 (pkC Hd.zero Xt.zero) h3 x3 rfl
      have AL3 : Below w3.heap.size w3 (w3.alloc (.cells (pkC h3 x3) 27)) := (Below.refl _ _).alloc (Nat.le_refl _) _
      have L3 : Hid (Below w2.heap.size w2 (w3.alloc (.cells (pkC h3 x3) 27))) := l3.trans (AL3.mono l3.size)
      have LDa := load_pk (heap_alloc_new w3 (.cells (pkC h3 x3) 27))
      have LDb := load_pk (pk_keep T2.out.bi L3.out)
      have I3' := Lib.hid (I3.below AL3)
      clear P1h l3 AL3 I3
      go_wp2_with fail
      refine (S1.out _ _ _ _ I3'.out L3.out).mono ?_; rintro e w4 ⟨rfl, l4⟩
      have L4 : Hid (Below w2.heap.size w2 w4) := L3.out.trans (l4.mono L3.out.size)
      have LDc := load_pk (pk_keep T2.out.bi L4.out)
      clear S1 l4 LDa LDb
      go_wp2_with fail
      refine (M1.out _ L4.out).mono ?_; rintro e w5 ⟨rfl, l5⟩
      have R : Hid (Below w.heap.size w w5) := (T2.out.low.trans (L4.out.mono T2.out.low.size)).trans (l5.mono (T2.out.low.trans (L4.out.mono T2.out.low.size)).size)
      clear l5 M1
      go_wp2_with fail
      go_meet
      exact R
    · have m0 : m = 0 := by rw [← hm, putD_bad (by rw [hE]; exact g)]; rfl
      subst m0
      have LDb := load_pk T2.out.bi
      have M1 := Lib.hid (pmay7_any w2 h1 x1 f1 K T2.out.i)
      rcases h3 with h3 | h3 | h3
      · exact absurd h3 g
      · have MN : decide (mayP K) = false := decide_eq_false ((putE_one K).1 (hE.trans h3))
        rw [MN] at M1
        subst h3
        clear hE hm g MN mb HAh
        go_wp2_with fail
        refine M1.out.mono ?_; rintro e w5 ⟨rfl, l5⟩
        have R : Hid (Below w.heap.size w w5) := T2.out.low.trans (l5.mono T2.out.low.size)
        clear l5 M1
        go_wp2_with fail
        go_meet
        exact R
      · have MN : decide (mayP K) = true := decide_eq_true (Classical.not_not.1 fun q => by
          have := putE_arg q
          omega)
        rw [MN] at M1
        subst h3
        clear hE hm g MN mb HAh
        go_wp2_with fail
        refine M1.out.mono ?_; rintro e w5 ⟨rfl, l5⟩
        have R : Hid (Below w.heap.size w w5) := T2.out.low.trans (l5.mono T2.out.low.size)
        clear l5 M1
        go_wp2_with fail
        go_meet
        exact R
  case rest =>
  have LC := hcut
  have HKc := Lib.hid (HK.out.below LC.out)
  have YL := Lib.hid (par_bad YK.out)
  have YP := Lib.hid (par_put YK.out)
  have PP := Lib.hid (pparse7_any wc p kk c ds HKc.out YK.out)
  clear T2 HAh hE hm HK
  go_wp2_with fail
  refine PP.out.mono ?_; rintro e w3 ⟨h3, x3, f3, rfl, I3, -, l3⟩
  have SN3 := store_new w3 (pkC Hd.zero Xt.zero) h3 x3 rfl
  have AL3 : Below w3.heap.size w3 (w3.alloc (.cells (pkC h3 x3) 27)) := (Below.refl _ _).alloc (Nat.le_refl _) _
  have L3 : Hid (Below wc.heap.size wc (w3.alloc (.cells (pkC h3 x3) 27))) := l3.trans (AL3.mono l3.size)
  have B3 : Hid ((w3.alloc (.cells (pkC h3 x3) 27)).heap[w3.heap.size]? = some (.cells (pkC h3 x3) 27 (0, 0))) := heap_alloc_new w3 _
  have I3' := Lib.hid (I3.below AL3)
  have HK3 := Lib.hid (HKc.out.below L3.out)
  have FW : Hid (Below w.heap.size w (w3.alloc (.cells (pkC h3 x3) 27))) := LC.out.trans (L3.out.mono LC.out.size)
  clear PP l3 AL3 I3 LC HKc L3
  obtain ⟨E3, hE3⟩ : ∃ z, (parP ds).2 = z := ⟨_, rfl⟩
  rw [hE3] at YL YP ⊢
  generalize (parP ds).1 = K3 at *
  clear hE3
  have LD3 := load_pk B3.out
  have AW := Lib.hid (fun W => awake7_any W)
  by_cases g : E3 = 0
  · subst g
    obtain ⟨y1, y2, y3⟩ := YP.out rfl
    have P2 := pput7_any _ h3 x3 f3 K3 I3'.out
    rw [y1, y2] at P2
    have P2h := Lib.hid P2
    have KL : ds.length = kk := by have := HK3.out.len; rwa [valsN_len] at this
    have M3 := Lib.hid (fun (W : World) (b : Below (w3.alloc (.cells (pkC h3 x3) 27)).heap.size (w3.alloc (.cells (pkC h3 x3) 27)) W) => show Calls Try.prog 17 #[pkV h3 x3] W (SaidB W true) from by
      have r := pmay7_any W h3 x3 f3 K3 (I3'.out.below b)
      rwa [decide_eq_true y3] at r)
    have KLh := Lib.hid KL
    clear y1 y2 y3 YP YL P2 KL
    go_wp2_with fail
    generalize w3.alloc (.cells (pkC h3 x3) 27) = w4 at *
    generalize w3.heap.size = N3 at *
    refine P2h.out.mono ?_; rintro e w5 ⟨py, cy, rfl, ny, l5⟩
    rw [KLh.out] at ny ⊢
    have HY := Lib.hid ny.holds
    have HD := Lib.hid (HK3.out.below l5)
    have LD5 := load_pk (pk_keep B3.out l5)
    have F5 : Hid (Below w.heap.size w w5) := FW.out.trans (l5.mono FW.out.size)
    have HB0 : Below w4.heap.size w4 w5 := l5
    have EQ := Lib.hid (fun (w' : World) (b : Below w5.heap.size w5 w') => bequal_same w' py p kk cy kk c ds (HY.out.below b) (HD.out.below b) YK.out)
    clear P2h ny l5 HK3 LD3
    go_wp2_with fail
    refine (AW.out _).mono ?_; rintro e w6 ⟨rfl, l6⟩
    have L6 := Lib.hid l6
    have LD6 := load_pk (pk_keep (pk_keep B3.out HB0) l6)
    clear l6 LD5
    go_wp2_with fail
    refine (EQ.out _ L6.out).mono ?_; rintro e w7 ⟨rfl, rfl⟩
    have M6 := Lib.hid (M3.out _ (HB0.trans (L6.out.mono HB0.size)))
    go_wp2_with fail
    refine M6.out.mono ?_; rintro e w8 ⟨rfl, l8⟩
    have F8 : Hid (Below w.heap.size w w8) := (F5.out.trans (L6.out.mono F5.out.size)).trans (l8.mono (F5.out.trans (L6.out.mono F5.out.size)).size)
    clear l8 M6
    go_wp2
    go_ret
    exact ⟨rfl, F8.out⟩
  · have g1 : ((E3 : Int) != 0) = true := by rw [bne_iff_ne]; omega
    have g2 : ((E3 : Int) == 0) = false := by rw [beq_eq_false_iff_ne]; omega
    have g3 : ¬ (E3 : Int) = 0 := by omega
    have KZ := YL.out g
    subst KZ
    have S3 := Lib.hid (fun (W : World) (b : Below (w3.alloc (.cells (pkC h3 x3) 27)).heap.size (w3.alloc (.cells (pkC h3 x3) 27)) W) => show Calls Try.prog 19 #[pkV h3 x3, pkV Hd.zero Xt.zero] W (SaidB W true) from by
      have r := psame7_any W h3 Hd.zero x3 Xt.zero f3 [] Pak.zero Pak.zero (I3'.out.below b) (pk_zero W)
      rwa [decide_eq_true (same_eq.2 rfl)] at r)
    clear YP YL g I3' HK3
    go_wp2_with fail
    generalize w3.alloc (.cells (pkC h3 x3) 27) = w4 at *
    generalize w3.heap.size = N3 at *
    refine (AW.out _).mono ?_; rintro e w5 ⟨rfl, l5⟩
    have LD5 := load_pk (pk_keep B3.out l5)
    have S5 := Lib.hid (S3.out _ l5)
    have F5 : Hid (Below w.heap.size w w5) := FW.out.trans (l5.mono FW.out.size)
    clear l5 S3 FW LD3 B3
    go_wp2_with fail
    refine S5.out.mono ?_; rintro e w6 ⟨rfl, l6⟩
    have F6 : Hid (Below w.heap.size w w6) := F5.out.trans (l6.mono F5.out.size)
    clear l6 S5
    go_wp2
    go_ret
    exact ⟨rfl, F6.out⟩
end Go.Proofs.Ytfnidehbibfclaa
