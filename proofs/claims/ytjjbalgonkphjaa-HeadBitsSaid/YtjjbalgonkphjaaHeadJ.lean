/- Layer 4 (head): a head's bytes tell the head. No program. -/
import Derived.Test.YtjjbalgonkphjaaHeadD
import Derived.Test.YtjjbalgonkphjaaHeadE
namespace Go.Proofs.Ytjjbalgonkphjaa
open Go.ChangeShapes Go.WideShapes Go.ChangeAt Go.RowKit OctM

theorem b8_s8 (z : Int) (h : -128 ≤ z ∧ z ≤ 127) : s8 (b8 z) = z := by unfold s8 b8; split <;> omega
theorem s8_b8 (n : Nat) (h : n < 256) : b8 (s8 n) = n := by unfold s8 b8; split <;> omega
theorem s8_in (n : Nat) (h : n < 256) : -128 ≤ s8 n ∧ s8 n ≤ 127 := by unfold s8; split <;> omega
theorem bytesH_len (h : Hd) : (bytesH h).length = 48 := by unfold bytesH; rw [layT_at _ sizesH_ok (by decide), sizesH_at]
theorem bytesH_byt (h : Hd) : Byt (bytesH h) := layT_byt _ _ _
/-- the numbers of a head's bytes. -/
theorem take_bytes (h : Hd) (hw : h.wf) (hm : mayH h) (bh : List Nat) : takT sizesH (bytesH h ++ bh) 11 = numsH h := by
  unfold bytesH
  rw [take_lay (numsH h) bh sizesH_ok (N := 11) (by decide) rfl (numsH_fit h hw hm) 11 (Nat.le_refl _)]
  rfl
/-- the head of a head's bytes. -/
theorem hdP_bytes (h : Hd) (hw : h.wf) (hm : mayH h) (bh : List Nat) : hdP (bytesH h ++ bh) = h := by
  have e := take_bytes h hw hm bh
  unfold hdP numP
  rw [e]
  obtain ⟨h1, h2, h3, h4, h5, h6, h7, h8, h9, ha, hb, hc, hd⟩ := hw
  obtain ⟨m1, m2, m3, m4⟩ := hm
  obtain ⟨lp, ve, mo, st, po, pr, de, di, ri, rf, og, rc, xm⟩ := h
  simp only at m1 m2 m3 m4 h5 h6
  simp only [numsH, hdOf, first8, List.getD_cons_zero, List.getD_cons_succ]
  rw [b8_s8 _ h5, b8_s8 _ h6]
  congr 1 <;> omega
theorem bytesH_inj {h g : Hd} (hw : h.wf) (gw : g.wf) (hm : mayH h) (gm : mayH g) (e : bytesH h = bytesH g) : h = g := by
  have a := hdP_bytes h hw hm []
  rw [e, hdP_bytes g gw gm []] at a
  exact a.symm
/-- a head out of bytes: it fits, and its bytes are these. -/
theorem hdOf_wf {f s a b de di ri rf og rc xm : Nat} (b0 : f < 256) (b1 : s < 256) (b2 : a < 256) (b3 : b < 256) (b4 : de < 4294967296) (b5 : di < 4294967296) (b6 : ri < 4294967296) (b7 : rf < 18446744073709551616) (b8' : og < 18446744073709551616) (b9 : rc < 18446744073709551616) (b10 : xm < 18446744073709551616) : (hdOf f s a b de di ri rf og rc xm).wf :=
  ⟨show f / 64 < 256 by omega, show f / 8 % 8 < 256 by omega, show f % 8 < 256 by omega, b1, s8_in _ b2, s8_in _ b3, b4, b5, b6, b7, b8', b9, b10⟩
theorem numP_b {ds : List Nat} (hy : Byt ds) (i s : Nat) (hi : i < 11) (hs : (sizesH.getD i 0).toNat = s) (B : Nat) (hB : 256 ^ s = B) : numP ds i < B := by rw [← hB, ← hs]; exact numP_lt hy i hi
theorem hdP_wf {ds : List Nat} (hy : Byt ds) : (hdP ds).wf :=
  hdOf_wf (numP_b hy 0 1 (by decide) rfl _ (by decide)) (numP_b hy 1 1 (by decide) rfl _ (by decide)) (numP_b hy 2 1 (by decide) rfl _ (by decide)) (numP_b hy 3 1 (by decide) rfl _ (by decide))
    (numP_b hy 4 4 (by decide) rfl _ (by decide)) (numP_b hy 5 4 (by decide) rfl _ (by decide)) (numP_b hy 6 4 (by decide) rfl _ (by decide)) (numP_b hy 7 8 (by decide) rfl _ (by decide)) (numP_b hy 8 8 (by decide) rfl _ (by decide)) (numP_b hy 9 8 (by decide) rfl _ (by decide)) (numP_b hy 10 8 (by decide) rfl _ (by decide))
theorem numsH_hdP {ds : List Nat} (hy : Byt ds) : numsH (hdP ds) = takT sizesH ds 11 := by
  have b0 : numP ds 0 < 256 := numP_lt hy 0 (by omega)
  have b2 : numP ds 2 < 256 := numP_lt hy 2 (by omega)
  have b3 : numP ds 3 < 256 := numP_lt hy 3 (by omega)
  rw [numP_list]
  unfold hdP hdOf numsH first8
  simp only
  rw [s8_b8 _ b2, s8_b8 _ b3]
  congr 1
  omega
theorem bytesH_hdP {ds : List Nat} (hy : Byt ds) (h48 : 48 ≤ ds.length) : bytesH (hdP ds) = ds.take 48 := by
  unfold bytesH
  rw [numsH_hdP hy, lay_take sizesH_ok hy (N := 11) (by decide) (by rw [sizesH_at]; exact h48) 11 (Nat.le_refl _), sizesH_at]
/-- whether a head out of bytes may be: its version alone tells. -/
theorem may_hdP {ds : List Nat} (hy : Byt ds) : mayH (hdP ds) ↔ 1 ≤ numP ds 0 / 8 % 8 ∧ numP ds 0 / 8 % 8 ≤ 4 := by
  have b0 : numP ds 0 < 256 := numP_lt hy 0 (by omega)
  unfold mayH hdP hdOf
  simp only
  omega
theorem numP_place (ds : List Nat) (i at' s : Nat) (hi : i < 11) (ha : atT sizesH i = at') (hs : (sizesH.getD i 0).toNat = s) : numP ds i = numN ((ds.drop at').take s) := by
  unfold numP
  rw [takT_getD sizesH ds hi, ha, hs]
theorem numN_one (ds : List Nat) (i : Nat) (h : i < ds.length) : numN ((ds.drop i).take 1) = ds.getD i 0 := by
  rw [take_next (by rw [List.length_drop]; omega), List.take_zero, List.nil_append, List.getD_eq_getElem?_getD, List.getElem?_drop, Nat.add_zero, List.getD_eq_getElem?_getD]
  show 0 * 256 + _ = _
  omega
end Go.Proofs.Ytjjbalgonkphjaa
