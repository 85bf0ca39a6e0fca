/- The document's own answers for layer 5 (ext): what is found; fields' bytes. -/
import Derived.Test.YteclcefeipjoeaaExtB
import Derived.Test.YteclcefeipjoeaaAppendM
import Derived.Deep.RegionHeld3
import Derived.Deep.AppendLies
namespace Go.Proofs.Yteclcefeipjoeaa
open Go.ChangeShapes Go.WideShapes Go.ChangeAt Go.RowKit OctM

theorem bytesF_len (x : Nat × List Nat) : (bytesF x).length = 4 + x.2.length := by unfold bytesF; rw [List.length_append]; rfl
theorem bytesX_nil : bytesX [] = [] := rfl
theorem bytesX_snoc (l : Says) (x : Nat × List Nat) : bytesX (l ++ [x]) = bytesX l ++ bytesF x := by unfold bytesX; rw [List.flatMap_append]; simp
theorem bytesX_byt {l : Says} (h : ∀ x ∈ l, x.1 < 65536 ∧ Byt x.2 ∧ x.2.length ≤ 464) : Byt (bytesX l) := by
  intro d hd
  unfold bytesX at hd
  obtain ⟨x, hx, hd⟩ := List.mem_flatMap.1 hd
  obtain ⟨h1, h2, h3⟩ := h x hx
  unfold bytesF at hd
  rcases List.mem_append.1 hd with h | h
  · simp only [List.mem_cons, List.not_mem_nil, or_false] at h
    omega
  · exact h2 d h
theorem bytesX_le {l : Says} (h : ∀ x ∈ l, longN x.2.length) : (bytesX l).length ≤ 468 * l.length := by
  induction l with
  | nil => exact Nat.zero_le _
  | cons x l ih =>
    have a := h x (List.mem_cons.2 (.inl rfl))
    have b := ih (fun y hy => h y (List.mem_cons.2 (.inr hy)))
    unfold longN at a
    show (bytesF x ++ bytesX l).length ≤ _
    rw [List.length_append, bytesF_len, List.length_cons]
    omega

/-- Fields' bytes so far, in a row of the call's own. -/
structure PutRel (w wr : World) (l : Says) (v : Value) (k : Nat) : Prop where
  own : wr.ownsRow w.heap.size 5 1 v (bytesX (l.take k)).length (valsN .u8 (bytesX (l.take k)))
  low : Below w.heap.size w wr

set_option maxRecDepth 100000 in
set_option maxHeartbeats 8000000 in
theorem rput5_ok (w : World) (p : Option Addr) (n c : Nat) (fs : List Fld) (hx : HoldsX w p n c fs) (ok : FldsOk fs) (my : mayX (says fs)) :
    Calls Try.prog 11 #[.slice p n c] w (RowPost w (bytesX (says fs)).length (bytesX (says fs))) := by
  obtain ⟨i0, hi, hz0, hz1, hz2⟩ := info_of info8
  have ln := hx.len
  have n8 : n ≤ 8 := by have := my.2; rw [says_len] at this; omega
  have nb : (n : Int) ≤ 8 := by omega
  have HX := Lib.hid hx
  have LN := Lib.hid ln
  have OK := Lib.hid ok
  have MY := Lib.hid my
  have N8 := Lib.hid n8
  have RM := Lib.hid (rmay5_any w p n c fs hx)
  rw [decide_eq_true my] at RM
  clear hx ok my ln n8
  go_enter Try.func11, Try.ntmps11
  go_wp2_with fail
  refine RM.out.mono ?_; rintro e w' ⟨rfl, rfl⟩
  go_wp2_with fail
  go_loopw [4, 5] (fun v i wr => ∃ k : Nat, i = .int .i64 k ∧ Hid (k ≤ n) ∧ Hid (PutRel w wr (says fs) v k)) (fun _ i _ => 100 - (intOf i).toNat)
  case atStart => exact ⟨0, rfl, Nat.zero_le _, ⟨World.ownsRow_nil w _ _ 1, Below.refl _ _⟩⟩
  case round =>
    obtain ⟨k, rfl, hk, h⟩ := hrel
    by_cases g : k < n
    · have g' : (k : Int) < (n : Int) := by omega
      have G := Lib.hid g
      obtain ⟨a, f, rfl, hf, c0, c1, hh⟩ := (HX.out.below h.out.low).at g
      have lf : f.ds.length = f.n := by have := hh.len; rwa [valsN_len] at this
      have SF := says_get hf
      have lg := MY.out.1 _ (List.mem_of_getElem? SF)
      simp only at lg
      rw [lf] at lg
      have tf := (OK.out f (List.mem_of_getElem? hf)).1
      obtain ⟨t, ht⟩ : ∃ t, t = f.ty := ⟨_, rfl⟩
      obtain ⟨th, hth⟩ : ∃ x, x = t / 256 := ⟨_, rfl⟩
      obtain ⟨tl, htl⟩ : ∃ x, x = t % 256 := ⟨_, rfl⟩
      obtain ⟨m, hm⟩ : ∃ x, x = f.n + 4 := ⟨_, rfl⟩
      obtain ⟨nh, hnh⟩ : ∃ x, x = m / 256 := ⟨_, rfl⟩
      obtain ⟨nl, hnl⟩ : ∃ x, x = m % 256 := ⟨_, rfl⟩
      unfold longN at lg
      have fn : (f.n : Int) ≤ 464 := by omega
      have e1 : (f.n : Int) + 4 = (m : Int) := by omega
      have e2 : (t : Int) / 256 = (th : Int) := by omega
      have e3 : (t : Int) % 256 = (tl : Int) := by omega
      have e4 : (m : Int) / 256 = (nh : Int) := by omega
      have e5 : (m : Int) % 256 = (nl : Int) := by omega
      have e6 : (m : Int).tmod 256 = (nl : Int) := by rw [Int.tmod_eq_emod_of_nonneg (by omega)]; exact e5
      have e7 : (t : Int).tmod 256 = (tl : Int) := by rw [Int.tmod_eq_emod_of_nonneg (by omega)]; exact e3
      have w1 : IntKind.u16.wrap (th : Int) = (th : Int) := by rw [IntKind.wrap_u16]; omega
      have w2 : IntKind.u8.wrap (th : Int) = (th : Int) := by rw [IntKind.wrap_u8]; omega
      have w3 : IntKind.u8.wrap (tl : Int) = (tl : Int) := by rw [IntKind.wrap_u8]; omega
      have w4 : IntKind.i64.wrap (nh : Int) = (nh : Int) := by rw [IntKind.wrap_i64]; omega
      have w5 : IntKind.u8.wrap (nh : Int) = (nh : Int) := by rw [IntKind.wrap_u8]; omega
      have w6 : IntKind.u8.wrap (nl : Int) = (nl : Int) := by rw [IntKind.wrap_u8]; omega
      have w7 : IntKind.i64.wrap ((f.n : Int) + 4) = (m : Int) := by rw [IntKind.wrap_i64]; omega
      have mb : (m : Int) ≤ 468 := by omega
      obtain ⟨L, hL⟩ : ∃ L, L = (bytesX ((says fs).take k)).length := ⟨_, rfl⟩
      have Lb : L ≤ 468 * 8 := by
        have a := bytesX_le (l := (says fs).take k) (fun x hx => MY.out.1 x (List.mem_of_mem_take hx))
        rw [List.length_take, says_len, LN.out] at a
        have := N8.out
        omega
      have BM : Hid (L + 4 ≤ maxLen) := by unfold Hid maxLen; omega
      have BY : Hid ((L + 4) * 1 ≤ 140737488355328) := by unfold Hid; omega
      have BM2 : Hid (L + 4 + f.n ≤ maxLen) := by unfold Hid maxLen; omega
      have BY2 : Hid ((L + 4 + f.n) * 1 ≤ 140737488355328) := by unfold Hid; omega
      have OW := h.out.own
      rw [← hL] at OW
      have NXT : Hid (∀ v w2, w2.ownsRow w.heap.size 5 1 v (L + 4 + f.n) (valsN .u8 (bytesX ((says fs).take k)) ++ [.int .u8 (th : Int), .int .u8 (tl : Int), .int .u8 (nh : Int), .int .u8 (nl : Int)] ++ valsN .u8 f.ds) → Below w.heap.size w w2 → PutRel w w2 (says fs) v (k + 1)) := fun v w2 o l => by
        refine ⟨?_, l⟩
        rw [take_snoc SF, bytesX_snoc, List.length_append, bytesF_len, ← hL, lf, ← Nat.add_assoc, valsN_append]
        have e : valsN .u8 (bytesF (f.ty, f.ds)) = [.int .u8 (th : Int), .int .u8 (tl : Int), .int .u8 (nh : Int), .int .u8 (nl : Int)] ++ valsN .u8 f.ds := by
          unfold bytesF
          rw [valsN_append]
          simp only [lf]
          rw [hth, htl, hnh, hnl, hm, ht]
          rfl
        rw [e, ← List.append_assoc]
        exact o
      rw [← ht] at c0
      have HT := Lib.hid ht
      have LOW := Lib.hid h.out.low
      have HF := Lib.hid hh
      replace OW := Lib.hid OW
      have HFK := Lib.hid hf
      clear h hk hf SF lf lg tf ht hth htl hm hnh hnl hL Lb g hh
      go_wp2_with fail
      have KC : Hid (∀ w', Below w.heap.size w w' → w'.cell? (a.add (k * 2)) = some (.int .u16 (t : Int))) := fun w' b => by
        obtain ⟨a', f', ea, hf', c2, -, -⟩ := (HX.out.below b).at G.out
        cases ea
        have ef := HFK.out
        rw [hf'] at ef
        injection ef with ef
        subst ef
        rw [HT.out]
        exact c2
      have HB0 : Below w.heap.size w wr.drew := LOW.out.drew
      have HB1 : Below w.heap.size w (wr.drew.alloc (.cells #[.int .u8 (th : Int), .int .u8 (tl : Int), .int .u8 (nh : Int), .int .u8 (nl : Int)] 5)) := HB0.alloc HB0.size _
      have LR : Below wr.heap.size wr (wr.drew.alloc (.cells #[.int .u8 (th : Int), .int .u8 (tl : Int), .int .u8 (nh : Int), .int .u8 (nl : Int)] 5)) := (Below.refl _ _).drew.alloc (Nat.le_refl _) _
      have O1 : Hid ((wr.drew.alloc (.cells #[.int .u8 (th : Int), .int .u8 (tl : Int), .int .u8 (nh : Int), .int .u8 (nl : Int)] 5)).ownsRow w.heap.size 5 1 u4 L (valsN .u8 (bytesX ((says fs).take k)))) := own_keep OW.out LR
      have NW : Hid (∀ (j : Nat) (u : Value), ([.int .u8 (th : Int), .int .u8 (tl : Int), .int .u8 (nh : Int), .int .u8 (nl : Int)] : List Value)[j]? = some u → (wr.drew.alloc (.cells #[.int .u8 (th : Int), .int .u8 (tl : Int), .int .u8 (nh : Int), .int .u8 (nl : Int)] 5)).cell? ((⟨wr.heap.size, 0, none⟩ : Addr).add j) = some u) := World.news_of_block (cs := #[.int .u8 (th : Int), .int .u8 (tl : Int), .int .u8 (nh : Int), .int .u8 (nl : Int)]) (heap_alloc_new wr.drew _)
      have B1 : Hid (w.heap.size ≤ (wr.drew.alloc (.cells #[.int .u8 (th : Int), .int .u8 (tl : Int), .int .u8 (nh : Int), .int .u8 (nl : Int)] 5)).heap.size) := HB1.size
      have ONE : Hid (∀ u ∈ ([.int .u8 (th : Int), .int .u8 (tl : Int), .int .u8 (nh : Int), .int .u8 (nl : Int)] : List Value), u.oneCell' = true) := by
        intro u hu
        simp only [List.mem_cons, List.not_mem_nil, or_false] at hu
        rcases hu with rfl | rfl | rfl | rfl <;> rfl
      have ST : Hid (∀ v' w2, w2.ownsRow w.heap.size 5 1 v' (L + 4) (valsN .u8 (bytesX ((says fs).take k)) ++ [.int .u8 (th : Int), .int .u8 (tl : Int), .int .u8 (nh : Int), .int .u8 (nl : Int)]) → (wr.drew.alloc (.cells #[.int .u8 (th : Int), .int .u8 (tl : Int), .int .u8 (nh : Int), .int .u8 (nl : Int)] 5)).grownBy w2 u4.ownBlock → Below w.heap.size w w2) := fun v' w2 _ g => HB1.grown g HB1.size (fun j hj => (World.ownsRow.lt OW.out j hj).1)
      clear LR
      go_region_held3 (fun w' => w'.cell? (a.add (k * 2)) = some (.int .u16 (t : Int)))
        (first | exact KC.out _ HB2 | exact KC.out _ HB1 | exact KC.out _ HB0)
        ((refine step_append_lies _ (by rfl) _ _ _ (by rfl) w.heap.size 5 i0 (.int .u8 0) 1 1 Try.underlying25 hi hz0 hz1 hz2 rfl (by omega) u4 L _ (by rfl) O1.out ⟨wr.heap.size, 0, none⟩ 4 4 [.int .u8 (th : Int), .int .u8 (tl : Int), .int .u8 (nh : Int), .int .u8 (nl : Int)] (by rfl) (by rfl) NW.out ONE.out (by omega) BM.out BY.out B1.out _ rfl ?_; intro gg cap w2 o2 g2 _ _; have HB2 := ST.out _ _ o2 g2))
      have L2 := Lib.hid HB2
      have O2 := Lib.hid o2
      have HD2 : Hid (HoldsX w2 (some a) n c fs) := HX.out.below L2.out
      clear o2 g2
      obtain ⟨a', f', ea, hf', -, c2, hh2⟩ := HD2.out.at G.out
      cases ea
      have ef := HFK.out
      rw [hf'] at ef
      injection ef with ef
      subst ef
      have H2 := Lib.hid hh2
      clear hh2 hf' HD2
      go_wp2_with (at_builtin; refine append_more rfl _ _ 25 rfl w.heap.size 5 i0 (.int .u8 0) 1 Try.underlying25 hi hz0 hz1 hz2 rfl _ (L + 4) _ rfl O2.out f'.p f'.n f'.c (valsN .u8 f'.ds) rfl H2.out (valsN_one _ _) BM2.out BY2.out L2.out.size ?_)
      intro v3 w3 o3 g3 _
      have L3 : Below w.heap.size w w3 := L2.out.grown g3 L2.out.size (fun j hj => (World.ownsRow.lt O2.out j hj).1)
      have NX := Lib.hid (NXT.out v3 w3 (by rw [List.append_assoc]; exact o3) L3)
      clear o3 g3 L3
      go_wp2
      go_roundw
      case rel => exact ⟨k + 1, by go_num, G.out, NX⟩
      case measure => simp [intOf]; omega
    · have g' : (n : Int) ≤ (k : Int) := by omega
      have FIN : Hid (RowPost w (bytesX (says fs)).length (bytesX (says fs)) (.returned (.tuple #[u4, .int .i64 0])) wr) := by
        have e : (says fs).take k = says fs := List.take_of_length_le (by rw [says_len, LN.out]; omega)
        have o := h.out.own
        rw [e] at o
        exact ⟨u4, rfl, o, h.out.low⟩
      clear g hk h
      go_wp2
      go_ret2
      exact FIN.out
end Go.Proofs.Yteclcefeipjoeaa
