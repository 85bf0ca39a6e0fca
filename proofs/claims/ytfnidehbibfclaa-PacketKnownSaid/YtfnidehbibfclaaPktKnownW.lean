/- PacketKnown: the document's examples; ends: the walk. -/
import Derived.Test.YtfnidehbibfclaaPktOne
import Derived.Deep.DeepCutAuto
set_option maxRecDepth 100000
namespace Go.Proofs.Ytfnidehbibfclaa
open Go.ChangeShapes Go.WideShapes Go.ChangeAt Go.RowKit OctM

/-- One field of type 1 with so many zero bytes, in new memory. -/
def FldT (w : World) (s : Nat) (e : Ending) (w' : World) : Prop :=
  ∃ p c, e = .returned (.agg #[.int .u16 1, .slice p s c]) ∧ Holds w' p s c (valsN .u8 (List.replicate s 0)) ∧ Below w.heap.size w w'
theorem size_ext : (Try.prog.info? 52).map (·.size) = some 2 := by kernel_rfl
theorem results_ext1 {fn : Func} {p : Tmp} (h : fn.results = #[.cell p 52]) (tmps : Array Value) (w : World) (N : Nat) (a b : Value)
    (hp : tmps.getD p undef = .pointer (some ⟨N, 0, none⟩)) (hg : w.heap[N]? = some (.cells #[a, b] 52 (0, 0))) :
    (results fn tmps).run Try.prog w = .ok (.agg #[a, b]) w := by
  have hp' : tmps[p]?.getD undef = .pointer (some ⟨N, 0, none⟩) := by simpa using hp
  have hl : (loadVar 52 ⟨N, 0, none⟩).run Try.prog w = .ok (.agg #[a, b]) w := run_loadVar_row w N _ _ #[a, b] (0, 0) _ hg Try.underlying52 rfl size_ext
  simp [results, h, hp', asAddr, hl]
theorem field7_any (w : World) (s : Nat) (hs : s ≤ 10000) : Calls Try.prog 26 #[.int .i64 (s : Int)] w (FldT w s) := by
  obtain ⟨C, hC, hCs, mk⟩ := makeZ s (by omega)
  have G1 : Hid (((w.alloc (.cells #[.int .u16 1, .slice (some ⟨w.heap.size + 1, 0, none⟩) s s] 52)).alloc (.cells C 5)).heap[w.heap.size]? = some (.cells #[.int .u16 1, .slice (some ⟨w.heap.size + 1, 0, none⟩) s s] 52 (0, 0))) := heap_alloc2_old _ _ _
  have HD := blk_holds (heap_alloc2_new w (.cells #[.int .u16 1, .slice (some ⟨w.heap.size + 1, 0, none⟩) s s] 52) (.cells C 5)) hCs (by unfold maxLen; omega)
  rw [hC] at HD
  have FIN : Hid (FldT w s (.returned (.agg #[.int .u16 1, .slice (some ⟨w.heap.size + 1, 0, none⟩) s s])) ((w.alloc (.cells #[.int .u16 1, .slice (some ⟨w.heap.size + 1, 0, none⟩) s s] 52)).alloc (.cells C 5))) := ⟨_, _, rfl, HD, ((Below.refl _ _).alloc (Nat.le_refl _) _).alloc (by simp) _⟩
  clear HD hC hCs hs
  go_enter Try.func26, Try.ntmps26
  go_wp2
  (try simp only [Exit.inBlock, Exit.then])
  refine bodyPost_ret (results_ext1 rfl _ _ w.heap.size _ _ rfl G1.out) rfl ?_
  exact FIN.out
theorem one_fld {w : World} {N s : Nat} {p : Option Addr} {c : Nat} (hN : w.heap[N]? = some (.cells #[.int .u16 1, .slice p s c] 52 (0, 0))) (hd : Holds w p s c (valsN .u8 (List.replicate s 0))) : HoldsX w (some ⟨N, 0, none⟩) 1 1 [⟨1, p, s, c, List.replicate s 0⟩] :=
  ⟨rfl, Nat.le_refl _, by decide, (fun e => by cases e), fun i f hf => by
    rcases i with _ | i
    · obtain rfl : _ = f := by simpa using hf
      exact ⟨_, rfl, by rw [add_zero']; exact blk_cell hN, by rw [add_zero']; exact blk_cell hN, hd⟩
    · simp at hf⟩

/-- The packets of the examples. -/
def knP (l : Says) (sg : Bool) (ky tg : Nat) : Pak := ⟨row1, l, sg, ky, tg⟩
def knF (s : Nat) : Says := [(1, List.replicate s 0)]
theorem knP_ok {l : Says} {sg : Bool} {ky tg : Nat} (hl : ∀ x ∈ l, x.1 < 65536 ∧ Byt x.2) (hk : ky < 4294967296) (ht : tg < 18446744073709551616) : PakOk (knP l sg ky tg) := ⟨row1_wf, hl, hk, ht⟩
theorem knF_ok (s : Nat) : ∀ x ∈ knF s, x.1 < 65536 ∧ Byt x.2 := fun x hx => by
  obtain rfl : x = _ := by simpa [knF] using hx
  exact ⟨(by decide : 1 < 65536), byt_zeros s⟩
theorem kn1 : putE7 (knP (knF 460) false 0 0) = 0 ∧ (putD7 (knP (knF 460) false 0 0)).length = 512 := by decide +kernel
theorem kn2 : putE7 (knP (knF 464) false 0 0) = 3 := by decide +kernel
theorem kn2' : mayP (knP (knF 464) false 0 0) := by decide +kernel
theorem kn3 : (signP (knP (knF 460) false 0 0) ⟨1, 0, 0⟩).2 = 3 := by decide +kernel
theorem kn4 : (signP (knP [] false 0 0) ⟨0, 0, 0⟩).2 = 1 := by decide +kernel
theorem kn5 : putE7 (knP [] false 0 1) = 1 := by decide +kernel
theorem kn6 : putE7 (knP [] false 1 0) = 1 := by decide +kernel
theorem kn7 : putE7 (knP [] true 0 0) = 1 := by decide +kernel
theorem kn8 : putE7 Pak.zero = 1 := by decide +kernel
theorem kn9 : (parP []).2 = 4 := by decide +kernel
theorem kn10 : (parP (List.replicate 48 0)).2 = 5 := by decide +kernel
theorem kn11 : (parP (List.replicate 513 0)).2 = 3 := by decide +kernel
theorem kn12 : ¬ rightP (knP [] false 0 0) ⟨0, 0, 0⟩ := by decide +kernel

theorem kn_box {w' : World} {NB s c : Nat} {p : Option Addr} (hB : w'.heap[NB]? = some (.cells (pkC row1 Xt.zero) 27 (0, 0))) (hd : Holds w' p s c (valsN .u8 (List.replicate s 0))) :
    ((w'.alloc (.cells #[.int .u16 1, .slice p s c] 52)).setCell ⟨NB, 13, none⟩ (.slice (some ⟨w'.heap.size, 0, none⟩) 1 1)).heap[NB]? = some (.cells (pkC row1 ⟨some ⟨w'.heap.size, 0, none⟩, 1, 1, false, 0, 0⟩) 27 (0, 0)) ∧
    Pk ((w'.alloc (.cells #[.int .u16 1, .slice p s c] 52)).setCell ⟨NB, 13, none⟩ (.slice (some ⟨w'.heap.size, 0, none⟩) 1 1)) row1 ⟨some ⟨w'.heap.size, 0, none⟩, 1, 1, false, 0, 0⟩ [⟨1, p, s, c, List.replicate s 0⟩] (knP (knF s) false 0 0) ∧
    (w'.alloc (.cells #[.int .u16 1, .slice p s c] 52)).cell? ⟨NB, 13, none⟩ = some (.slice none 0 0) ∧ (w'.alloc (.cells #[.int .u16 1, .slice p s c] 52)).frozen? ⟨NB, 13, none⟩ = false := by
  have al : Below w'.heap.size w' (w'.alloc (.cells #[.int .u16 1, .slice p s c] 52)) := (Below.refl _ _).alloc (Nat.le_refl _) _
  have h1 := pk_keep hB al
  have c13 := (pk_at h1).1
  have hl : NB < w'.heap.size := (Array.getElem?_eq_some_iff.1 hB).1
  have e1 : (w'.alloc (.cells #[.int .u16 1, .slice p s c] 52)).heap[w'.heap.size]? = some (.cells #[.int .u16 1, .slice p s c] 52 (0, 0)) := heap_alloc_new w' _
  refine ⟨blk_set (o := 13) (u := .slice (some ⟨w'.heap.size, 0, none⟩) 1 1) h1, ⟨rfl, one_fld (set_far e1 13 (by omega) _) (holds_cell_ne (hd.below al) c13 _), knP_ok (knF_ok s) (by decide) (by decide)⟩, c13, blk_free (o := 13) h1⟩

def CodeT (w : World) (E : Nat) (e : Ending) (w' : World) : Prop := ∃ p n c, e = .returned (.tuple #[.slice p n c, .int .i64 (E : Nat)]) ∧ Below w.heap.size w w'
theorem put_code {W : World} {h : Hd} {x : Xt} {fs : List Fld} {K : Pak} {E : Nat} (i : Pk W h x fs K) (e : putE7 K = E) : Calls Try.prog 10 #[pkV h x] W (CodeT W E) := (pput7_any W h x fs K i).mono (by
  rintro _ w' ⟨p, c, rfl, -, l⟩
  exact ⟨p, _, c, by rw [e], l⟩)
def CodeS (w : World) (E : Nat) (e : Ending) (w' : World) : Prop := ∃ h x, e = .returned (.tuple #[pkV h x, .int .i64 (E : Nat)]) ∧ Below w.heap.size w w'
theorem sign_code {W : World} {h : Hd} {x : Xt} {fs : List Fld} {K : Pak} {q : Ky} {E : Nat} (i : Pk W h x fs K) (hq : KeyOk q) (e : (signP K q).2 = E) : Calls Try.prog 12 #[pkV h x, keyV q] W (CodeS W E) := (psign7_any W h x fs K q i hq).mono (by
  rintro _ w' ⟨h', x', fs', rfl, -, l⟩
  exact ⟨h', x', by rw [e], l⟩)
theorem parse_code {W : World} {p : Option Addr} {n c : Nat} {ds : List Nat} {E : Nat} (hh : Holds W p n c (valsN .u8 ds)) (hy : Byt ds) (e : (parP ds).2 = E) : Calls Try.prog 23 #[.slice p n c] W (CodeS W E) := (pparse7_any W p n c ds hh hy).mono (by
  rintro _ w' ⟨h', x', fs', rfl, -, -, l⟩
  exact ⟨h', x', by rw [e], l⟩)

attribute [local go_sem ↓] loadP_eq storeP_eq boxP_eq allocP_eq zeroP_eq zeroP_eq'

set_option maxHeartbeats 16000000 in
theorem known7_walk (w : World) : Calls Try.prog 8 #[] w (SaidB w true) := by
  have az := alloc_pk
  have zz := zero_pk
  obtain ⟨C48, hC48, hCs48, mk48'⟩ := makeZ 48 (by decide)
  have mk48 : ∀ w, (Instr.makeSlice 31 (.int .i64 48) (.int .i64 48)).run Try.prog w = .ok (.slice (some ⟨w.heap.size, 0, none⟩) 48 48) (w.alloc (.cells C48 5)) := mk48'
  obtain ⟨C513, hC513, hCs513, mk513'⟩ := makeZ 513 (by decide)
  have mk513 : ∀ w, (Instr.makeSlice 31 (.int .i64 513) (.int .i64 513)).run Try.prog w = .ok (.slice (some ⟨w.heap.size, 0, none⟩) 513 513) (w.alloc (.cells C513 5)) := mk513'
  have H48 : Hid (∀ w : World, Holds (w.alloc (.cells C48 5)) (some ⟨w.heap.size, 0, none⟩) 48 48 (valsN .u8 (List.replicate 48 0))) := fun w => by
    have hh := blk_holds (heap_alloc_new w (.cells C48 5)) hCs48 (by decide)
    rwa [hC48] at hh
  have H513 : Hid (∀ w : World, Holds (w.alloc (.cells C513 5)) (some ⟨w.heap.size, 0, none⟩) 513 513 (valsN .u8 (List.replicate 513 0))) := fun w => by
    have hh := blk_holds (heap_alloc_new w (.cells C513 5)) hCs513 (by decide)
    rwa [hC513] at hh
  clear mk48' mk513' hC48 hCs48 hC513 hCs513
  have FT := Lib.hid (fun W => field7_any W 460 (by decide))
  have FU := Lib.hid (fun W => field7_any W 464 (by decide))
  have SNp : Hid ((storeP (.pointer (some ⟨w.heap.size, 0, none⟩)) (.agg #[.int .u8 0, .int .u8 4, .int .u8 3, .int .u8 0, .int .i8 0, .int .i8 0, .int .u32 0, .int .u32 0, .int .u32 0, .int .u64 0, .int .u64 0, .int .u64 0, .int .u64 0, .slice none 0 0, .bool false, .int .u32 0, .int .u64 0])).run Try.prog (w.alloc (.cells (pkC Hd.zero Xt.zero) 27)) = .ok () (w.alloc (.cells (pkC row1 Xt.zero) 27))) := store_new w (pkC Hd.zero Xt.zero) row1 Xt.zero rfl
  go_enter Try.func8, Try.ntmps8
  go_wp2_with fail
  rw [SNp.out]
  have B1 : Hid ((w.alloc (.cells (pkC row1 Xt.zero) 27)).heap[w.heap.size]? = some (.cells (pkC row1 Xt.zero) 27 (0, 0))) := heap_alloc_new w _
  have L1 : Hid (Below w.heap.size w (w.alloc (.cells (pkC row1 Xt.zero) 27))) := (Below.refl _ _).alloc (Nat.le_refl _) _
  have LD1 := load_pk B1.out
  have SN1 := fun W => store_new W (pkC Hd.zero Xt.zero) row1 Xt.zero rfl
  generalize w.alloc (.cells (pkC row1 Xt.zero) 27) = w1 at *
  clear SNp
  go_wp2_with fail
  refine (FT.out _).mono ?_; rintro e w2 ⟨p2, c2, rfl, hd2, l2⟩
  have AL : Below w1.heap.size w1 (w1.alloc (.cells (pkC row1 Xt.zero) 27)) := (Below.refl _ _).alloc (Nat.le_refl _) _
  have L2 : Hid (Below w1.heap.size w1 w2) := AL.trans (l2.mono AL.size)
  obtain ⟨bf, jf, c13, f13⟩ := kn_box (pk_keep (heap_alloc_new w1 (.cells (pkC row1 Xt.zero) 27)) l2) hd2
  have BF := Lib.hid bf
  have JF := Lib.hid jf
  have L3 : Hid (Below w1.heap.size w1 ((w2.alloc (.cells #[.int .u16 1, .slice p2 460 c2] 52)).setCell ⟨w1.heap.size, 13, none⟩ (.slice (some ⟨w2.heap.size, 0, none⟩) 1 1))) := (L2.out.alloc L2.out.size _).setCell (Nat.le_refl _) _
  clear bf jf hd2 l2 AL L2 FT LD1
  go_upto_region 5 with fail
  have B3 := Lib.hid (pk_keep B1.out L3.out)
  have LW3 : Hid (Below w.heap.size w ((w2.alloc (.cells #[.int .u16 1, .slice p2 460 c2] 52)).setCell ⟨w1.heap.size, 13, none⟩ (.slice (some ⟨w2.heap.size, 0, none⟩) 1 1))) := L1.out.trans (L3.out.mono L1.out.size)
  generalize (w2.alloc (.cells #[.int .u16 1, .slice p2 460 c2] 52)).setCell ⟨w1.heap.size, 13, none⟩ (.slice (some ⟨w2.heap.size, 0, none⟩) 1 1) = w3 at *
  generalize w1.heap.size = NF at *
  have LD3 := load_pk B3.out
  clear c13 f13 L1 B1 L3
  go_wp2_with fail
  refine (FU.out _).mono ?_; rintro e w4 ⟨p4, c4, rfl, hd4, l4⟩
  have AL : Below w3.heap.size w3 (w3.alloc (.cells (pkC row1 Xt.zero) 27)) := (Below.refl _ _).alloc (Nat.le_refl _) _
  have L4 : Hid (Below w3.heap.size w3 w4) := AL.trans (l4.mono AL.size)
  obtain ⟨bf, jf, c13, f13⟩ := kn_box (pk_keep (heap_alloc_new w3 (.cells (pkC row1 Xt.zero) 27)) l4) hd4
  have BG := Lib.hid bf
  have JG := Lib.hid jf
  have L5 : Hid (Below w3.heap.size w3 ((w4.alloc (.cells #[.int .u16 1, .slice p4 464 c4] 52)).setCell ⟨w3.heap.size, 13, none⟩ (.slice (some ⟨w4.heap.size, 0, none⟩) 1 1))) := (L4.out.alloc L4.out.size _).setCell (Nat.le_refl _) _
  clear bf jf hd4 l4 AL L4 FU LD3
  go_upto_region 7 with fail
  generalize (w4.alloc (.cells #[.int .u16 1, .slice p4 464 c4] 52)).setCell ⟨w3.heap.size, 13, none⟩ (.slice (some ⟨w4.heap.size, 0, none⟩) 1 1) = w5 at *
  have LW5 : Hid (Below w.heap.size w w5) := LW3.out.trans (L5.out.mono LW3.out.size)
  have B5 := Lib.hid (pk_keep B3.out L5.out)
  have BF5 := Lib.hid (pk_keep BF.out L5.out)
  have JF5 := Lib.hid (JF.out.below L5.out)
  generalize w3.heap.size = NG at *
  clear c13 f13 LW3 B3 BF JF L5
  have sn := fun W h x => store_new W (pkC Hd.zero Xt.zero) h x rfl
  have LDf := load_pk BF5.out
  clear SN1
  go_wp2_with fail
  have P1 := pput7_any w5 row1 _ _ _ JF5.out
  rw [kn1.1] at P1
  refine P1.mono ?_; rintro e w6 ⟨pa, ca, rfl, -, l6⟩
  rw [kn1.2]
  have L6 := Lib.hid l6
  have LDg := load_pk (pk_keep BG.out l6)
  clear P1 l6 LDf
  go_wp2_with fail
  refine (put_code (JG.out.below L6.out) kn2).mono ?_; rintro e w7 ⟨pb, nb, cb, rfl, l7⟩
  have L7 : Hid (Below w5.heap.size w5 w7) := L6.out.trans (l7.mono L6.out.size)
  have LDf := load_pk (pk_keep BF5.out L7.out)
  clear l7 LDg L6
  go_wp2_with fail
  have S8 : Calls Try.prog 12 #[pkV row1 ⟨some ⟨w2.heap.size, 0, none⟩, 1, 1, false, 0, 0⟩, .agg #[.int .u32 1, .int .u64 0, .int .u64 0]] w7 (CodeS w7 3) := sign_code (q := ⟨1, 0, 0⟩) (JF5.out.below L7.out) ⟨by decide, by decide, by decide⟩ kn3
  refine S8.mono ?_; rintro e w8 ⟨h8, x8, rfl, l8⟩
  have L8 : Hid (Below w5.heap.size w5 w8) := L7.out.trans (l8.mono L7.out.size)
  have JP : Hid (∀ W, Pk W row1 Xt.zero [] (knP [] false 0 0)) := fun W => ⟨rfl, holdsX_nil W none 0 (Nat.zero_le _) (fun _ => rfl), knP_ok (fun x hx => by cases hx) (by decide) (by decide)⟩
  have LDp := load_pk (pk_keep B5.out L8.out)
  clear S8 l8 LDf L7
  go_upto_region 10 with fail
  have L9 : Hid (Below w5.heap.size w5 (w8.alloc (.cells (pkC h8 x8) 27))) := L8.out.alloc L8.out.size _
  generalize w8.alloc (.cells (pkC h8 x8) 27) = w9 at *
  generalize w8.heap.size = N8 at *
  clear LDp L8
  have LDp := load_pk (pk_keep B5.out L9.out)
  have SA : Calls Try.prog 12 #[pkV row1 Xt.zero, .agg #[.int .u32 0, .int .u64 0, .int .u64 0]] w9 (CodeS w9 1) := sign_code (q := ⟨0, 0, 0⟩) (JP.out w9) ⟨by decide, by decide, by decide⟩ kn4
  go_wp2_with fail
  refine SA.mono ?_; rintro e wa ⟨ha, xa, rfl, la⟩
  have La : Hid (Below w5.heap.size w5 wa) := L9.out.trans (la.mono L9.out.size)
  clear la SA LDp L9
  go_upto_region 11 with fail
  have Lb : Hid (Below w5.heap.size w5 (wa.alloc (.cells (pkC ha xa) 27))) := La.out.alloc La.out.size _
  generalize wa.alloc (.cells (pkC ha xa) 27) = wb at *
  generalize wa.heap.size = Na at *
  have LDp := load_pk (pk_keep B5.out Lb.out)
  clear La
  go_upto_region 12 with fail
  have Lc : Hid (Below w5.heap.size w5 (wb.alloc (.cells (pkC row1 Xt.zero) 27))) := Lb.out.alloc Lb.out.size _
  have BO : Hid ((wb.alloc (.cells (pkC row1 Xt.zero) 27)).heap[wb.heap.size]? = some (.cells (pkC row1 Xt.zero) 27 (0, 0))) := heap_alloc_new wb _
  have ZO : Hid (w5.heap.size ≤ wb.heap.size) := Lb.out.size
  generalize wb.alloc (.cells (pkC row1 Xt.zero) 27) = wc at *
  generalize wb.heap.size = NO at *
  have JS : Hid (∀ W sg ky tg, ky < 4294967296 → tg < 18446744073709551616 → Pk W row1 ⟨none, 0, 0, sg, ky, tg⟩ [] (knP [] sg ky tg)) := fun W sg ky tg a b => ⟨rfl, holdsX_nil W none 0 (Nat.zero_le _) (fun _ => rfl), knP_ok (fun x hx => by cases hx) a b⟩
  have c16 := (pk_at BO.out).2.2.2
  have f16 := blk_free (o := 16) BO.out
  clear Lb LDp
  go_upto_region 13 with fail
  have BO1 : Hid ((wc.setCell ⟨NO, 16, none⟩ (.int .u64 1)).heap[NO]? = some (.cells (pkC row1 ⟨none, 0, 0, false, 0, 1⟩) 27 (0, 0))) := set_tag BO.out 1
  have Ld : Hid (Below w5.heap.size w5 (wc.setCell ⟨NO, 16, none⟩ (.int .u64 1))) := Lc.out.setCell ZO.out _
  generalize wc.setCell ⟨NO, 16, none⟩ (.int .u64 1) = wd at *
  clear c16 f16 Lc BO
  have LDo := load_pk BO1.out
  go_wp2_with fail
  refine (put_code (JS.out wd false 0 1 (by decide) (by decide)) kn5).mono ?_; rintro e we ⟨pe, ne', ce, rfl, le⟩
  have Le : Hid (Below w5.heap.size w5 we) := Ld.out.trans (le.mono Ld.out.size)
  have BO2 := Lib.hid (pk_keep BO1.out le)
  obtain ⟨-, -, c15, c16⟩ := pk_at BO2.out
  have f15 := blk_free (o := 15) BO2.out
  have f16 := blk_free (o := 16) BO2.out
  clear le LDo Ld BO1
  go_upto_region 15 with fail
  have BO3 : Hid (((we.setCell ⟨NO, 16, none⟩ (.int .u64 0)).setCell ⟨NO, 15, none⟩ (.int .u32 1)).heap[NO]? = some (.cells (pkC row1 ⟨none, 0, 0, false, 1, 0⟩) 27 (0, 0))) := by
    have e : pkC row1 ⟨none, 0, 0, false, 1, 0⟩ = ((pkC row1 ⟨none, 0, 0, false, 0, 1⟩).set! 16 (.int .u64 0)).set! 15 (.int .u32 1) := rfl
    unfold Hid
    rw [e]
    exact blk_set (blk_set BO2.out)
  have Lf : Hid (Below w5.heap.size w5 ((we.setCell ⟨NO, 16, none⟩ (.int .u64 0)).setCell ⟨NO, 15, none⟩ (.int .u32 1))) := (Le.out.setCell ZO.out _).setCell ZO.out _
  generalize (we.setCell ⟨NO, 16, none⟩ (.int .u64 0)).setCell ⟨NO, 15, none⟩ (.int .u32 1) = wf at *
  clear c15 c16 f15 f16 Le BO2
  have LDo := load_pk BO3.out
  go_wp2_with fail
  refine (put_code (JS.out wf false 1 0 (by decide) (by decide)) kn6).mono ?_; rintro e wg ⟨pg, ng, cg, rfl, lg⟩
  have Lg : Hid (Below w5.heap.size w5 wg) := Lf.out.trans (lg.mono Lf.out.size)
  have BO4 := Lib.hid (pk_keep BO3.out lg)
  obtain ⟨-, c14, c15, -⟩ := pk_at BO4.out
  have f14 := blk_free (o := 14) BO4.out
  have f15 := blk_free (o := 15) BO4.out
  clear lg LDo Lf BO3
  go_upto_region 17 with fail
  have BO5 : Hid (((wg.setCell ⟨NO, 15, none⟩ (.int .u32 0)).setCell ⟨NO, 14, none⟩ (.bool true)).heap[NO]? = some (.cells (pkC row1 ⟨none, 0, 0, true, 0, 0⟩) 27 (0, 0))) := by
    have e : pkC row1 ⟨none, 0, 0, true, 0, 0⟩ = ((pkC row1 ⟨none, 0, 0, false, 1, 0⟩).set! 15 (.int .u32 0)).set! 14 (.bool true) := rfl
    unfold Hid
    rw [e]
    exact blk_set (blk_set BO4.out)
  have Lh : Hid (Below w5.heap.size w5 ((wg.setCell ⟨NO, 15, none⟩ (.int .u32 0)).setCell ⟨NO, 14, none⟩ (.bool true))) := (Lg.out.setCell ZO.out _).setCell ZO.out _
  generalize (wg.setCell ⟨NO, 15, none⟩ (.int .u32 0)).setCell ⟨NO, 14, none⟩ (.bool true) = wh at *
  clear c14 c15 f14 f15 Lg BO4
  have LDo := load_pk BO5.out
  go_wp2_with fail
  refine (put_code (JS.out wh true 0 0 (by decide) (by decide)) kn7).mono ?_; rintro e wi ⟨pi, ni, ci, rfl, li⟩
  have Li : Hid (Below w5.heap.size w5 wi) := Lh.out.trans (li.mono Lh.out.size)
  clear li LDo Lh BO5 ZO
  go_wp2_with fail
  refine (put_code (pk_zero wi) kn8).mono ?_; rintro e wj ⟨pj, nj, cj, rfl, lj⟩
  have Lj : Hid (Below w5.heap.size w5 wj) := Li.out.trans (lj.mono Li.out.size)
  clear lj Li
  go_wp2_with fail
  refine (parse_code (W := wj) (ds := []) (New.nil wj.heap.size wj).holds (fun d hd => by cases hd) kn9).mono ?_; rintro e wk ⟨hk, xk, rfl, lk⟩
  have Lk : Hid (Below w5.heap.size w5 wk) := Lj.out.trans (lk.mono Lj.out.size)
  have Lk' : Hid (Below w5.heap.size w5 (wk.alloc (.cells (pkC hk xk) 27))) := Lk.out.alloc Lk.out.size _
  clear lk Lj
  go_wp2_with fail
  have zl : (wk.alloc (.cells (pkC hk xk) 27)).heap.size = wk.heap.size + 1 := by simp
  generalize wk.alloc (.cells (pkC hk xk) 27) = wl at *
  rw [← zl]
  generalize wk.heap.size = Nk at *
  refine (parse_code (H48.out wl) (byt_zeros 48) kn10).mono ?_; rintro e wm ⟨hm, xm, rfl, lm⟩
  have Lm : Hid (Below w5.heap.size w5 wm) := (Lk'.out.alloc Lk'.out.size _).trans (lm.mono (Lk'.out.alloc Lk'.out.size (.cells C48 5)).size)
  have Lm' : Hid (Below w5.heap.size w5 (wm.alloc (.cells (pkC hm xm) 27))) := Lm.out.alloc Lm.out.size _
  clear lm Lk Lk' zl
  go_wp2_with fail
  have zn : (wm.alloc (.cells (pkC hm xm) 27)).heap.size = wm.heap.size + 1 := by simp
  generalize wm.alloc (.cells (pkC hm xm) 27) = wn at *
  rw [← zn]
  generalize wm.heap.size = Nm at *
  refine (parse_code (H513.out wn) (byt_zeros 513) kn11).mono ?_; rintro e wo ⟨ho, xo, rfl, lo⟩
  have Lo : Hid (Below w5.heap.size w5 wo) := (Lm'.out.alloc Lm'.out.size _).trans (lo.mono (Lm'.out.alloc Lm'.out.size (.cells C513 5)).size)
  have Lo' : Hid (Below w5.heap.size w5 (wo.alloc (.cells (pkC ho xo) 27))) := Lo.out.alloc Lo.out.size _
  clear lo Lm Lm' zn H48 H513 mk48 mk513
  go_wp2_with fail
  refine (awake7_any _).mono ?_; rintro e wp ⟨rfl, lp⟩
  have Lp : Hid (Below w5.heap.size w5 wp) := Lo'.out.trans (lp.mono Lo'.out.size)
  have LDg := load_pk (pk_keep BG.out Lp.out)
  have MG := pmay7_any wp _ _ _ _ (JG.out.below Lp.out)
  rw [decide_eq_true kn2'] at MG
  replace MG := Lib.hid MG
  clear lp Lo Lo'
  go_wp2_with fail
  refine MG.out.mono ?_; rintro e wq ⟨rfl, lq⟩
  have Lq : Hid (Below w5.heap.size w5 wq) := Lp.out.trans (lq.mono Lp.out.size)
  have LDp := load_pk (pk_keep B5.out Lq.out)
  have RP : Hid (Calls Try.prog 20 #[pkV row1 Xt.zero, .agg #[.int .u32 0, .int .u64 0, .int .u64 0]] wq (SaidB wq false)) := by
    have r := pright7_any wq row1 Xt.zero [] (knP [] false 0 0) ⟨0, 0, 0⟩ (JP.out wq) ⟨by decide, by decide, by decide⟩
    rwa [decide_eq_false kn12] at r
  clear lq Lp LDg MG
  go_wp2_with fail
  refine RP.out.mono ?_; rintro e wr ⟨rfl, lr⟩
  have F : Hid (Below w.heap.size w wr) := LW5.out.trans ((Lq.out.trans (lr.mono Lq.out.size)).mono LW5.out.size)
  clear lr RP
  go_wp2
  go_ret
  exact ⟨rfl, F.out⟩
end Go.Proofs.Ytfnidehbibfclaa
