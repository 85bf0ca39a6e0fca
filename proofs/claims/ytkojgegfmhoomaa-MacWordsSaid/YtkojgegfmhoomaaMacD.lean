/- Layer 6 (mac), the document's own tag. -/
import Derived.Test.YtkojgegfmhoomaaMacB
import Derived.Test.YtkojgegfmhoomaaMacC
import Derived.Deep.QuietTactic
import Derived.BigQuiet
namespace Go.Proofs.Ytkojgegfmhoomaa
open Go.ChangeShapes Go.WideShapes Go.ChangeAt Go.RowKit OctM

def roundsK (s : St) : Nat → St
  | 0 => s
  | k + 1 => roundN (roundsK s k)
theorem roundsK_ok {s : St} (h : s.ok) : ∀ k, (roundsK s k).ok
  | 0 => h
  | k + 1 => round_ok (roundsK_ok h k)
/-- A row that lies in another block is as it was. -/
theorem holds_only {B : Nat} {W W' : World} {p : Option Addr} {n c : Nat} {vs : List Value} (h : Holds W p n c vs) (o : OnlyB B W W') (ap : ∀ a, p = some a → a.block ≠ B) : Holds W' p n c vs := by
  refine ⟨h.len, h.cap, h.max, h.bare, fun i u hu => ?_⟩
  obtain ⟨a, ha, hc⟩ := h.cell i u hu
  refine ⟨a, ha, (World.cell?_of_block ?_).trans hc⟩
  rw [add_block]
  exact o.keep _ (ap a ha)
theorem sip_take {A B : Nat} {ms : List Nat} {k : Nat} (h : k < ms.length) : sipS A B (ms.take (k + 1)) = takeS (sipS A B (ms.take k)) (ms.getD k 0) := by
  rw [List.take_succ_eq_append_getElem h, sip_snoc, List.getD_eq_getElem?_getD, List.getElem?_eq_getElem h]
  rfl

set_option maxRecDepth 100000 in
set_option maxHeartbeats 16000000 in
theorem rtag6_any (w : World) (id : Int) (A B : Nat) (hA : W64 A) (hB : W64 B) (p : Option Addr) (n c : Nat) (ds : List Nat) (hd : Holds w p n c (valsN .u8 ds)) (hy : Byt ds) (hn : n ≤ 2000000) :
    Calls Try.prog 8 #[.agg #[.int .u32 id, .int .u64 (A : Nat), .int .u64 (B : Nat)], .slice p n c] w fun e w' => e = .returned (.int .u64 (tagN A B ds : Nat)) ∧ Below w.heap.size w w' := by
  have ln : ds.length = n := by have := hd.len; rwa [valsN_len] at this
  obtain ⟨ms, hms⟩ : ∃ ms, ms = wordsN ds := ⟨_, rfl⟩
  have OKM : Hid (∀ m ∈ ms, W64 m) := by unfold Hid; rw [hms]; exact words_w64 hy
  obtain ⟨N, hN⟩ : ∃ N, N = ms.length := ⟨_, rfl⟩
  have NB : Hid (N ≤ 2000000) := by
    unfold Hid
    rw [hN, hms]
    unfold wordsN fullN
    rw [List.length_append, List.length_map, List.length_range, ln]
    simp only [List.length_cons, List.length_nil]
    omega
  have nb : (N : Int) ≤ 2000000 := by have := NB.out; omega
  obtain ⟨x0, hx0⟩ : ∃ x, x = A ^^^ 8317987319222330741 := ⟨_, rfl⟩
  obtain ⟨x1, hx1⟩ : ∃ x, x = B ^^^ 7237128888997146477 := ⟨_, rfl⟩
  obtain ⟨x2, hx2⟩ : ∃ x, x = A ^^^ 7816392313619706465 := ⟨_, rfl⟩
  obtain ⟨x3, hx3⟩ : ∃ x, x = B ^^^ 8387220255154660723 := ⟨_, rfl⟩
  have e0 : bits .xor .u64 (A : Int) 8317987319222330741 = (x0 : Int) := by rw [hx0]; exact bits_xor_u64_nat _ 8317987319222330741 hA (by decide)
  have e1 : bits .xor .u64 (B : Int) 7237128888997146477 = (x1 : Int) := by rw [hx1]; exact bits_xor_u64_nat _ 7237128888997146477 hB (by decide)
  have e2 : bits .xor .u64 (A : Int) 7816392313619706465 = (x2 : Int) := by rw [hx2]; exact bits_xor_u64_nat _ 7816392313619706465 hA (by decide)
  have e3 : bits .xor .u64 (B : Int) 8387220255154660723 = (x3 : Int) := by rw [hx3]; exact bits_xor_u64_nat _ 8387220255154660723 hB (by decide)
  have IS : Hid (initS A B = ⟨x0, x1, x2, x3⟩) := by unfold Hid initS; rw [hx0, hx1, hx2, hx3]
  have OKS : Hid (∀ k, (sipS A B (ms.take k)).ok) := fun k => sip_ok hA hB fun m hm => OKM.out m (List.mem_of_mem_take hm)
  have TG : Hid (tagN A B ds = endN (fourN (inC (sipS A B ms)))) := by unfold Hid tagN; rw [hms]
  have B1 : ((w.alloc (.cells #[.int .u32 id, .int .u64 (A : Nat), .int .u64 (B : Nat)] 25)).alloc (.cells #[.int .u64 (x0 : Nat), .int .u64 (x1 : Nat), .int .u64 (x2 : Nat), .int .u64 (x3 : Nat)] 55)).heap[w.heap.size + 1]? = some (.cells #[.int .u64 (x0 : Nat), .int .u64 (x1 : Nat), .int .u64 (x2 : Nat), .int .u64 (x3 : Nat)] 55 (0, 0)) := heap_alloc2_new _ _ _
  have LB : Below w.heap.size w ((w.alloc (.cells #[.int .u32 id, .int .u64 (A : Nat), .int .u64 (B : Nat)] 25)).alloc (.cells #[.int .u64 (x0 : Nat), .int .u64 (x1 : Nat), .int .u64 (x2 : Nat), .int .u64 (x3 : Nat)] 55)) := ((Below.refl _ _).alloc (Nat.le_refl _) _).alloc (by simp) _
  have SB : Hid (((w.alloc (.cells #[.int .u32 id, .int .u64 (A : Nat), .int .u64 (B : Nat)] 25)).alloc (.cells #[.int .u64 (x0 : Nat), .int .u64 (x1 : Nat), .int .u64 (x2 : Nat), .int .u64 (x3 : Nat)] 55)).heap.size = w.heap.size + 2) := by unfold Hid; simp
  have RW := rwords6_any _ p n c ds (hd.below LB) hy hn
  rw [← hms] at RW
  replace RW := Lib.hid RW
  have HB1 := Lib.hid B1
  have HLB := Lib.hid LB
  have HN := Lib.hid hN
  clear hA hB hd hy hn ln hms hx0 hx1 hx2 hx3 B1 LB hN
  go_enter Try.func8, Try.ntmps8
  go_wp2_with fail
  generalize ((w.alloc (.cells #[.int .u32 id, .int .u64 (A : Nat), .int .u64 (B : Nat)] 25)).alloc (.cells #[.int .u64 (x0 : Nat), .int .u64 (x1 : Nat), .int .u64 (x2 : Nat), .int .u64 (x3 : Nat)] 55)) = wa at *
  refine RW.out.mono ?_; rintro e w3 ⟨v3, rfl, hw3⟩
  obtain ⟨p3, c3, rfl, hm3⟩ := own_holds hw3.own
  have HM3 := hm3
  rw [← HN.out] at HM3 ⊢
  have ST3 : Hid (StB w3 (w.heap.size + 1) (sipS A B (ms.take 0))) := by
    show w3.heap[w.heap.size + 1]? = _
    rw [hw3.low.block _ (by rw [SB.out]; omega), HB1.out]
    rw [show sipS A B (ms.take 0) = initS A B from rfl, IS.out]
  have AP3 : Hid (∀ a, p3 = some a → a.block ≠ w.heap.size + 1) := fun a ha e => by
    subst ha
    have := (World.ownsRow.lt hw3.own a.block rfl).1
    rw [SB.out] at this
    omega
  have LW3 : Hid (Below w.heap.size w w3) := HLB.out.trans (hw3.low.mono HLB.out.size)
  replace HM3 := Lib.hid HM3
  clear hw3 hm3 HLB HB1 RW
  obtain ⟨K, hK⟩ : ∃ K, K = w.heap.size + 1 := ⟨_, rfl⟩
  have KW : Hid (w.heap.size ≤ K) := by unfold Hid; omega
  rw [← hK] at ST3 AP3 ⊢
  clear hK
  go_wp2_with fail
  go_loopw [7] (fun i wr => ∃ k : Nat, i = .int .i64 k ∧ Hid (k ≤ N) ∧ Hid (StB wr K (sipS A B (ms.take k))) ∧ Hid (OnlyB K w3 wr)) (fun i _ => 4000000 - (intOf i).toNat)
  case atStart => exact ⟨0, rfl, Nat.zero_le _, ST3, OnlyB.refl _ _⟩
  case round =>
    obtain ⟨k, rfl, hk, hst, hon⟩ := hrel
    have kb : (k : Int) ≤ 2000000 := by have := hk.out; have := NB.out; omega
    have ok := OKS.out k
    by_cases g : k < N
    · have g' : (k : Int) < (N : Int) := by omega
      have G : Hid (k + 1 ≤ N) := g
      obtain ⟨m, hm⟩ : ∃ m, m = ms.getD k 0 := ⟨_, rfl⟩
      have RC : Hid (∀ w', OnlyB K w3 w' → ∃ a, p3 = some a ∧ w'.cell? (a.add k) = some (.int .u64 (m : Nat))) := fun w' o => by
        rw [hm]
        exact (holds_only HM3.out o AP3.out).atN g
      have WM : Hid (W64 m) := by
        unfold Hid
        rw [hm, List.getD_eq_getElem?_getD, List.getElem?_eq_getElem (by rw [← HN.out]; exact g)]
        exact OKM.out _ (List.getElem_mem _)
      have NXT : Hid (sipS A B (ms.take (k + 1)) = inA (roundN (roundN (inD (sipS A B (ms.take k)) m))) m) := by
        unfold Hid
        rw [sip_take (by rw [← HN.out]; exact g), ← hm]
        rfl
      generalize sipS A B (ms.take k) = s at *
      obtain ⟨a, b, c, d⟩ := s
      obtain ⟨wa', wb', wc', wd'⟩ := ok
      simp only at wa' wb' wc' wd'
      have h0 : wr.heap[K]? = some (.cells #[.int .u64 (a : Nat), .int .u64 (b : Nat), .int .u64 (c : Nat), .int .u64 (d : Nat)] 55 (0, 0)) := hst.out
      obtain ⟨d1, hd1⟩ : ∃ x, x = d ^^^ m := ⟨_, rfl⟩
      have ev : bits .xor .u64 (d : Int) (m : Int) = (d1 : Int) := by rw [hd1]; exact bits_xor_u64_nat _ _ wd' WM.out
      have S1 : Hid (inD ⟨a, b, c, d⟩ m = ⟨a, b, c, d1⟩) := by unfold Hid; rw [hd1]; rfl
      have OK1 : Hid (St.ok ⟨a, b, c, d1⟩) := ⟨wa', wb', wc', by rw [hd1]; exact xor_lt wd' WM.out⟩
      have H0 := Lib.hid h0
      have c1 := blk_cell (o := 3) H0.out
      obtain ⟨ra, er, rc⟩ := RC.out wr hon.out
      subst er
      clear hk hst g hm wa' wb' wc' wd' h0 hd1
      go_wp2_with fail
      go_still_tail 12, (by kernel_rfl)
      change wpList _ _ _ _ _ wr.drew
      have G0 := Lib.hid (show wr.drew.heap[K]? = _ from H0.out)
      have Q0 := Lib.hid hon.out.drew
      clear c1 rc
      have c1 := blk_cell (o := 3) G0.out
      have f1 := blk_free (o := 3) G0.out
      generalize wr.drew = v0 at *
      go_wp2_with fail
      have H1 := Lib.hid (show StB (v0.setCell ⟨K, 3, none⟩ (.int .u64 (d1 : Nat))) K ⟨a, b, c, d1⟩ from blk_set (o := 3) (u := .int .u64 (d1 : Nat)) G0.out)
      have O1 := Lib.hid (Q0.out.set 3 (.int .u64 (d1 : Nat)))
      clear c1 f1 ev
      generalize v0.setCell ⟨K, 3, none⟩ (.int .u64 (d1 : Nat)) = v1 at *
      refine (rround6_any v1 K _ OK1.out H1.out).mono ?_; rintro e v2 ⟨rfl, st2, on2⟩
      have ST2 := Lib.hid st2
      have O2 := Lib.hid (O1.out.trans on2)
      clear st2 on2
      go_wp2_with fail
      refine (rround6_any v2 K _ (round_ok OK1.out) ST2.out).mono ?_; rintro e v3 ⟨rfl, st3, on3⟩
      have O3 := Lib.hid (O2.out.trans on3)
      have ok3 := round_ok (round_ok OK1.out)
      rw [← S1.out] at st3 ok3
      generalize roundN (roundN (inD ⟨a, b, c, d⟩ m)) = s3 at *
      obtain ⟨a3, b3, c3', d3⟩ := s3
      have H3 : Hid (v3.heap[K]? = some (.cells #[.int .u64 (a3 : Nat), .int .u64 (b3 : Nat), .int .u64 (c3' : Nat), .int .u64 (d3 : Nat)] 55 (0, 0))) := st3
      obtain ⟨a4, ha4⟩ : ∃ x, x = a3 ^^^ m := ⟨_, rfl⟩
      have ev : bits .xor .u64 (a3 : Int) (m : Int) = (a4 : Int) := by rw [ha4]; exact bits_xor_u64_nat _ _ ok3.a WM.out
      have S4 : Hid (sipS A B (ms.take (k + 1)) = ⟨a4, b3, c3', d3⟩) := by unfold Hid; rw [NXT.out, ha4]; rfl
      obtain ⟨ra', er', rc⟩ := RC.out v3 O3.out
      cases er'
      have c1 := blk_cell (o := 0) H3.out
      clear st3 on3 ok3 ha4 NXT S1 ST2
      go_wp2_with fail
      go_still_tail 12, (by kernel_rfl)
      change wpList _ _ _ _ _ v3.drew
      have G3 := Lib.hid (show v3.drew.heap[K]? = _ from H3.out)
      have Q3 := Lib.hid O3.out.drew
      clear c1 rc
      have c1 := blk_cell (o := 0) G3.out
      have f1 := blk_free (o := 0) G3.out
      generalize v3.drew = v4 at *
      have H4 := Lib.hid (show StB (v4.setCell ⟨K, 0, none⟩ (.int .u64 (a4 : Nat))) K ⟨a4, b3, c3', d3⟩ from blk_set (o := 0) (u := .int .u64 (a4 : Nat)) G3.out)
      have O4 := Lib.hid (Q3.out.set 0 (.int .u64 (a4 : Nat)))
      rw [← S4.out] at H4
      go_wp2
      go_roundw
      case rel => exact ⟨k + 1, by go_num, G, H4, O4⟩
      case measure => simp [intOf]; omega
    · have g' : (N : Int) ≤ (k : Int) := by omega
      have gk : Hid (decide (k < N) = false) := decide_eq_false g
      have ek : ms.take k = ms := List.take_of_length_le (by rw [← HN.out]; omega)
      rw [ek] at hst ok
      have okc := inC_ok ok
      generalize sipS A B ms = s at *
      obtain ⟨a, b, c, d⟩ := s
      have h0 : wr.heap[K]? = some (.cells #[.int .u64 (a : Nat), .int .u64 (b : Nat), .int .u64 (c : Nat), .int .u64 (d : Nat)] 55 (0, 0)) := hst.out
      have H0 := Lib.hid h0
      have O0 := Lib.hid hon.out
      obtain ⟨c1', hc1⟩ : ∃ x, x = c ^^^ 255 := ⟨_, rfl⟩
      have ev : bits .xor .u64 (c : Int) 255 = (c1' : Int) := by rw [hc1]; exact bits_xor_u64_nat _ 255 ok.c (by decide)
      have S1 : Hid (inC ⟨a, b, c, d⟩ = ⟨a, b, c1', d⟩) := by unfold Hid; rw [hc1]; rfl
      have q1 := blk_cell (o := 2) H0.out
      have f1 := blk_free (o := 2) H0.out
      have OKC := Lib.hid okc
      clear hk hst hon g ek ok h0 hc1 okc
      go_wp2_with fail
      have H1 := Lib.hid (show StB (wr.setCell ⟨K, 2, none⟩ (.int .u64 (c1' : Nat))) K ⟨a, b, c1', d⟩ from blk_set (o := 2) (u := .int .u64 (c1' : Nat)) H0.out)
      have O1 := Lib.hid (O0.out.set 2 (.int .u64 (c1' : Nat)))
      rw [← S1.out] at H1
      generalize inC ⟨a, b, c, d⟩ = s1 at *
      clear q1 f1 ev
      generalize wr.setCell ⟨K, 2, none⟩ (.int .u64 (c1' : Nat)) = u1 at *
      simp only [gk.out]
      go_loopw [8] (fun i wr => ∃ k : Nat, i = .int .i64 k ∧ Hid (k ≤ 4) ∧ Hid (StB wr K (roundsK s1 k)) ∧ Hid (OnlyB K w3 wr)) (fun i _ => 100 - (intOf i).toNat)
      case atStart => exact ⟨0, rfl, Nat.zero_le _, H1, O1⟩
      case round =>
        obtain ⟨j, rfl, hj, hst, hon⟩ := hrel
        have j4 : (j : Int) ≤ 4 := by have := hj.out; omega
        by_cases g : j < 4
        · have g' : (j : Int) < 4 := by omega
          have G : Hid (j + 1 ≤ 4) := g
          have RR := Lib.hid (rround6_any _ K _ (roundsK_ok OKC.out j) hst.out)
          have ON := Lib.hid hon.out
          clear hj hst hon g
          go_wp2_with fail
          refine RR.out.mono ?_; rintro e z1 ⟨rfl, st, on⟩
          have ST : Hid (StB z1 K (roundsK s1 (j + 1))) := st
          have OZ := Lib.hid (ON.out.trans on)
          clear st on RR
          go_wp2
          go_roundw
          case rel => exact ⟨j + 1, by go_num, G, ST, OZ⟩
          case measure => simp [intOf]; omega
        · have g' : (4 : Int) ≤ (j : Int) := by omega
          obtain rfl : j = 4 := by have := hj.out; omega
          have okf := four_ok OKC.out
          have hst' := hst.out
          rw [show roundsK s1 4 = fourN s1 from rfl] at hst'
          generalize fourN s1 = s at *
          obtain ⟨a, b, c, d⟩ := s
          have h0 : StB _ K ⟨a, b, c, d⟩ := hst'
          unfold StB at h0
          have H0 := Lib.hid h0
          obtain ⟨y1, hy1⟩ : ∃ x, x = a ^^^ b := ⟨_, rfl⟩
          obtain ⟨y2, hy2⟩ : ∃ x, x = y1 ^^^ c := ⟨_, rfl⟩
          obtain ⟨y3, hy3⟩ : ∃ x, x = y2 ^^^ d := ⟨_, rfl⟩
          have f1 : bits .xor .u64 (a : Int) (b : Int) = (y1 : Int) := by rw [hy1]; exact bits_xor_u64_nat _ _ okf.a okf.b
          have wy1 : W64 y1 := by rw [hy1]; exact xor_lt okf.a okf.b
          have f2 : bits .xor .u64 (y1 : Int) (c : Int) = (y2 : Int) := by rw [hy2]; exact bits_xor_u64_nat _ _ wy1 okf.c
          have wy2 : W64 y2 := by rw [hy2]; exact xor_lt wy1 okf.c
          have f3 : bits .xor .u64 (y2 : Int) (d : Int) = (y3 : Int) := by rw [hy3]; exact bits_xor_u64_nat _ _ wy2 okf.d
          have TG' : Hid ((y3 : Nat) = tagN A B ds) := by
            unfold Hid
            rw [TG.out, hy3, hy2, hy1]
            rfl
          have k0 := blk_cell (o := 0) H0.out
          have k1 := blk_cell (o := 1) H0.out
          have k2 := blk_cell (o := 2) H0.out
          have k3 := blk_cell (o := 3) H0.out
          have FW := LW3.out.trans (hon.out.low w.heap.size KW.out)
          clear hj hst hon g hst' h0 okf hy1 hy2 hy3 wy1 wy2
          go_wp2_with fail
          go_quiet (fail)
          go_wp2
          go_ret
          exact ⟨ret_int (by rw [TG'.out]), below_drewN FW _⟩
end Go.Proofs.Ytkojgegfmhoomaa
