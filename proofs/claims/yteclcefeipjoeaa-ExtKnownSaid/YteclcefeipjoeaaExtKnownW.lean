/- ExtKnown: the document's examples; ends: the walk. -/
import Derived.Test.YteclcefeipjoeaaExtP
import Derived.Test.YteclcefeipjoeaaExtG
namespace Go.Proofs.Yteclcefeipjoeaa
open Go.ChangeShapes Go.WideShapes Go.ChangeAt Go.RowKit OctM

theorem HoldsX.front {w : World} {p : Option Addr} {n c k : Nat} {fs : List Fld} (h : HoldsX w p n c fs) (hk : k ≤ n) : HoldsX w p k c (fs.take k) :=
  ⟨by rw [List.length_take, h.len]; omega, Nat.le_trans hk h.cap, h.max, h.bare, fun i f hf => by
    have il : i < k := by
      have := (List.getElem?_eq_some_iff.1 hf).1
      rw [List.length_take] at this
      omega
    rw [List.getElem?_take, if_pos il] at hf
    exact h.cell i f hf⟩

/-- One field of type 1 with so many zero bytes, in new memory. -/
def OneP (w : World) (s : Nat) (e : Ending) (w' : World) : Prop :=
  ∃ a p c, e = .returned (.slice (some a) 1 1) ∧ HoldsX w' (some a) 1 1 [⟨1, p, s, c, List.replicate s 0⟩] ∧ New w.heap.size w' p s c (valsN .u8 (List.replicate s 0)) ∧ Below w.heap.size w w'

theorem field_any (w : World) (s : Nat) (hs : s ≤ 10000) : Calls Try.prog 24 #[.int .i64 (s : Int)] w (OneP w s) := by
  obtain ⟨C, hC, hCs, mk⟩ := makeZ s (by omega)
  have B1 : (w.alloc (.cells C 5)).heap[w.heap.size]? = some (.cells C 5 (0, 0)) := heap_alloc_new w _
  have B2 : ((w.alloc (.cells C 5)).alloc (.cells #[.int .u16 1, .slice (some ⟨w.heap.size, 0, none⟩) s s] 44)).heap[w.heap.size]? = some (.cells C 5 (0, 0)) := heap_alloc2_old _ _ _
  have B3 : ((w.alloc (.cells C 5)).alloc (.cells #[.int .u16 1, .slice (some ⟨w.heap.size, 0, none⟩) s s] 44)).heap[w.heap.size + 1]? = some (.cells #[.int .u16 1, .slice (some ⟨w.heap.size, 0, none⟩) s s] 44 (0, 0)) := heap_alloc2_new _ _ _
  have HD := blk_holds B2 hCs (by unfold maxLen; omega)
  rw [hC] at HD
  have FIN : Hid (OneP w s (.returned (.slice (some ⟨w.heap.size + 1, 0, none⟩) 1 1)) ((w.alloc (.cells C 5)).alloc (.cells #[.int .u16 1, .slice (some ⟨w.heap.size, 0, none⟩) s s] 44))) := by
    refine ⟨_, some ⟨w.heap.size, 0, none⟩, s, rfl, ⟨rfl, Nat.le_refl _, by decide, (fun e => by cases e), fun i f hf => ?_⟩, ⟨HD, fun a ha => by cases ha; exact Nat.le_refl _, fun a ha i _ => by cases ha; rw [add_zero']; exact blk_free B2⟩, ((Below.refl _ _).alloc (Nat.le_refl _) _).alloc (by simp) _⟩
    rcases i with _ | i
    · obtain rfl : _ = f := by simpa using hf
      exact ⟨_, rfl, by rw [add_zero']; exact blk_cell B3, by rw [add_zero']; exact blk_cell B3, HD⟩
    · simp at hf
  clear B1 B2 B3 HD hC hCs hs
  go_enter Try.func24, Try.ntmps24
  go_wp2
  go_ret
  exact FIN.out

theorem one_ok (s : Nat) (p : Option Addr) (c : Nat) : FldsOk [⟨1, p, s, c, List.replicate s 0⟩] := fun f hf => by
  obtain rfl : f = _ := by simpa using hf
  exact ⟨(by decide : 1 < 65536), byt_zeros s⟩
theorem one_no {w w' : World} {s : Nat} {e : Ending} (h : OneP w s e w') (hs : ¬ longN s) : ∃ a, e = .returned (.slice (some a) 1 1) ∧ Below w.heap.size w w' ∧ Calls Try.prog 10 #[.slice (some a) 1 1] w' (TellPost w' (.returned (.tuple #[.slice none 0 0, .int .i64 1]))) := by
  obtain ⟨a, p, c, rfl, hh, -, low⟩ := h
  refine ⟨a, rfl, low, pput5_arg w' _ 1 1 _ hh fun m => hs ?_⟩
  have := m.1 (1, List.replicate s 0) (by simp [says])
  rwa [List.length_replicate] at this
theorem one_yes {w w' : World} {s : Nat} {e : Ending} (h : OneP w s e w') (hs : longN s) : ∃ a L ds, e = .returned (.slice (some a) 1 1) ∧ Below w.heap.size w w' ∧ Calls Try.prog 10 #[.slice (some a) 1 1] w' (RowPost w' L ds) := by
  obtain ⟨a, p, c, rfl, hh, -, low⟩ := h
  refine ⟨a, _, _, rfl, low, pput5_ok w' _ 1 1 _ hh (one_ok s p c) ⟨fun x hx => ?_, (by decide : 1 ≤ 8)⟩⟩
  obtain rfl : x = (1, List.replicate s 0) := by simpa [says] using hx
  rw [List.length_replicate]
  exact hs

/-- Nine times the same field. -/
def F12 : Nat × List Nat := (1, List.replicate 12 0)
theorem f12_good : ∀ k x, x ∈ List.replicate k F12 → longN x.2.length ∧ x.1 < 65536 ∧ Byt x.2 := fun k x hx => by
  rw [List.eq_of_mem_replicate hx]
  exact ⟨by decide, by decide, byt_zeros 12⟩
theorem f12_may {k : Nat} (h : k ≤ 8) : mayX (List.replicate k F12) := ⟨fun x hx => (f12_good k x hx).1, by rw [List.length_replicate]; exact h⟩
theorem kn_full : parX (bytesX (List.replicate 8 F12) ++ [0, 1, 0, 16, 1, 2, 3, 4, 5, 6, 7, 8, 9, 0, 1, 2]) = ([], [], 7) := by decide +kernel
theorem kn_13 : parX (List.replicate 13 0) = ([], [], 4) := by decide +kernel
theorem kn_18 : parX ([0, 1, 0, 18] ++ List.replicate 14 0) = ([], [], 5) := by decide +kernel
theorem kn_468 : parX ([0, 1, 1, 216] ++ List.replicate 468 0) = ([], [], 5) := by decide +kernel
theorem kn_len : (bytesX (List.replicate 8 F12)).length = 128 := by decide +kernel
theorem own_c (w : World) (B : Nat) (hB : B ≤ w.heap.size) : (w.alloc (.cells #[.int .u8 0, .int .u8 1, .int .u8 0, .int .u8 18] 5)).ownsRow B 5 1 (.slice (some ⟨w.heap.size, 0, none⟩) 4 4) 4 (valsN .u8 [0, 1, 0, 18]) :=
  own_of_blk (heap_alloc_new w _) rfl (by decide) hB
theorem own_d (w : World) (B : Nat) (hB : B ≤ w.heap.size) : (w.alloc (.cells #[.int .u8 0, .int .u8 1, .int .u8 1, .int .u8 216] 5)).ownsRow B 5 1 (.slice (some ⟨w.heap.size, 0, none⟩) 4 4) 4 (valsN .u8 [0, 1, 1, 216]) :=
  own_of_blk (heap_alloc_new w _) rfl (by decide) hB

/-- While fields are added: k of them are. -/
def ManyRel (w wr : World) (v : Value) (k : Nat) : Prop := ∃ gs, RowX w wr v gs ∧ says gs = List.replicate k F12
theorem many_next {w wr wm w3 : World} {v : Value} {g cap k : Nat} {p : Option Addr} {c : Nat} {gs : List Fld} (hr : RowX w wr v gs) (e : says gs = List.replicate k F12) (lk : gs.length = k) (hb : Below wr.heap.size wr wm) (nw : New wr.heap.size wm p 12 c (valsN .u8 (List.replicate 12 0)))
    (o : w3.ownsRow w.heap.size 44 2 (.slice (some ⟨g, 0, none⟩) (k + 1) cap) (k + 1) (cellsX gs ++ [.int .u16 1, .slice p 12 c])) (gr : wm.grownBy w3 v.ownBlock) (mv : v.ownBlock = some g ∨ g = wm.heap.size) : ManyRel w w3 (.slice (some ⟨g, 0, none⟩) (k + 1) cap) (k + 1) := by
  subst lk
  have x := hr.next (f := ⟨1, p, 12, c, List.replicate 12 0⟩) (by show 0 < 12; decide) hb nw o gr mv
  refine ⟨_, x, ?_⟩
  rw [says_snoc, e, List.replicate_succ' (n := gs.length)]
  rfl

set_option maxRecDepth 100000 in
set_option maxHeartbeats 16000000 in
theorem known5_walk (w : World) : Calls Try.prog 8 #[] w fun e w' => e = .returned (.bool true) ∧ Below w.heap.size w w' := by
  obtain ⟨iX, hi, hz0, hz1, hz2⟩ := info_of infoX
  obtain ⟨i0, ji, jz0, jz1, jz2⟩ := info_of info8
  have F1 := Lib.hid (field_any w 8 (by decide))
  go_enter Try.func8, Try.ntmps8
  go_wp2_with fail
  refine F1.out.mono ?_; intro e w1 h1
  obtain ⟨a1, rfl, l1, P1⟩ := one_no h1 (by decide)
  have LA := Lib.hid l1
  have PA := Lib.hid P1
  clear h1 l1 P1 F1
  go_wp2_with fail
  refine PA.out.mono ?_; rintro e w2 ⟨rfl, l2⟩
  have LB : Hid (Below w.heap.size w w2) := LA.out.trans (l2.mono LA.out.size)
  have F2 := Lib.hid (field_any w2 13 (by decide))
  clear l2 PA LA
  go_wp2_with fail
  refine F2.out.mono ?_; intro e w3 h3
  obtain ⟨a3, rfl, l3, P3⟩ := one_no h3 (by decide)
  have LC : Hid (Below w.heap.size w w3) := LB.out.trans (l3.mono LB.out.size)
  have PC := Lib.hid P3
  clear h3 l3 P3 F2 LB
  go_wp2_with fail
  refine PC.out.mono ?_; rintro e w4 ⟨rfl, l4⟩
  have LD : Hid (Below w.heap.size w w4) := LC.out.trans (l4.mono LC.out.size)
  have F3 := Lib.hid (field_any w4 464 (by decide))
  clear l4 PC LC
  go_wp2_with fail
  refine F3.out.mono ?_; intro e w5 h5
  obtain ⟨a5, L5, d5, rfl, l5, P5⟩ := one_yes h5 (by decide)
  have LE : Hid (Below w.heap.size w w5) := LD.out.trans (l5.mono LD.out.size)
  have PE := Lib.hid P5
  clear h5 l5 P5 F3 LD
  go_wp2_with fail
  refine PE.out.mono ?_; rintro e w6 ⟨v6, rfl, o6, l6⟩
  have LF : Hid (Below w.heap.size w w6) := LE.out.trans (l6.mono LE.out.size)
  have F4 := Lib.hid (field_any w6 468 (by decide))
  clear o6 l6 PE LE
  go_wp2_with fail
  refine F4.out.mono ?_; intro e w7 h7
  obtain ⟨a7, rfl, l7, P7⟩ := one_no h7 (by decide)
  have LG : Hid (Below w.heap.size w w7) := LF.out.trans (l7.mono LF.out.size)
  have PG := Lib.hid P7
  clear h7 l7 P7 F4 LF
  go_wp2_with fail
  refine PG.out.mono ?_; rintro e w8 ⟨rfl, l8⟩
  have LH : Hid (Below w.heap.size w w8) := LG.out.trans (l8.mono LG.out.size)
  clear l8 PG LG
  go_wp2_with fail
  go_loopw [10, 54] (fun v i wr => ∃ k : Nat, i = .int .i64 k ∧ Hid (k ≤ 9) ∧ Hid (ManyRel w8 wr v k)) (fun _ i _ => 100 - (intOf i).toNat)
  case atStart => exact ⟨0, rfl, Nat.zero_le _, [], RowX.start w8, rfl⟩
  case round =>
    obtain ⟨k, rfl, hk, h⟩ := hrel
    have k9 : (k : Int) ≤ 9 := by have := hk.out; omega
    by_cases g : k < 9
    · have g' : (k : Int) < 9 := by omega
      have G : Hid (k + 1 ≤ 9) := by unfold Hid; omega
      have F5 := Lib.hid (field_any wr 12 (by decide))
      have BM : Hid (k + 1 ≤ maxLen) := by unfold Hid maxLen; omega
      have BY : Hid ((k + 1) * 32 ≤ 140737488355328) := by unfold Hid; omega
      obtain ⟨gs, hr, hsg⟩ := h.out
      have lk : gs.length = k := by rw [← says_len, hsg, List.length_replicate]
      obtain ⟨p3, c3, rfl⟩ := hr.slice
      rw [lk] at h ⊢
      rw [lk] at hr
      have OW := hr.own
      rw [lk] at OW
      replace OW := Lib.hid OW
      have HR := Lib.hid hr
      have HS := Lib.hid hsg
      have LK := Lib.hid lk
      clear g hk hr hsg lk
      go_wp2_with fail
      refine F5.out.mono ?_; intro e w9 h9
      obtain ⟨a9, p9, c9, rfl, hh9, nw9, l9⟩ := h9
      have L9 := Lib.hid l9
      have N9 := Lib.hid nw9
      have CE : Hid (∀ j u, ([.int .u16 1, .slice p9 12 c9] : List Value)[j]? = some u → w9.cell? (a9.add j) = some u) := fun j u hu => by
        obtain ⟨a', ea, c1, c2, -⟩ := hh9.cell 0 _ rfl
        cases ea
        rcases j with _ | _ | j
        · have : .int .u16 1 = u := by simpa using hu
          rw [← this]; exact c1
        · have : .slice p9 12 c9 = u := by simpa using hu
          rw [← this]; exact c2
        · simp at hu
      have ONE : Hid (∀ u ∈ ([.int .u16 1, .slice p9 12 c9] : List Value), u.oneCell' = true) := by
        intro u hu
        simp only [List.mem_cons, List.not_mem_nil, or_false] at hu
        rcases hu with rfl | rfl <;> rfl
      have LW : Hid (w8.heap.size ≤ w9.heap.size) := Nat.le_trans HR.out.low.size l9.size
      clear hh9 nw9 l9
      go_wp2_with (at_builtin; refine wpList_append_lies _ rfl _ _ _ rfl w8.heap.size 44 iX (.agg #[.int .u16 0, .slice none 0 0]) 2 32 Try.underlying22 hi hz0 hz1 hz2 rfl (by omega) (.slice p3 k c3) k (cellsX gs) rfl (own_keep OW.out L9.out) a9 1 1 [.int .u16 1, .slice p9 12 c9] rfl rfl CE.out ONE.out (by omega) BM.out BY.out LW.out _ rfl ?_)
      intro gg cap w10 o10 g10 m10 lt10
      have NX := Lib.hid (many_next (g := gg) (cap := cap) HR.out HS.out LK.out L9.out N9.out o10 g10 m10)
      clear o10 g10 m10 lt10 h
      go_wp2
      go_roundw
      case rel => exact ⟨k + 1, by go_num, G, NX⟩
      case measure => simp [intOf]; omega
    · have g' : (9 : Int) ≤ (k : Int) := by omega
      obtain rfl : k = 9 := by have := hk.out; omega
      obtain ⟨gs, hr, hsg⟩ := h.out
      obtain ⟨ln, p3, c3, rfl, hh, -⟩ := ownX hr.own hr.news.data
      have lk : gs.length = 9 := by rw [← says_len, hsg]; rfl
      rw [lk] at hh ⊢
      have okg : FldsOk gs := says_ok (by rw [hsg]; exact fun x hx => f12_good 9 x hx)
      have LI : Hid (Below w.heap.size w wr) := LH.out.trans (hr.low.mono LH.out.size)
      have PI := Lib.hid (pput5_arg wr p3 9 c3 gs hh (fun m => by have := m.2; rw [says_len, lk] at this; omega))
      have PJ := Lib.hid (fun w' (b : Below wr.heap.size wr w') => show Calls Try.prog 10 #[.slice p3 8 c3] w' (RowPost w' 128 (bytesX (List.replicate 8 F12))) by
        have h := pput5_ok w' p3 8 c3 (gs.take 8) ((hh.below b).front (by decide)) (fun f hf => okg f (List.mem_of_mem_take hf)) (by rw [says_take, hsg]; exact f12_may (k := 8) (Nat.le_refl _))
        rwa [says_take, hsg, show (List.replicate 9 F12).take 8 = List.replicate 8 F12 from rfl, kn_len] at h)
      have c9 : (9 : Int) ≤ (c3 : Int) := by have := hh.cap; omega
      have c8 : (8 : Int) ≤ (c3 : Int) := by omega
      clear g hk h hr hsg hh lk okg ln
      go_wp2_with fail
      refine PI.out.mono ?_; rintro e w11 ⟨rfl, l11⟩
      have LJ : Hid (Below w.heap.size w w11) := LI.out.trans (l11.mono LI.out.size)
      have PJ11 := Lib.hid (PJ.out _ l11)
      clear l11 PJ PI
      go_wp2_with fail
      refine PJ11.out.mono ?_; rintro e w12 ⟨v12, rfl, o12, l12⟩
      obtain ⟨p12, c12, rfl, -⟩ := own_holds o12
      have LK : Hid (Below w.heap.size w w12) := LJ.out.trans (l12.mono LJ.out.size)
      have B12 := Lib.hid l12
      have O12 := Lib.hid o12
      have NA : Hid (∀ j u, (valsN .u8 [0, 1, 0, 16, 1, 2, 3, 4, 5, 6, 7, 8, 9, 0, 1, 2])[j]? = some u → (w12.alloc (.cells #[.int .u8 0, .int .u8 1, .int .u8 0, .int .u8 16, .int .u8 1, .int .u8 2, .int .u8 3, .int .u8 4, .int .u8 5, .int .u8 6, .int .u8 7, .int .u8 8, .int .u8 9, .int .u8 0, .int .u8 1, .int .u8 2] 5)).cell? ((⟨w12.heap.size, 0, none⟩ : Addr).add j) = some u) := World.news_of_block (cs := #[.int .u8 0, .int .u8 1, .int .u8 0, .int .u8 16, .int .u8 1, .int .u8 2, .int .u8 3, .int .u8 4, .int .u8 5, .int .u8 6, .int .u8 7, .int .u8 8, .int .u8 9, .int .u8 0, .int .u8 1, .int .u8 2]) (heap_alloc_new w12 _)
      have BA : Hid (Below w11.heap.size w11 (w12.alloc (.cells #[.int .u8 0, .int .u8 1, .int .u8 0, .int .u8 16, .int .u8 1, .int .u8 2, .int .u8 3, .int .u8 4, .int .u8 5, .int .u8 6, .int .u8 7, .int .u8 8, .int .u8 9, .int .u8 0, .int .u8 1, .int .u8 2] 5))) := l12.alloc l12.size _
      have OA : Hid ((w12.alloc (.cells #[.int .u8 0, .int .u8 1, .int .u8 0, .int .u8 16, .int .u8 1, .int .u8 2, .int .u8 3, .int .u8 4, .int .u8 5, .int .u8 6, .int .u8 7, .int .u8 8, .int .u8 9, .int .u8 0, .int .u8 1, .int .u8 2] 5)).ownsRow w11.heap.size 5 1 (.slice p12 128 c12) 128 (valsN .u8 (bytesX (List.replicate 8 F12)))) := own_keep o12 ((Below.refl _ _).alloc (Nat.le_refl _) _)
      clear l12 o12 PJ11
      go_wp2_with (at_builtin; refine wpList_append_lies _ rfl _ _ _ rfl w11.heap.size 5 i0 (.int .u8 0) 1 1 Try.underlying25 ji jz0 jz1 jz2 rfl (by omega) (.slice p12 128 c12) 128 _ rfl OA.out ⟨w12.heap.size, 0, none⟩ 16 16 _ rfl rfl NA.out (valsN_one _ _) (by omega) (by decide) (by decide) BA.out.size _ rfl ?_)
      intro gg cap w13 o13 g13 m13 lt13
      have L13 : Hid (Below w11.heap.size w11 w13) := BA.out.grown g13 BA.out.size (fun j hj => (World.ownsRow.lt OA.out j hj).1)
      have LL : Hid (Below w.heap.size w w13) := LJ.out.trans (L13.out.mono LJ.out.size)
      have P13 := ex_call w13 _ 144 _ (bytesX (List.replicate 8 F12) ++ [0, 1, 0, 16, 1, 2, 3, 4, 5, 6, 7, 8, 9, 0, 1, 2]) (by rw [valsN_append]; exact o13) (byt_append (bytesX_byt fun x hx => by have h := f12_good 8 x hx; exact ⟨h.2.1, h.2.2, by have := h.1; unfold longN at this; omega⟩) (by decide)) (by decide)
      rw [kn_full] at P13
      replace P13 := Lib.hid P13
      clear o13 g13 m13 lt13
      go_wp2_with fail
      refine P13.out.mono ?_; intro e w14 h14
      obtain ⟨p14, c14, q14, d14, rfl, -, l14⟩ := par_none h14
      have LM : Hid (Below w.heap.size w w14) := LL.out.trans (l14.mono LL.out.size)
      obtain ⟨C, hC, hCs, mk'⟩ := makeZ 13 (by decide)
      have mk : ∀ w, (Instr.makeSlice 25 (.int .i64 13) (.int .i64 13)).run Try.prog w = .ok (.slice (some ⟨w.heap.size, 0, none⟩) 13 13) (w.alloc (.cells C 5)) := mk'
      have LN := Lib.hid (LM.out.alloc LM.out.size (.cells C 5))
      have hh15 := blk_holds (heap_alloc_new w14 (.cells C 5)) hCs (by decide)
      rw [hC] at hh15
      have P15 := pparse5_any _ _ 13 13 _ hh15 (byt_zeros 13) (by decide)
      rw [kn_13] at P15
      replace P15 := Lib.hid P15
      clear h14 l14 mk' hC hCs hh15 P13 LL L13
      go_wp2_with fail
      refine P15.out.mono ?_; intro e w16 h16
      obtain ⟨p16, c16, q16, d16, rfl, -, l16⟩ := par_none h16
      have LO : Hid (Below w.heap.size w w16) := LN.out.trans (l16.mono LN.out.size)
      have LP := Lib.hid (LO.out.alloc LO.out.size (.cells #[.int .u8 0, .int .u8 1, .int .u8 0, .int .u8 18] 5))
      have B17 := Lib.hid (bytesOf_any _ w16.heap.size 4 14 _ _ (by simp) (own_c w16 w16.heap.size (Nat.le_refl _)) (by omega))
      clear h16 l16 P15 mk
      go_wp2_with fail
      refine B17.out.mono ?_; rintro e w18 ⟨v18, rfl, o18, l18⟩
      have P18 := ex_call w18 v18 _ _ _ o18 (four_byt (by decide) (by decide) (by decide) (by decide)) (by decide)
      rw [kn_18] at P18
      replace P18 := Lib.hid P18
      have LQ : Hid (Below w.heap.size w w18) := LP.out.trans (l18.mono LO.out.size)
      clear o18 l18 B17
      go_wp2_with fail
      refine P18.out.mono ?_; intro e w19 h19
      obtain ⟨p19, c19, q19, d19, rfl, -, l19⟩ := par_none h19
      have LR : Hid (Below w.heap.size w w19) := LQ.out.trans (l19.mono LQ.out.size)
      have LS := Lib.hid (LR.out.alloc LR.out.size (.cells #[.int .u8 0, .int .u8 1, .int .u8 1, .int .u8 216] 5))
      have B20 := Lib.hid (bytesOf_any _ w19.heap.size 4 468 _ _ (by simp) (own_d w19 w19.heap.size (Nat.le_refl _)) (by omega))
      clear h19 l19 P18
      go_wp2_with fail
      refine B20.out.mono ?_; rintro e w21 ⟨v21, rfl, o21, l21⟩
      have P21 := ex_call w21 v21 _ _ _ o21 (four_byt (by decide) (by decide) (by decide) (by decide)) (by decide)
      rw [kn_468] at P21
      replace P21 := Lib.hid P21
      have LT : Hid (Below w.heap.size w w21) := LS.out.trans (l21.mono LR.out.size)
      clear o21 l21 B20
      go_wp2_with fail
      refine P21.out.mono ?_; intro e w22 h22
      obtain ⟨p22, c22, q22, d22, rfl, -, l22⟩ := par_none h22
      have LU : Hid (Below w.heap.size w w22) := LT.out.trans (l22.mono LT.out.size)
      have P23 := pparse5_any w22 none 0 0 [] (Holds.nil _ _ _ (Nat.zero_le _) (fun _ => rfl)) (fun d hd => by cases hd) (by decide)
      rw [show parX [] = ([], [], 0) from rfl] at P23
      replace P23 := Lib.hid P23
      clear h22 l22 P21
      go_wp2_with fail
      refine P23.out.mono ?_; intro e w24 h24
      obtain ⟨p24, c24, q24, d24, rfl, -, l24⟩ := par_none h24
      have LV : Hid (Below w.heap.size w w24) := LU.out.trans (l24.mono LU.out.size)
      have AW := Lib.hid (awake5_any w24)
      clear h24 l24 P23
      go_wp2_with fail
      refine AW.out.mono ?_; rintro e w25 ⟨rfl, l25⟩
      have LX : Hid (Below w.heap.size w w25) := LV.out.trans (l25.mono LV.out.size)
      have PM := pmay5_any w25 none 0 0 [] (holdsX_nil _ _ _ (Nat.zero_le _) (fun _ => rfl))
      rw [show decide (mayX (says [])) = true from by decide] at PM
      replace PM := Lib.hid PM
      clear l25 AW
      go_wp2_with fail
      refine PM.out.mono ?_; rintro e w26 ⟨rfl, l26⟩
      have FW : Hid (Below w.heap.size w w26) := LX.out.trans (l26.mono LX.out.size)
      clear l26
      go_wp2
      go_ret
      exact ⟨rfl, FW.out⟩
end Go.Proofs.Yteclcefeipjoeaa
