/- Layer 16 (leap), work ahead, the document's own: Add. -/
import Derived.Test.YtpfbdpoileepoaaLpG
set_option maxRecDepth 100000
namespace Go.Proofs.Ytpfbdpoileepoaa
open Go.ChangeShapes Go.WideShapes Go.ChangeAt Go.RowKit SmM

theorem HoldsL.turn {w w' : World} {N : Nat} {p : Option Addr} {n c : Nat} {l : List Lp} (h : HoldsL w p n c l) (aw : ∀ a, p = some a → a.block ≠ N) (t : Turn N w w') : HoldsL w' p n c l :=
  ⟨h.len, h.cap, h.max, fun i hi => by
    obtain ⟨a, ha, c1, c2⟩ := h.cell i hi
    have ab : (a.add (i * 2)).block = a.block := add_block a _
    have l1 := World.block_lt_of_cell? w _ c1
    have k := t.keep a.block (aw a ha) (by rw [ab] at l1; exact l1)
    refine ⟨a, ha, ?_, ?_⟩
    · rw [← c1]
      unfold World.cell?
      rw [ab, k]
    · rw [← c2]
      unfold World.cell?
      dsimp only
      rw [ab, k]⟩
/-- The document's table, its row apart from it. -/
structure RfQ (w : World) (N : Nat) (p : Option Addr) (n c : Nat) (l : List Lp) (e b : Int) : Prop where
  rf : RfP w N p n c l e b
  bare : p = none → c = 0
  away : ∀ a, p = some a → a.block ≠ N
theorem RfQ.below {w w' : World} {N : Nat} {p : Option Addr} {n c : Nat} {l : List Lp} {e b : Int} (h : RfQ w N p n c l e b) (k : Below w.heap.size w w') : RfQ w' N p n c l e b := ⟨h.rf.below k, h.bare, h.away⟩
/-- What Add makes of it: its own block alone turns. -/
def RfAdd (w : World) (N : Nat) (p : Option Addr) (l : List Lp) (e b : Int) (y : Lp) (e' : Int) (r : Ending) (w' : World) : Prop := Turn N w w' ∧ ∃ x p' c', r = .returned (.int .i64 x) ∧ AddT l e b y e' x ∧ (∀ a, p' = some a → (x ≠ 0 ∧ p = some a) ∨ w.heap.size ≤ a.block) ∧ RfQ w' N p' (if x = 0 then l ++ [y] else l).length c' (if x = 0 then l ++ [y] else l) (if x = 0 then e' else e) b
set_option maxHeartbeats 8000000 in
theorem radd16 {w : World} {N : Nat} {p : Option Addr} {n c : Nat} {l : List Lp} {e b : Int} (h : RfQ w N p n c l e b) (y : Lp) (iy : I64 y.t ∧ I64 y.k) (e' : Int) :
    Calls Try.prog 17 #[.pointer (some ⟨N, 0, none⟩), .agg #[.int .i64 y.t, .int .i64 y.k], .int .i64 e'] w (RfAdd w N p l e b y e') := by
  obtain ⟨yt, yk⟩ := y
  dsimp only at iy ⊢
  obtain ⟨V, hV⟩ : ∃ V, w.alloc (.cells #[.int .i64 yt, .int .i64 yk] 33) = V := ⟨_, rfl⟩
  have B0 : Below w.heap.size w V := by rw [← hV]; exact (Below.refl _ _).alloc (Nat.le_refl _) _
  have Y0 : V.heap[w.heap.size]? = some (.cells #[.int .i64 yt, .int .i64 yk] 33 (0, 0)) := by rw [← hV]; exact heap_alloc_new _ _
  have yb := (Array.getElem?_eq_some_iff.1 Y0).1
  have NL : Hid (N < w.heap.size) := (Array.getElem?_eq_some_iff.1 h.rf.bk).1
  have hv := h.below B0
  have x0 := blk_cell (o := 0) hv.rf.bk
  simp only [List.getElem?_toArray, List.getElem?_cons_zero] at x0
  have LN := Lib.hid h.rf.row.len
  have NF : Hid (n ≤ 32) := h.rf.few
  have HLV := Lib.hid hv.rf.row
  have BR := Lib.hid h.bare
  have L0 := Lib.hid B0
  have V1 : Hid (w.heap.size ≤ V.heap.size) := B0.size
  have bk5 : ∀ {w5 : World}, Below V.heap.size V w5 → w5.heap[N]? = some (.cells #[.slice p n c, .int .i64 e, .int .i64 b] 37 (0, 0)) := fun k => (k.block _ (Nat.lt_of_lt_of_le NL.out V1.out)).trans hv.rf.bk
  have SC : Hid (∀ w', Below V.heap.size V w' → w'.cell? ⟨w.heap.size, 0, none⟩ = some (.int .i64 yt) ∧ w'.cell? ⟨w.heap.size, 1, none⟩ = some (.int .i64 yk) ∧ w'.cell? ⟨N, 2, none⟩ = some (.int .i64 b)) := fun w' k =>
    ⟨blk_cell ((k.block _ yb).trans Y0), blk_cell ((k.block _ yb).trans Y0), blk_cell (bk5 k)⟩
  have SAME : Hid (∀ w5 x, Below V.heap.size V w5 → AddT l e b ⟨yt, yk⟩ e' x → x ≠ 0 → RfAdd w N p l e b ⟨yt, yk⟩ e' (.returned (.int .i64 x)) w5) := fun w5 x k a x0 => by
    refine ⟨Turn.of_below (L0.out.trans (k.mono L0.out.size)), x, p, c, rfl, a, fun a h => .inl ⟨x0, h⟩, ?_⟩
    rw [if_neg x0, if_neg x0, LN.out]
    exact hv.below k
  have RNW : Hid (∀ w4 gg cap, OwnL w4 V.heap.size (some ⟨gg, 0, none⟩) (n + 1) cap (l ++ [⟨yt, yk⟩]) → Calls Try.prog 11 #[.slice (some ⟨gg, 0, none⟩) (n + 1) cap, .int .i64 e', .int .i64 b] w4 (RfNew w4 (l ++ [⟨yt, yk⟩]) e' b)) := fun w4 gg cap o =>
    rnew16 w4 _ _ _ _ o.holds (fun e => by cases e) (fun z hz => by
      rcases List.mem_append.1 hz with hz | hz
      · have := h.rf.ok.1 z hz
        unfold dayI topI at this
        unfold I64
        omega
      · obtain rfl := List.mem_singleton.1 hz
        exact iy) e' b
  have BK : Hid (∀ w5, Below V.heap.size V w5 → w5.heap[N]? = some (.cells #[.slice p n c, .int .i64 e, .int .i64 b] 37 (0, 0))) := fun w5 k => bk5 k
  have NO : Hid (V.ownsRow V.heap.size 33 2 (.slice none 0 0) 0 (cellsL [])) := ⟨rfl, .inl ⟨rfl, rfl⟩⟩
  have BM : Hid (n + 1 ≤ maxLen) := by have := NF.out; unfold Hid maxLen; omega
  have BY : Hid ((n + 1) * 16 ≤ 140737488355328) := by have := NF.out; unfold Hid; omega
  obtain ⟨iL, hiL, hz0, hz1, hz2⟩ := infoLp_of infoLp
  clear h hv B0 Y0 yb bk5 iy
  go_enter Try.func17, Try.ntmps17
  go_wp2_with (at_builtin; clear hV; refine append_lps rfl _ _ rfl V.heap.size (.slice none 0 0) 0 [] rfl NO.out p n c l rfl HLV.out BR.out (by have := NF.out; omega) (Nat.le_refl _) ?_)
  intro p2 c2 w2 o2 g2
  have K1 : Below V.heap.size V w2 := (Below.refl _ _).grown g2 (Nat.le_refl _) (fun j hj => (World.ownsRow.lt NO.out j hj).1)
  have o2' : w2.ownsRow V.heap.size 33 2 (.slice p2 n c2) n (cellsL l) := o2
  have K2 : Below V.heap.size V w2.drew := K1.drew
  have K3 : Below V.heap.size V (w2.drew.alloc (.cells #[.int .i64 yt, .int .i64 yk] 33)) := K2.alloc K2.size _
  have O3 : Hid ((w2.drew.alloc (.cells #[.int .i64 yt, .int .i64 yk] 33)).ownsRow V.heap.size 33 2 (.slice p2 n c2) n (cellsL l)) := own_keep o2' ((Below.refl w2.heap.size w2).drew.alloc (Nat.le_refl _) _)
  clear o2 o2' g2 K1 x0 NO
  go_wp2_with fail
  refine wp_region_held_drew (S := fun w' => w'.cell? ⟨w.heap.size, 0, none⟩ = some (.int .i64 yt) ∧ w'.cell? ⟨w.heap.size, 1, none⟩ = some (.int .i64 yk) ∧ w'.cell? ⟨N, 2, none⟩ = some (.int .i64 b)) (by kernel_rfl) (SC.out _ K2) (fun hHeld => ?_)
  refine wpAnyH_take (i := 0) (v := ?_) (by (simp only [List.getElem?_toArray, List.getElem?_cons_zero]; exact rfl)) (by kernel_rfl) (by kernel_rfl) (by kernel_rfl) (by exact fun _ _ _ h => h) (Or.inl ⟨by rfl, ?_⟩) (by assumption) ?_
  rotate_left
  · (intro w hSw; (try dsimp only at hSw); first | (go_simp; done) | (go_simp; with_reducible rfl))
  try simp only [Act.put, List.setIfInBounds_toArray, List.set_cons_zero, List.set_cons_succ]
  refine wpAnyH_take (i := 1) (v := ?_) (by (simp only [List.getElem?_toArray, List.getElem?_cons_zero, List.getElem?_cons_succ]; exact rfl)) (by kernel_rfl) (by kernel_rfl) (by kernel_rfl) (by exact fun _ _ _ h => h) (Or.inl ⟨by rfl, ?_⟩) (by assumption) ?_
  rotate_left
  · (intro w hSw; (try dsimp only at hSw); first | (go_simp; done) | (go_simp; with_reducible rfl))
  try simp only [Act.put, List.setIfInBounds_toArray, List.set_cons_zero, List.set_cons_succ]
  refine wpAnyH_take (i := 4) (v := ?_) (by (simp only [List.getElem?_toArray, List.getElem?_cons_zero, List.getElem?_cons_succ]; exact rfl)) (by kernel_rfl) (by kernel_rfl) (by kernel_rfl) (by exact fun _ _ _ h => h) (Or.inl ⟨by rfl, ?_⟩) (by assumption) ?_
  rotate_left
  · (intro w hSw; (try dsimp only at hSw); first | (go_simp; done) | (go_simp; with_reducible rfl))
  try simp only [Act.put, List.setIfInBounds_toArray, List.set_cons_zero, List.set_cons_succ]
  refine wpAnyH_take (i := 5) (v := ?_) (by (simp only [List.getElem?_toArray, List.getElem?_cons_zero, List.getElem?_cons_succ]; exact rfl)) (by kernel_rfl) (by kernel_rfl) (by kernel_rfl) (by exact fun _ _ _ h => h) (Or.inl ⟨by rfl, ?_⟩) (by assumption) ?_
  rotate_left
  · (intro w hSw; (try dsimp only at hSw); first | (go_simp; done) | (go_simp; with_reducible rfl))
  try simp only [Act.put, List.setIfInBounds_toArray, List.set_cons_zero, List.set_cons_succ]
  refine wpAnyH_take (i := 6) (v := ?_) (by (simp only [List.getElem?_toArray, List.getElem?_cons_zero, List.getElem?_cons_succ]; exact rfl)) (by kernel_rfl) (by kernel_rfl) (by kernel_rfl) (by exact fun _ _ _ h => h) (Or.inl ⟨by rfl, ?_⟩) (by assumption) ?_
  rotate_left
  · (intro w hSw; (try dsimp only at hSw); first | (go_simp; done) | (go_simp; with_reducible rfl))
  try simp only [Act.put, List.setIfInBounds_toArray, List.set_cons_zero, List.set_cons_succ]
  refine wpAnyH_take (i := 7) (v := ?_) (by (simp only [List.getElem?_toArray, List.getElem?_cons_zero, List.getElem?_cons_succ]; exact rfl)) (by kernel_rfl) (by kernel_rfl) (by kernel_rfl) (by exact fun _ _ _ h => h) (Or.inl ⟨by rfl, ?_⟩) (by assumption) ?_
  rotate_left
  · (intro w hSw; (try dsimp only at hSw); first | (go_simp; done) | (go_simp; with_reducible rfl))
  try simp only [Act.put, List.setIfInBounds_toArray, List.set_cons_zero, List.set_cons_succ]
  refine wpAnyH_take (i := 8) (v := ?_) (by (simp only [List.getElem?_toArray, List.getElem?_cons_zero, List.getElem?_cons_succ]; exact rfl)) (by kernel_rfl) (by kernel_rfl) (by kernel_rfl) (by exact fun _ _ _ h => h) (Or.inl ⟨by rfl, ?_⟩) (by assumption) ?_
  rotate_left
  · (intro w hSw; (try dsimp only at hSw); first | (go_simp; done) | (go_simp; with_reducible rfl))
  try simp only [Act.put, List.setIfInBounds_toArray, List.set_cons_zero, List.set_cons_succ]
  refine wpAnyH_ready (rs := [2]) (by kernel_rfl) (by simp) ?_
  refine AllReadyH.cons (by (simp only [List.getElem?_toArray, List.getElem?_cons_zero, List.getElem?_cons_succ]; exact rfl)) (fun K hK => ?_) AllReadyH.nil
  go_simp
  refine hK.out _ _ (SC.out _ K3) (fun hHeld => ?_)
  clear hK K
  try simp only [Act.put, List.setIfInBounds_toArray, List.set_cons_zero, List.set_cons_succ]
  refine wpAnyH_ready (rs := [3]) (by kernel_rfl) (by simp) ?_
  refine AllReadyH.cons (by (simp only [List.getElem?_toArray, List.getElem?_cons_zero, List.getElem?_cons_succ]; exact rfl)) (fun K hK => ?_) AllReadyH.nil
  refine step_append_lies _ (by rfl) _ _ _ (by rfl) V.heap.size 33 iL (.agg #[.int .i64 0, .int .i64 0]) 2 16 Try.underlying22 hiL hz0 hz1 hz2 rfl (by decide) (.slice p2 n c2) n (cellsL l) (by rfl) O3.out ⟨w2.drew.heap.size, 0, none⟩ 1 1 [.int .i64 yt, .int .i64 yk] (by rfl) (by rfl) (World.news_of_block (heap_alloc_new w2.drew (.cells #[.int .i64 yt, .int .i64 yk] 33))) (twoL_one ⟨yt, yk⟩) (by decide) BM.out BY.out K3.size _ rfl ?_
  intro gg cap w4 o4 g4 m4 lt4
  have K4 : Below V.heap.size V w4 := K3.grown g4 K3.size (fun j hj => (World.ownsRow.lt O3.out j hj).1)
  have O4 : Hid (OwnL w4 V.heap.size (some ⟨gg, 0, none⟩) (n + 1) cap (l ++ [⟨yt, yk⟩])) := by unfold Hid OwnL; rw [cellsL_app]; exact o4
  clear o4 g4 m4 lt4
  refine hK.out _ _ (SC.out _ K4) (fun hHeld => ?_)
  clear hK K
  try simp only [Act.put, List.setIfInBounds_toArray, List.set_cons_zero, List.set_cons_succ]
  refine wpAnyH_ready (rs := [9]) (by kernel_rfl) (by simp) ?_
  refine AllReadyH.cons (by (simp only [List.getElem?_toArray, List.getElem?_cons_zero, List.getElem?_cons_succ]; exact rfl)) (fun K hK => ?_) AllReadyH.nil
  go_simp
  go_at_call 11; refine (RNW.out _ _ _ O4.out).mono ?_; rintro r5 w5 ⟨b5, hr5⟩
  have K5 : Below V.heap.size V w5 := K4.trans (b5.mono K4.size)
  have SZ := Lib.hid (Nat.le_trans V1.out (Nat.le_trans K4.size (Nat.le_refl w4.heap.size)))
  clear b5 K4 K3 K2
  rcases hr5 with ⟨okt, N5, p5, c5, rfl, q5, n5, ba5, aw5⟩ | ⟨x, nx, x0, rfl⟩
  · go_wp2_with fail
    refine hK.out _ _ (SC.out _ K5) (fun hHeld => ?_)
    clear hK K
    try simp only [Act.put, List.setIfInBounds_toArray, List.set_cons_zero, List.set_cons_succ]
    refine wpAnyH_take (i := 10) (v := ?_) (by (simp only [List.getElem?_toArray, List.getElem?_cons_zero, List.getElem?_cons_succ]; exact rfl)) (by kernel_rfl) (by kernel_rfl) (by kernel_rfl) (by exact fun _ _ _ h => h) (Or.inl ⟨by rfl, ?_⟩) (by assumption) ?_
    rotate_left
    · (intro w hSw; (try dsimp only at hSw); first | (go_simp; done) | (go_simp; with_reducible rfl))
    try simp only [Act.put, List.setIfInBounds_toArray, List.set_cons_zero, List.set_cons_succ]
    refine wpAnyH_take (i := 11) (v := ?_) (by (simp only [List.getElem?_toArray, List.getElem?_cons_zero, List.getElem?_cons_succ]; exact rfl)) (by kernel_rfl) (by kernel_rfl) (by kernel_rfl) (by exact fun _ _ _ h => h) (Or.inl ⟨by rfl, ?_⟩) (by assumption) ?_
    rotate_left
    · (intro w hSw; (try dsimp only at hSw); first | (go_simp; done) | (go_simp; with_reducible rfl))
    try simp only [Act.put, List.setIfInBounds_toArray, List.set_cons_zero, List.set_cons_succ]
    refine wpAnyH_take (i := 12) (v := ?_) (by (simp only [List.getElem?_toArray, List.getElem?_cons_zero, List.getElem?_cons_succ]; exact rfl)) (by kernel_rfl) (by kernel_rfl) (by kernel_rfl) (by exact fun _ _ _ h => h) (Or.inl ⟨by rfl, ?_⟩) (by assumption) ?_
    rotate_left
    · (intro w hSw; (try dsimp only at hSw); first | (go_simp; done) | (go_simp; with_reducible rfl))
    try simp only [Act.put, List.setIfInBounds_toArray, List.set_cons_zero, List.set_cons_succ]
    refine wpAnyH_take (i := 13) (v := ?_) (by (simp only [List.getElem?_toArray, List.getElem?_cons_zero, List.getElem?_cons_succ]; exact rfl)) (by kernel_rfl) (by kernel_rfl) (by kernel_rfl) (by exact fun _ _ _ h => h) (Or.inl ⟨by rfl, ?_⟩) (by assumption) ?_
    rotate_left
    · (intro w hSw; (try dsimp only at hSw); first | (go_simp; done) | (go_simp; with_reducible rfl))
    try simp only [Act.put, List.setIfInBounds_toArray, List.set_cons_zero, List.set_cons_succ]
    refine wpAnyH_take (i := 14) (v := ?_) (by (simp only [List.getElem?_toArray, List.getElem?_cons_zero, List.getElem?_cons_succ]; exact rfl)) (by kernel_rfl) (by kernel_rfl) (by kernel_rfl) (by exact fun _ _ _ h => h) (Or.inl ⟨by rfl, ?_⟩) (by assumption) ?_
    rotate_left
    · (intro w hSw; (try dsimp only at hSw); first | (go_simp; done) | (go_simp; with_reducible rfl))
    try simp only [Act.put, List.setIfInBounds_toArray, List.set_cons_zero, List.set_cons_succ]
    refine wpAnyH_done (by kernel_rfl) ?_ _
    have NP : N5 ≠ N := by have := NL.out; have := SZ.out; omega
    have bl := BK.out _ K5
    have x00 := blk_cell (o := 0) bl
    have x1 := blk_cell (o := 1) bl
    have y0 := blk_cell (o := 0) q5.bk
    simp only [List.getElem?_toArray, List.getElem?_cons_zero, List.getElem?_cons_succ] at x00 x1 y0
    have f0 := blk_free (o := 0) bl
    have f1 := blk_free (o := 1) bl
    by_cases g : e' < e
    · have g1 : decide (e' < e) = true := decide_eq_true g
      have F : Hid (RfAdd w N p l e b ⟨yt, yk⟩ e' (.returned (.int .i64 1)) w5) := SAME.out w5 1 K5 ⟨0, .inr ⟨okt.2.1, .inr ⟨rfl, okt⟩⟩, .inr ⟨rfl, .inl ⟨g, rfl⟩⟩⟩ (by decide)
      clear g okt q5 ba5 aw5 bl n5 SAME
      go_wp2
      go_ret
      exact F.out
    · have g1 : decide (e' < e) = false := decide_eq_false g
      have ln5 : (l ++ [(⟨yt, yk⟩ : Lp)]).length = n + 1 := by rw [List.length_append, LN.out]; rfl
      rw [ln5] at y0 q5
      have F : Hid (RfAdd w N p l e b ⟨yt, yk⟩ e' (.returned (.int .i64 0)) ((w5.setCell ⟨N, 0, none⟩ (.slice p5 (n + 1) c5)).setCell ⟨N, 1, none⟩ (.int .i64 e'))) := by
        have T5 : Turn N w w5 := Turn.of_below (L0.out.trans (K5.mono L0.out.size))
        have T6 := (T5.set (o := 0) (.slice p5 (n + 1) c5)).set (o := 1) (.int .i64 e')
        have T56 : Turn N w5 ((w5.setCell ⟨N, 0, none⟩ (.slice p5 (n + 1) c5)).setCell ⟨N, 1, none⟩ (.int .i64 e')) := ((Turn.of_below (Below.refl _ _)).set (o := 0) _).set (o := 1) _
        have b1 : (w5.setCell ⟨N, 0, none⟩ (.slice p5 (n + 1) c5)).heap[N]? = some (.cells #[.slice p5 (n + 1) c5, .int .i64 e, .int .i64 b] 37 (0, 0)) := blk_set bl
        have b2 : ((w5.setCell ⟨N, 0, none⟩ (.slice p5 (n + 1) c5)).setCell ⟨N, 1, none⟩ (.int .i64 e')).heap[N]? = some (.cells #[.slice p5 (n + 1) c5, .int .i64 e', .int .i64 b] 37 (0, 0)) := blk_set b1
        have aw : ∀ a, p5 = some a → a.block ≠ N := fun a ha => by have := (aw5 a ha).1; have := NL.out; have := SZ.out; omega
        refine ⟨T6, 0, p5, c5, rfl, ⟨0, .inr ⟨okt.2.1, .inr ⟨rfl, okt⟩⟩, .inr ⟨rfl, .inr ⟨by omega, rfl⟩⟩⟩, fun a ha => .inr (Nat.le_trans SZ.out (aw5 a ha).1), ?_⟩
        rw [if_pos rfl, if_pos rfl, ln5]
        exact ⟨⟨b2, q5.row.turn aw T56, q5.ok, q5.few, q5.bb⟩, ba5, aw⟩
      clear g okt q5 ba5 aw5 bl n5 SAME
      go_wp2
      go_ret
      exact F.out
  · go_wp2_with fail
    refine hK.out _ _ (SC.out _ K5) (fun hHeld => ?_)
    clear hK K
    try simp only [Act.put, List.setIfInBounds_toArray, List.set_cons_zero, List.set_cons_succ]
    refine wpAnyH_take (i := 10) (v := ?_) (by (simp only [List.getElem?_toArray, List.getElem?_cons_zero, List.getElem?_cons_succ]; exact rfl)) (by kernel_rfl) (by kernel_rfl) (by kernel_rfl) (by exact fun _ _ _ h => h) (Or.inl ⟨by rfl, ?_⟩) (by assumption) ?_
    rotate_left
    · (intro w hSw; (try dsimp only at hSw); first | (go_simp; done) | (go_simp; with_reducible rfl))
    try simp only [Act.put, List.setIfInBounds_toArray, List.set_cons_zero, List.set_cons_succ]
    refine wpAnyH_take (i := 11) (v := ?_) (by (simp only [List.getElem?_toArray, List.getElem?_cons_zero, List.getElem?_cons_succ]; exact rfl)) (by kernel_rfl) (by kernel_rfl) (by kernel_rfl) (by exact fun _ _ _ h => h) (Or.inl ⟨by rfl, ?_⟩) (by assumption) ?_
    rotate_left
    · (intro w hSw; (try dsimp only at hSw); first | (go_simp; done) | (go_simp; with_reducible rfl))
    try simp only [Act.put, List.setIfInBounds_toArray, List.set_cons_zero, List.set_cons_succ]
    refine wpAnyH_take (i := 12) (v := ?_) (by (simp only [List.getElem?_toArray, List.getElem?_cons_zero, List.getElem?_cons_succ]; exact rfl)) (by kernel_rfl) (by kernel_rfl) (by kernel_rfl) (by exact fun _ _ _ h => h) (Or.inl ⟨by rfl, ?_⟩) (by assumption) ?_
    rotate_left
    · (intro w hSw; (try dsimp only at hSw); first | (go_simp; done) | (go_simp; with_reducible rfl))
    try simp only [Act.put, List.setIfInBounds_toArray, List.set_cons_zero, List.set_cons_succ]
    refine wpAnyH_take (i := 13) (v := ?_) (by (simp only [List.getElem?_toArray, List.getElem?_cons_zero, List.getElem?_cons_succ]; exact rfl)) (by kernel_rfl) (by kernel_rfl) (by kernel_rfl) (by exact fun _ _ _ h => h) (Or.inl ⟨by rfl, ?_⟩) (by assumption) ?_
    rotate_left
    · (intro w hSw; (try dsimp only at hSw); first | (go_simp; done) | (go_simp; with_reducible rfl))
    try simp only [Act.put, List.setIfInBounds_toArray, List.set_cons_zero, List.set_cons_succ]
    refine wpAnyH_take (i := 14) (v := ?_) (by (simp only [List.getElem?_toArray, List.getElem?_cons_zero, List.getElem?_cons_succ]; exact rfl)) (by kernel_rfl) (by kernel_rfl) (by kernel_rfl) (by exact fun _ _ _ h => h) (Or.inl ⟨by rfl, ?_⟩) (by assumption) ?_
    rotate_left
    · (intro w hSw; (try dsimp only at hSw); first | (go_simp; done) | (go_simp; with_reducible rfl))
    try simp only [Act.put, List.setIfInBounds_toArray, List.set_cons_zero, List.set_cons_succ]
    refine wpAnyH_done (by kernel_rfl) ?_ _
    have F : Hid (RfAdd w N p l e b ⟨yt, yk⟩ e' (.returned (.int .i64 x)) w5) := SAME.out w5 x K5 ⟨x, nx, .inl ⟨x0, rfl⟩⟩ x0
    have x1 : (x != 0) = true := by rw [bne_iff_ne]; exact x0
    clear nx x0 SAME
    go_wp2
    go_ret
    exact F.out
end Go.Proofs.Ytpfbdpoileepoaa
