/- Layer 16 (leap), the program's: Add. -/
import Derived.Test.YtpfbdpoileepoaaLpY
import Derived.Test.YtpfbdpoileepoaaLpG
set_option maxRecDepth 100000
namespace Go.Proofs.Ytpfbdpoileepoaa
open Go.ChangeShapes Go.WideShapes Go.ChangeAt Go.RowKit SmM

/-- What Add makes of a table: its own block alone turns. -/
def AddP (w : World) (N : Nat) (p : Option Addr) (l : List Lp) (e b : Int) (y : Lp) (e' : Int) (r : Ending) (w' : World) : Prop := Turn N w w' ∧ ∃ x p' c', r = .returned (.int .i64 x) ∧ AddT l e b y e' x ∧ (∀ a, p' = some a → p = some a ∨ w.heap.size ≤ a.block) ∧ PLp w' N p' c' (if x = 0 then l ++ [y] else l) (if x = 0 then e' else e) b
theorem add_same {w w5 : World} {N : Nat} {p : Option Addr} {c : Nat} {l : List Lp} {e b e' x : Int} {y : Lp} (h : PLp w N p c l e b) (k : Below w.heap.size w w5) (a : AddT l e b y e' x) (x0 : x ≠ 0) : AddP w N p l e b y e' (.returned (.int .i64 x)) w5 := by
  refine ⟨Turn.of_below k, x, p, c, rfl, a, fun a h => .inl h, ?_⟩
  rw [if_neg x0, if_neg x0]
  exact h.below k
theorem add_done {w w7 : World} {N N5 : Nat} {p p5 : Option Addr} {c c5 : Nat} {l : List Lp} {e b e' : Int} {y : Lp} (h : PLp w N p c l e b) (k : Below w.heap.size w w7) (t5 : PLp w7 N5 p5 c5 (l ++ [y]) e' b) (f5 : ∀ M, SF N5 p5 M → w.heap.size ≤ M) (g : e ≤ e') (okt : OkT (l ++ [y]) e' b) {m : Nat} (hm : (l ++ [y]).length = m) :
    AddP w N p l e b y e' (.returned (.int .i64 0)) ((((w7.setCell ⟨N, 0, none⟩ (.bool true)).setCell ⟨N, 1, none⟩ (.slice p5 m c5)).setCell ⟨N, 2, none⟩ (.int .i64 e')).setCell ⟨N, 3, none⟩ (.int .i64 b)) := by
  subst hm
  have nl : N < w.heap.size := (Array.getElem?_eq_some_iff.1 h.bk).1
  have T7 : Turn N w w7 := Turn.of_below k
  have U : Turn N w7 ((((w7.setCell ⟨N, 0, none⟩ (.bool true)).setCell ⟨N, 1, none⟩ (.slice p5 (l ++ [y]).length c5)).setCell ⟨N, 2, none⟩ (.int .i64 e')).setCell ⟨N, 3, none⟩ (.int .i64 b)) := ((((Turn.of_below (Below.refl _ _)).set (o := 0) _).set (o := 1) _).set (o := 2) _).set (o := 3) _
  refine ⟨(((T7.set (o := 0) _).set (o := 1) _).set (o := 2) _).set (o := 3) _, 0, p5, c5, rfl, ⟨0, .inr ⟨okt.2.1, .inr ⟨rfl, okt⟩⟩, .inr ⟨rfl, .inr ⟨g, rfl⟩⟩⟩, fun a ha => .inr (f5 a.block (.inr ⟨a, ha, rfl⟩)), ?_⟩
  rw [if_pos rfl, if_pos rfl]
  refine ⟨blk_tb ((h.below k).bk) _ _ _ _, own_same t5.ow fun g hg => ?_, okt⟩
  have lt := (World.ownsRow.lt t5.ow g hg).2
  have fa : w.heap.size ≤ g := by
    cases p5 with
    | none => cases hg
    | some a =>
      injection hg with hg
      subst hg
      exact f5 _ (.inr ⟨a, rfl, rfl⟩)
  exact U.keep g (by omega) lt
set_option maxHeartbeats 8000000 in
theorem padded16 {w : World} {N : Nat} {p : Option Addr} {c : Nat} {l : List Lp} {e b : Int} (h : PLp w N p c l e b) (y : Lp) (iy : I64 y.t ∧ I64 y.k) (e' : Int) :
    Calls Try.prog 16 #[.pointer (some ⟨N, 0, none⟩), .agg #[.int .i64 y.t, .int .i64 y.k], .int .i64 e'] w (AddP w N p l e b y e') := by
  have HP := Lib.hid h
  have IY := Lib.hid iy
  have AN : Hid (∀ x w5, Below w.heap.size w w5 → AddT l e b y e' x → x ≠ 0 → AddP w N p l e b y e' (.returned (.int .i64 x)) w5) := fun x w5 k a x0 => add_same h k a x0
  have AD : Hid (∀ w7 N5 p5 c5 m, Below w.heap.size w w7 → PLp w7 N5 p5 c5 (l ++ [y]) e' b → (∀ M, SF N5 p5 M → w.heap.size ≤ M) → e ≤ e' → OkT (l ++ [y]) e' b → (l ++ [y]).length = m → AddP w N p l e b y e' (.returned (.int .i64 0)) ((((w7.setCell ⟨N, 0, none⟩ (.bool true)).setCell ⟨N, 1, none⟩ (.slice p5 m c5)).setCell ⟨N, 2, none⟩ (.int .i64 e')).setCell ⟨N, 3, none⟩ (.int .i64 b))) :=
    fun w7 N5 p5 c5 m k t5 f5 g o hm => add_done h k t5 f5 g o hm
  have RN : Hid (∀ w4 q m d, HoldsL w4 q m d (l ++ [y]) → Calls Try.prog 10 #[.slice q m d, .int .i64 e', .int .i64 b] w4 (NewTP w4 (l ++ [y]) e' b)) := fun w4 q m d o =>
    pnew16 w4 q m d _ o (fun z hz => by
      rcases List.mem_append.1 hz with hz | hz
      · have := h.ok.1.1 z hz
        unfold dayI topI at this
        unfold I64
        omega
      · obtain rfl := List.mem_singleton.1 hz
        exact iy) e' b
  obtain ⟨yt, yk⟩ := y
  dsimp only at IY ⊢
  obtain ⟨n, hn⟩ : ∃ n, l.length = n := ⟨_, rfl⟩
  have LN := Lib.hid hn
  have NF : Hid (n ≤ 32) := by have := h.ok.2.1; unfold Hid; omega
  obtain ⟨V, hV⟩ : ∃ V, w.alloc (.cells #[.int .i64 yt, .int .i64 yk] 33) = V := ⟨_, rfl⟩
  have B0 : Below w.heap.size w V := by rw [← hV]; exact (Below.refl _ _).alloc (Nat.le_refl _) _
  have Y0 : V.heap[w.heap.size]? = some (.cells #[.int .i64 yt, .int .i64 yk] 33 (0, 0)) := by rw [← hV]; exact heap_alloc_new _ _
  have ylt := (Array.getElem?_eq_some_iff.1 Y0).1
  have L0 := Lib.hid B0
  have YC : Hid (∀ w', Below V.heap.size V w' → w'.cell? ⟨w.heap.size, 0, none⟩ = some (.int .i64 yt) ∧ w'.cell? ⟨w.heap.size, 1, none⟩ = some (.int .i64 yk)) := fun w' k =>
    ⟨blk_cell ((k.block _ ylt).trans Y0), blk_cell ((k.block _ ylt).trans Y0)⟩
  have HE := Lib.hid (h.has.held V B0)
  rw [hn] at HE
  have HLP : Hid (HoldsL w p n c l) := by have := h.has.row; rw [hn] at this; exact this
  obtain ⟨iL, hiL, hz0, hz1, hz2⟩ := infoLp_of infoLp
  have BM : Hid (n + 1 ≤ maxLen) := by have := NF.out; unfold Hid maxLen; omega
  have BY : Hid ((n + 1) * 16 ≤ 140737488355328) := by have := NF.out; unfold Hid; omega
  clear h iy hn B0 Y0 ylt
  go_enter Try.func16, Try.ntmps16
  go_wp2_with fail
  clear hV
  refine HE.out.mono ?_; rintro e1 w3 ⟨rfl, b3⟩
  have k4 := b3.alloc b3.size (.cells #[.bool true, .slice p n c, .int .i64 e, .int .i64 b] 67)
  have Y4 := heap_alloc_new w3 (.cells #[.bool true, .slice p n c, .int .i64 e, .int .i64 b] 67)
  obtain ⟨W4, hW4⟩ : ∃ W4, w3.alloc (.cells #[.bool true, .slice p n c, .int .i64 e, .int .i64 b] 67) = W4 := ⟨_, rfl⟩
  rw [hW4] at k4 Y4
  have tlt := (Array.getElem?_eq_some_iff.1 Y4).1
  have K4 := Lib.hid k4
  have L4 := Lib.hid (L0.out.trans (k4.mono L0.out.size))
  have SC : Hid (∀ w', Below W4.heap.size W4 w' → w'.cell? ⟨w.heap.size, 0, none⟩ = some (.int .i64 yt) ∧ w'.cell? ⟨w.heap.size, 1, none⟩ = some (.int .i64 yk) ∧ w'.cell? ⟨w3.heap.size, 1, none⟩ = some (.slice p n c) ∧ w'.cell? ⟨w3.heap.size, 3, none⟩ = some (.int .i64 b)) := fun w' k =>
    ⟨(YC.out w' (K4.out.trans (k.mono K4.out.size))).1, (YC.out w' (K4.out.trans (k.mono K4.out.size))).2, blk_cell ((k.block _ tlt).trans Y4), blk_cell ((k.block _ tlt).trans Y4)⟩
  have EC : Hid (∀ w', Below W4.heap.size W4 w' → w'.cell? ⟨w3.heap.size, 2, none⟩ = some (.int .i64 e)) := fun w' k => blk_cell ((k.block _ tlt).trans Y4)
  have y0 := blk_cell (o := 0) Y4
  simp only [List.getElem?_toArray, List.getElem?_cons_zero] at y0
  have CL : Hid (∀ w', Below W4.heap.size W4 w' → Calls Try.prog 31 #[.slice p n c] w' fun r w'' => ∃ q d, r = .returned (.slice q n d) ∧ OwnL w'' w'.heap.size q n d l ∧ Below w'.heap.size w' w'') := fun w' k =>
    pclone15 w' p n c l (HLP.out.below (L4.out.trans (k.mono L4.out.size))) (by have := NF.out; omega)
  have K0 : Below W4.heap.size W4 W4.drew := (Below.refl _ _).drew
  clear HE b3 k4 Y4 tlt K4 YC HLP
  go_wp2_with fail
  clear hW4 y0
  refine wp_region_held_drew (S := fun w' => w'.cell? ⟨w.heap.size, 0, none⟩ = some (.int .i64 yt) ∧ w'.cell? ⟨w.heap.size, 1, none⟩ = some (.int .i64 yk) ∧ w'.cell? ⟨w3.heap.size, 1, none⟩ = some (.slice p n c) ∧ w'.cell? ⟨w3.heap.size, 3, none⟩ = some (.int .i64 b)) (by kernel_rfl) (SC.out _ K0) (fun hHeld => ?_)
  refine wpAnyH_take (i := 0) (v := ?_) (by (simp only [List.getElem?_toArray, List.getElem?_cons_zero]; exact rfl)) (by kernel_rfl) (by kernel_rfl) (by kernel_rfl) (by exact fun _ _ _ h => h) (Or.inl ⟨by rfl, ?_⟩) (by assumption) ?_
  rotate_left
  · (intro w hSw; (try dsimp only at hSw); first | (go_simp; done) | (go_simp; with_reducible rfl))
  try simp only [Act.put, List.setIfInBounds_toArray, List.set_cons_zero, List.set_cons_succ]
  refine wpAnyH_take (i := 1) (v := ?_) (by (simp only [List.getElem?_toArray, List.getElem?_cons_zero, List.getElem?_cons_succ]; exact rfl)) (by kernel_rfl) (by kernel_rfl) (by kernel_rfl) (by exact fun _ _ _ h => h) (Or.inl ⟨by rfl, ?_⟩) (by assumption) ?_
  rotate_left
  · (intro w hSw; (try dsimp only at hSw); first | (go_simp; done) | (go_simp; with_reducible rfl))
  try simp only [Act.put, List.setIfInBounds_toArray, List.set_cons_zero, List.set_cons_succ]
  refine wpAnyH_take (i := 3) (v := ?_) (by (simp only [List.getElem?_toArray, List.getElem?_cons_zero, List.getElem?_cons_succ]; exact rfl)) (by kernel_rfl) (by kernel_rfl) (by kernel_rfl) (by exact fun _ _ _ h => h) (Or.inl ⟨by rfl, ?_⟩) (by assumption) ?_
  rotate_left
  · (intro w hSw; (try dsimp only at hSw); first | (go_simp; done) | (go_simp; with_reducible rfl))
  try simp only [Act.put, List.setIfInBounds_toArray, List.set_cons_zero, List.set_cons_succ]
  refine wpAnyH_take (i := 6) (v := ?_) (by (simp only [List.getElem?_toArray, List.getElem?_cons_zero, List.getElem?_cons_succ]; exact rfl)) (by kernel_rfl) (by kernel_rfl) (by kernel_rfl) (by exact fun _ _ _ h => h) (Or.inl ⟨by rfl, ?_⟩) (by assumption) ?_
  rotate_left
  · (intro w hSw; (try dsimp only at hSw); first | (go_simp; done) | (go_simp; with_reducible rfl))
  try simp only [Act.put, List.setIfInBounds_toArray, List.set_cons_zero, List.set_cons_succ]
  refine wpAnyH_take (i := 7) (v := ?_) (by (simp only [List.getElem?_toArray, List.getElem?_cons_zero, List.getElem?_cons_succ]; exact rfl)) (by kernel_rfl) (by kernel_rfl) (by kernel_rfl) (by exact fun _ _ _ h => h) (Or.inl ⟨by rfl, ?_⟩) (by assumption) ?_
  rotate_left
  · (intro w hSw; (try dsimp only at hSw); first | (go_simp; done) | (go_simp; with_reducible rfl))
  try simp only [Act.put, List.setIfInBounds_toArray, List.set_cons_zero, List.set_cons_succ]
  refine wpAnyH_take (i := 8) (v := ?_) (by (simp only [List.getElem?_toArray, List.getElem?_cons_zero, List.getElem?_cons_succ]; exact rfl)) (by kernel_rfl) (by kernel_rfl) (by kernel_rfl) (by exact fun _ _ _ h => h) (Or.inl ⟨by rfl, ?_⟩) (by assumption) ?_
  rotate_left
  · (intro w hSw; (try dsimp only at hSw); first | (go_simp; done) | (go_simp; with_reducible rfl))
  try simp only [Act.put, List.setIfInBounds_toArray, List.set_cons_zero, List.set_cons_succ]
  refine wpAnyH_ready (rs := [2, 4]) (by kernel_rfl) (by simp) ?_
  refine AllReadyH.cons (by (simp only [List.getElem?_toArray, List.getElem?_cons_zero, List.getElem?_cons_succ]; exact rfl)) (fun K hK => ?_) (AllReadyH.cons (by (simp only [List.getElem?_toArray, List.getElem?_cons_zero, List.getElem?_cons_succ]; exact rfl)) (fun K hK => ?_) AllReadyH.nil)
  · go_simp
    go_at_call 31; refine (CL.out _ K0).mono ?_; rintro r5 w5 ⟨q5, d5, rfl, o5, b5⟩
    have K5 : Below W4.heap.size W4 w5 := K0.trans (b5.mono K0.size)
    go_wp2_with fail
    refine hK.out _ _ (SC.out _ K5) (fun hHeld => ?_)
    clear hK K
    try simp only [Act.put, List.setIfInBounds_toArray, List.set_cons_zero, List.set_cons_succ]
    have K6 : Below W4.heap.size W4 (w5.alloc (.cells #[.int .i64 yt, .int .i64 yk] 33)) := K5.alloc K5.size _
    refine wpAnyH_ready (rs := [4]) (by kernel_rfl) (by simp) ?_
    refine AllReadyH.cons (by (simp only [List.getElem?_toArray, List.getElem?_cons_zero, List.getElem?_cons_succ]; exact rfl)) (fun K hK => ?_) AllReadyH.nil
    go_simp
    refine hK.out _ _ (SC.out _ K6) (fun hHeld => ?_)
    clear hK K
    try simp only [Act.put, List.setIfInBounds_toArray, List.set_cons_zero, List.set_cons_succ]
    have Y6 : Hid ((w5.alloc (.cells #[.int .i64 yt, .int .i64 yk] 33)).heap[w5.heap.size]? = some (.cells #[.int .i64 yt, .int .i64 yk] 33 (0, 0))) := heap_alloc_new _ _
    have O6 : Hid ((w5.alloc (.cells #[.int .i64 yt, .int .i64 yk] 33)).ownsRow W4.heap.size 33 2 (.slice q5 n d5) n (cellsL l)) := own_keep (own_base o5 K0.size) ((Below.refl w5.heap.size w5).alloc (Nat.le_refl _) _)
    clear o5 b5 K5 K0
    refine wpAnyH_ready (rs := [5]) (by kernel_rfl) (by simp) ?_
    refine AllReadyH.cons (by (simp only [List.getElem?_toArray, List.getElem?_cons_zero, List.getElem?_cons_succ]; exact rfl)) (fun K hK => ?_) AllReadyH.nil
    refine step_append_lies _ (by rfl) _ _ _ (by rfl) W4.heap.size 33 iL (.agg #[.int .i64 0, .int .i64 0]) 2 16 Try.underlying22 hiL hz0 hz1 hz2 rfl (by decide) (.slice q5 n d5) n (cellsL l) (by rfl) O6.out ⟨w5.heap.size, 0, none⟩ 1 1 [.int .i64 yt, .int .i64 yk] (by rfl) (by rfl) (World.news_of_block Y6.out) (twoL_one ⟨yt, yk⟩) (by decide) BM.out BY.out K6.size _ rfl ?_
    intro gg cap w7 o7 g7 m7 lt7
    have K7 : Below W4.heap.size W4 w7 := K6.grown g7 K6.size (fun j hj => (World.ownsRow.lt O6.out j hj).1)
    have O7 : Hid (OwnL w7 W4.heap.size (some ⟨gg, 0, none⟩) (n + 1) cap (l ++ [⟨yt, yk⟩])) := by unfold Hid OwnL; rw [cellsL_app]; exact o7
    clear o7 g7 m7 lt7 O6 Y6 K6
    refine hK.out _ _ (SC.out _ K7) (fun hHeld => ?_)
    clear hK K
    try simp only [Act.put, List.setIfInBounds_toArray, List.set_cons_zero, List.set_cons_succ]
    refine wpAnyH_ready (rs := [9]) (by kernel_rfl) (by simp) ?_
    refine AllReadyH.cons (by (simp only [List.getElem?_toArray, List.getElem?_cons_zero, List.getElem?_cons_succ]; exact rfl)) (fun K hK => ?_) AllReadyH.nil
    go_simp
    go_at_call 10; refine (RN.out _ _ _ _ O7.out.holds).mono ?_; rintro r8 w8 ⟨b8, hr8⟩
    have K8 : Below W4.heap.size W4 w8 := K7.trans (b8.mono K7.size)
    have SZ := Lib.hid (Nat.le_trans L4.out.size K7.size)
    have L8 := Lib.hid (L4.out.trans (K8.mono L4.out.size))
    clear b8 K7 O7 RN
    rcases hr8 with ⟨okt, N8, p8, c8, rfl, t8, f8⟩ | ⟨x, nx, x0, rfl⟩
    · go_wp2_with fail
      refine hK.out _ _ (SC.out _ K8) (fun hHeld => ?_)
      clear hK K
      try simp only [Act.put, List.setIfInBounds_toArray, List.set_cons_zero, List.set_cons_succ]
      refine wpAnyH_take (i := 10) (v := ?_) (by (simp only [List.getElem?_toArray, List.getElem?_cons_zero, List.getElem?_cons_succ]; exact rfl)) (by kernel_rfl) (by kernel_rfl) (by kernel_rfl) (by exact fun _ _ _ h => h) (Or.inl ⟨by rfl, ?_⟩) (by assumption) ?_
      rotate_left
      · (intro w hSw; (try dsimp only at hSw); first | (go_simp; done) | (go_simp; with_reducible rfl))
      try simp only [Act.put, List.setIfInBounds_toArray, List.set_cons_zero, List.set_cons_succ]
      refine wpAnyH_take (i := 11) (v := ?_) (by (simp only [List.getElem?_toArray, List.getElem?_cons_zero, List.getElem?_cons_succ]; exact rfl)) (by kernel_rfl) (by kernel_rfl) (by kernel_rfl) (by exact fun _ _ _ h => h) (Or.inl ⟨by rfl, ?_⟩) (by assumption) ?_
      rotate_left
      · (intro w hSw; (try dsimp only at hSw); first | (go_simp; done) | (go_simp; with_reducible rfl))
      try simp only [Act.put, List.setIfInBounds_toArray, List.set_cons_zero, List.set_cons_succ]
      refine wpAnyH_take (i := 12) (v := ?_) (by (simp only [List.getElem?_toArray, List.getElem?_cons_zero, List.getElem?_cons_succ]; exact rfl)) (by kernel_rfl) (by kernel_rfl) (by kernel_rfl) (by exact fun _ _ _ h => h) (Or.inl ⟨by rfl, ?_⟩) (by assumption) ?_
      rotate_left
      · (intro w hSw; (try dsimp only at hSw); first | (go_simp; done) | (go_simp; with_reducible rfl))
      try simp only [Act.put, List.setIfInBounds_toArray, List.set_cons_zero, List.set_cons_succ]
      refine wpAnyH_take (i := 13) (v := ?_) (by (simp only [List.getElem?_toArray, List.getElem?_cons_zero, List.getElem?_cons_succ]; exact rfl)) (by kernel_rfl) (by kernel_rfl) (by kernel_rfl) (by exact fun _ _ _ h => h) (Or.inl ⟨by rfl, ?_⟩) (by assumption) ?_
      rotate_left
      · (intro w hSw; (try dsimp only at hSw); first | (go_simp; done) | (go_simp; with_reducible rfl))
      try simp only [Act.put, List.setIfInBounds_toArray, List.set_cons_zero, List.set_cons_succ]
      refine wpAnyH_take (i := 14) (v := ?_) (by (simp only [List.getElem?_toArray, List.getElem?_cons_zero, List.getElem?_cons_succ]; exact rfl)) (by kernel_rfl) (by kernel_rfl) (by kernel_rfl) (by exact fun _ _ _ h => h) (Or.inl ⟨by rfl, ?_⟩) (by assumption) ?_
      rotate_left
      · (intro w hSw; (try dsimp only at hSw); first | (go_simp; done) | (go_simp; with_reducible rfl))
      try simp only [Act.put, List.setIfInBounds_toArray, List.set_cons_zero, List.set_cons_succ]
      refine wpAnyH_done (by kernel_rfl) ?_ _
      have e2 := EC.out _ K8
      by_cases g : e' < e
      · have g1 : decide (e' < e) = true := decide_eq_true g
        have F := Lib.hid (AN.out 1 w8 L8.out ⟨0, .inr ⟨okt.2.1, .inr ⟨rfl, okt⟩⟩, .inr ⟨rfl, .inl ⟨g, rfl⟩⟩⟩ (by decide))
        clear g okt t8 f8 AN AD
        go_wp2
        go_ret
        exact F.out
      · have g1 : decide (e' < e) = false := decide_eq_false g
        have ln8 : (l ++ [(⟨yt, yk⟩ : Lp)]).length = n + 1 := by rw [List.length_append, LN.out]; rfl
        have F := Lib.hid (AD.out w8 N8 p8 c8 (n + 1) L8.out t8 (fun M hM => Nat.le_trans SZ.out (f8 M hM)) (by omega) okt ln8)
        have bl := (HP.out.below L8.out).bk
        have b8 := t8.bk
        rw [ln8] at b8
        have x0 := blk_cell (o := 0) bl
        have x1 := blk_cell (o := 1) bl
        have x2 := blk_cell (o := 2) bl
        have x3 := blk_cell (o := 3) bl
        have h0 := blk_free (o := 0) bl
        have h1 := blk_free (o := 1) bl
        have h2 := blk_free (o := 2) bl
        have h3 := blk_free (o := 3) bl
        have z0 := blk_cell (o := 0) b8
        have z1 := blk_cell (o := 1) b8
        have z2 := blk_cell (o := 2) b8
        have z3 := blk_cell (o := 3) b8
        simp only [List.getElem?_toArray, List.getElem?_cons_zero, List.getElem?_cons_succ] at x0 x1 x2 x3 z0 z1 z2 z3
        generalize l.length = n9 at *
        clear g okt t8 f8 bl b8 AN AD ln8
        go_wp2
        go_ret
        exact F.out
    · go_wp2_with fail
      refine hK.out _ _ (SC.out _ K8) (fun hHeld => ?_)
      clear hK K
      try simp only [Act.put, List.setIfInBounds_toArray, List.set_cons_zero, List.set_cons_succ]
      refine wpAnyH_take (i := 10) (v := ?_) (by (simp only [List.getElem?_toArray, List.getElem?_cons_zero, List.getElem?_cons_succ]; exact rfl)) (by kernel_rfl) (by kernel_rfl) (by kernel_rfl) (by exact fun _ _ _ h => h) (Or.inl ⟨by rfl, ?_⟩) (by assumption) ?_
      rotate_left
      · (intro w hSw; (try dsimp only at hSw); first | (go_simp; done) | (go_simp; with_reducible rfl))
      try simp only [Act.put, List.setIfInBounds_toArray, List.set_cons_zero, List.set_cons_succ]
      refine wpAnyH_take (i := 11) (v := ?_) (by (simp only [List.getElem?_toArray, List.getElem?_cons_zero, List.getElem?_cons_succ]; exact rfl)) (by kernel_rfl) (by kernel_rfl) (by kernel_rfl) (by exact fun _ _ _ h => h) (Or.inl ⟨by rfl, ?_⟩) (by assumption) ?_
      rotate_left
      · (intro w hSw; (try dsimp only at hSw); first | (go_simp; done) | (go_simp; with_reducible rfl))
      try simp only [Act.put, List.setIfInBounds_toArray, List.set_cons_zero, List.set_cons_succ]
      refine wpAnyH_take (i := 12) (v := ?_) (by (simp only [List.getElem?_toArray, List.getElem?_cons_zero, List.getElem?_cons_succ]; exact rfl)) (by kernel_rfl) (by kernel_rfl) (by kernel_rfl) (by exact fun _ _ _ h => h) (Or.inl ⟨by rfl, ?_⟩) (by assumption) ?_
      rotate_left
      · (intro w hSw; (try dsimp only at hSw); first | (go_simp; done) | (go_simp; with_reducible rfl))
      try simp only [Act.put, List.setIfInBounds_toArray, List.set_cons_zero, List.set_cons_succ]
      refine wpAnyH_take (i := 13) (v := ?_) (by (simp only [List.getElem?_toArray, List.getElem?_cons_zero, List.getElem?_cons_succ]; exact rfl)) (by kernel_rfl) (by kernel_rfl) (by kernel_rfl) (by exact fun _ _ _ h => h) (Or.inl ⟨by rfl, ?_⟩) (by assumption) ?_
      rotate_left
      · (intro w hSw; (try dsimp only at hSw); first | (go_simp; done) | (go_simp; with_reducible rfl))
      try simp only [Act.put, List.setIfInBounds_toArray, List.set_cons_zero, List.set_cons_succ]
      refine wpAnyH_take (i := 14) (v := ?_) (by (simp only [List.getElem?_toArray, List.getElem?_cons_zero, List.getElem?_cons_succ]; exact rfl)) (by kernel_rfl) (by kernel_rfl) (by kernel_rfl) (by exact fun _ _ _ h => h) (Or.inl ⟨by rfl, ?_⟩) (by assumption) ?_
      rotate_left
      · (intro w hSw; (try dsimp only at hSw); first | (go_simp; done) | (go_simp; with_reducible rfl))
      try simp only [Act.put, List.setIfInBounds_toArray, List.set_cons_zero, List.set_cons_succ]
      refine wpAnyH_done (by kernel_rfl) ?_ _
      have F := Lib.hid (AN.out x w8 L8.out ⟨x, nx, .inl ⟨x0, rfl⟩⟩ x0)
      have x1 : (x != 0) = true := by rw [bne_iff_ne]; exact x0
      clear nx x0 AN AD
      go_wp2
      go_ret
      exact F.out
  · have K5a : Below W4.heap.size W4 (W4.drew.alloc (.cells #[.int .i64 yt, .int .i64 yk] 33)) := K0.alloc K0.size _
    have YA := heap_alloc_new W4.drew (.cells #[.int .i64 yt, .int .i64 yk] 33)
    go_simp
    refine hK.out _ _ (SC.out _ K5a) (fun hHeld => ?_)
    clear hK K
    try simp only [Act.put, List.setIfInBounds_toArray, List.set_cons_zero, List.set_cons_succ]
    refine wpAnyH_ready (rs := [2]) (by kernel_rfl) (by simp) ?_
    refine AllReadyH.cons (by (simp only [List.getElem?_toArray, List.getElem?_cons_zero, List.getElem?_cons_succ]; exact rfl)) (fun K hK => ?_) AllReadyH.nil
    go_simp
    go_at_call 31; refine (CL.out _ K5a).mono ?_; rintro r5 w5 ⟨q5, d5, rfl, o5, b5⟩
    have K5 : Below W4.heap.size W4 w5 := K5a.trans (b5.mono K5a.size)
    go_wp2_with fail
    refine hK.out _ _ (SC.out _ K5) (fun hHeld => ?_)
    clear hK K
    try simp only [Act.put, List.setIfInBounds_toArray, List.set_cons_zero, List.set_cons_succ]
    have Y6 : Hid (w5.heap[W4.drew.heap.size]? = some (.cells #[.int .i64 yt, .int .i64 yk] 33 (0, 0))) := (b5.block _ (Array.getElem?_eq_some_iff.1 YA).1).trans YA
    have O6 : Hid (w5.ownsRow W4.heap.size 33 2 (.slice q5 n d5) n (cellsL l)) := own_base o5 K5a.size
    clear o5 b5 YA K0 K5a
    refine wpAnyH_ready (rs := [5]) (by kernel_rfl) (by simp) ?_
    refine AllReadyH.cons (by (simp only [List.getElem?_toArray, List.getElem?_cons_zero, List.getElem?_cons_succ]; exact rfl)) (fun K hK => ?_) AllReadyH.nil
    refine step_append_lies _ (by rfl) _ _ _ (by rfl) W4.heap.size 33 iL (.agg #[.int .i64 0, .int .i64 0]) 2 16 Try.underlying22 hiL hz0 hz1 hz2 rfl (by decide) (.slice q5 n d5) n (cellsL l) (by rfl) O6.out ⟨W4.drew.heap.size, 0, none⟩ 1 1 [.int .i64 yt, .int .i64 yk] (by rfl) (by rfl) (World.news_of_block Y6.out) (twoL_one ⟨yt, yk⟩) (by decide) BM.out BY.out K5.size _ rfl ?_
    intro gg cap w7 o7 g7 m7 lt7
    have K7 : Below W4.heap.size W4 w7 := K5.grown g7 K5.size (fun j hj => (World.ownsRow.lt O6.out j hj).1)
    have O7 : Hid (OwnL w7 W4.heap.size (some ⟨gg, 0, none⟩) (n + 1) cap (l ++ [⟨yt, yk⟩])) := by unfold Hid OwnL; rw [cellsL_app]; exact o7
    clear o7 g7 m7 lt7 O6 Y6 K5
    refine hK.out _ _ (SC.out _ K7) (fun hHeld => ?_)
    clear hK K
    try simp only [Act.put, List.setIfInBounds_toArray, List.set_cons_zero, List.set_cons_succ]
    refine wpAnyH_ready (rs := [9]) (by kernel_rfl) (by simp) ?_
    refine AllReadyH.cons (by (simp only [List.getElem?_toArray, List.getElem?_cons_zero, List.getElem?_cons_succ]; exact rfl)) (fun K hK => ?_) AllReadyH.nil
    go_simp
    go_at_call 10; refine (RN.out _ _ _ _ O7.out.holds).mono ?_; rintro r8 w8 ⟨b8, hr8⟩
    have K8 : Below W4.heap.size W4 w8 := K7.trans (b8.mono K7.size)
    have SZ := Lib.hid (Nat.le_trans L4.out.size K7.size)
    have L8 := Lib.hid (L4.out.trans (K8.mono L4.out.size))
    clear b8 K7 O7 RN
    rcases hr8 with ⟨okt, N8, p8, c8, rfl, t8, f8⟩ | ⟨x, nx, x0, rfl⟩
    · go_wp2_with fail
      refine hK.out _ _ (SC.out _ K8) (fun hHeld => ?_)
      clear hK K
      try simp only [Act.put, List.setIfInBounds_toArray, List.set_cons_zero, List.set_cons_succ]
      refine wpAnyH_take (i := 10) (v := ?_) (by (simp only [List.getElem?_toArray, List.getElem?_cons_zero, List.getElem?_cons_succ]; exact rfl)) (by kernel_rfl) (by kernel_rfl) (by kernel_rfl) (by exact fun _ _ _ h => h) (Or.inl ⟨by rfl, ?_⟩) (by assumption) ?_
      rotate_left
      · (intro w hSw; (try dsimp only at hSw); first | (go_simp; done) | (go_simp; with_reducible rfl))
      try simp only [Act.put, List.setIfInBounds_toArray, List.set_cons_zero, List.set_cons_succ]
      refine wpAnyH_take (i := 11) (v := ?_) (by (simp only [List.getElem?_toArray, List.getElem?_cons_zero, List.getElem?_cons_succ]; exact rfl)) (by kernel_rfl) (by kernel_rfl) (by kernel_rfl) (by exact fun _ _ _ h => h) (Or.inl ⟨by rfl, ?_⟩) (by assumption) ?_
      rotate_left
      · (intro w hSw; (try dsimp only at hSw); first | (go_simp; done) | (go_simp; with_reducible rfl))
      try simp only [Act.put, List.setIfInBounds_toArray, List.set_cons_zero, List.set_cons_succ]
      refine wpAnyH_take (i := 12) (v := ?_) (by (simp only [List.getElem?_toArray, List.getElem?_cons_zero, List.getElem?_cons_succ]; exact rfl)) (by kernel_rfl) (by kernel_rfl) (by kernel_rfl) (by exact fun _ _ _ h => h) (Or.inl ⟨by rfl, ?_⟩) (by assumption) ?_
      rotate_left
      · (intro w hSw; (try dsimp only at hSw); first | (go_simp; done) | (go_simp; with_reducible rfl))
      try simp only [Act.put, List.setIfInBounds_toArray, List.set_cons_zero, List.set_cons_succ]
      refine wpAnyH_take (i := 13) (v := ?_) (by (simp only [List.getElem?_toArray, List.getElem?_cons_zero, List.getElem?_cons_succ]; exact rfl)) (by kernel_rfl) (by kernel_rfl) (by kernel_rfl) (by exact fun _ _ _ h => h) (Or.inl ⟨by rfl, ?_⟩) (by assumption) ?_
      rotate_left
      · (intro w hSw; (try dsimp only at hSw); first | (go_simp; done) | (go_simp; with_reducible rfl))
      try simp only [Act.put, List.setIfInBounds_toArray, List.set_cons_zero, List.set_cons_succ]
      refine wpAnyH_take (i := 14) (v := ?_) (by (simp only [List.getElem?_toArray, List.getElem?_cons_zero, List.getElem?_cons_succ]; exact rfl)) (by kernel_rfl) (by kernel_rfl) (by kernel_rfl) (by exact fun _ _ _ h => h) (Or.inl ⟨by rfl, ?_⟩) (by assumption) ?_
      rotate_left
      · (intro w hSw; (try dsimp only at hSw); first | (go_simp; done) | (go_simp; with_reducible rfl))
      try simp only [Act.put, List.setIfInBounds_toArray, List.set_cons_zero, List.set_cons_succ]
      refine wpAnyH_done (by kernel_rfl) ?_ _
      have e2 := EC.out _ K8
      by_cases g : e' < e
      · have g1 : decide (e' < e) = true := decide_eq_true g
        have F := Lib.hid (AN.out 1 w8 L8.out ⟨0, .inr ⟨okt.2.1, .inr ⟨rfl, okt⟩⟩, .inr ⟨rfl, .inl ⟨g, rfl⟩⟩⟩ (by decide))
        clear g okt t8 f8 AN AD
        go_wp2
        go_ret
        exact F.out
      · have g1 : decide (e' < e) = false := decide_eq_false g
        have ln8 : (l ++ [(⟨yt, yk⟩ : Lp)]).length = n + 1 := by rw [List.length_append, LN.out]; rfl
        have F := Lib.hid (AD.out w8 N8 p8 c8 (n + 1) L8.out t8 (fun M hM => Nat.le_trans SZ.out (f8 M hM)) (by omega) okt ln8)
        have bl := (HP.out.below L8.out).bk
        have b8 := t8.bk
        rw [ln8] at b8
        have x0 := blk_cell (o := 0) bl
        have x1 := blk_cell (o := 1) bl
        have x2 := blk_cell (o := 2) bl
        have x3 := blk_cell (o := 3) bl
        have h0 := blk_free (o := 0) bl
        have h1 := blk_free (o := 1) bl
        have h2 := blk_free (o := 2) bl
        have h3 := blk_free (o := 3) bl
        have z0 := blk_cell (o := 0) b8
        have z1 := blk_cell (o := 1) b8
        have z2 := blk_cell (o := 2) b8
        have z3 := blk_cell (o := 3) b8
        simp only [List.getElem?_toArray, List.getElem?_cons_zero, List.getElem?_cons_succ] at x0 x1 x2 x3 z0 z1 z2 z3
        generalize l.length = n9 at *
        clear g okt t8 f8 bl b8 AN AD ln8
        go_wp2
        go_ret
        exact F.out
    · go_wp2_with fail
      refine hK.out _ _ (SC.out _ K8) (fun hHeld => ?_)
      clear hK K
      try simp only [Act.put, List.setIfInBounds_toArray, List.set_cons_zero, List.set_cons_succ]
      refine wpAnyH_take (i := 10) (v := ?_) (by (simp only [List.getElem?_toArray, List.getElem?_cons_zero, List.getElem?_cons_succ]; exact rfl)) (by kernel_rfl) (by kernel_rfl) (by kernel_rfl) (by exact fun _ _ _ h => h) (Or.inl ⟨by rfl, ?_⟩) (by assumption) ?_
      rotate_left
      · (intro w hSw; (try dsimp only at hSw); first | (go_simp; done) | (go_simp; with_reducible rfl))
      try simp only [Act.put, List.setIfInBounds_toArray, List.set_cons_zero, List.set_cons_succ]
      refine wpAnyH_take (i := 11) (v := ?_) (by (simp only [List.getElem?_toArray, List.getElem?_cons_zero, List.getElem?_cons_succ]; exact rfl)) (by kernel_rfl) (by kernel_rfl) (by kernel_rfl) (by exact fun _ _ _ h => h) (Or.inl ⟨by rfl, ?_⟩) (by assumption) ?_
      rotate_left
      · (intro w hSw; (try dsimp only at hSw); first | (go_simp; done) | (go_simp; with_reducible rfl))
      try simp only [Act.put, List.setIfInBounds_toArray, List.set_cons_zero, List.set_cons_succ]
      refine wpAnyH_take (i := 12) (v := ?_) (by (simp only [List.getElem?_toArray, List.getElem?_cons_zero, List.getElem?_cons_succ]; exact rfl)) (by kernel_rfl) (by kernel_rfl) (by kernel_rfl) (by exact fun _ _ _ h => h) (Or.inl ⟨by rfl, ?_⟩) (by assumption) ?_
      rotate_left
      · (intro w hSw; (try dsimp only at hSw); first | (go_simp; done) | (go_simp; with_reducible rfl))
      try simp only [Act.put, List.setIfInBounds_toArray, List.set_cons_zero, List.set_cons_succ]
      refine wpAnyH_take (i := 13) (v := ?_) (by (simp only [List.getElem?_toArray, List.getElem?_cons_zero, List.getElem?_cons_succ]; exact rfl)) (by kernel_rfl) (by kernel_rfl) (by kernel_rfl) (by exact fun _ _ _ h => h) (Or.inl ⟨by rfl, ?_⟩) (by assumption) ?_
      rotate_left
      · (intro w hSw; (try dsimp only at hSw); first | (go_simp; done) | (go_simp; with_reducible rfl))
      try simp only [Act.put, List.setIfInBounds_toArray, List.set_cons_zero, List.set_cons_succ]
      refine wpAnyH_take (i := 14) (v := ?_) (by (simp only [List.getElem?_toArray, List.getElem?_cons_zero, List.getElem?_cons_succ]; exact rfl)) (by kernel_rfl) (by kernel_rfl) (by kernel_rfl) (by exact fun _ _ _ h => h) (Or.inl ⟨by rfl, ?_⟩) (by assumption) ?_
      rotate_left
      · (intro w hSw; (try dsimp only at hSw); first | (go_simp; done) | (go_simp; with_reducible rfl))
      try simp only [Act.put, List.setIfInBounds_toArray, List.set_cons_zero, List.set_cons_succ]
      refine wpAnyH_done (by kernel_rfl) ?_ _
      have F := Lib.hid (AN.out x w8 L8.out ⟨x, nx, .inl ⟨x0, rfl⟩⟩ x0)
      have x1 : (x != 0) = true := by rw [bne_iff_ne]; exact x0
      clear nx x0 AN AD
      go_wp2
      go_ret
      exact F.out
theorem padded16_no {w : World} {P : Option Addr} {p : Option Addr} {n c : Nat} {l : List Lp} {e b : Int} (h : HasT w P false p n c l e b) (y : Lp) (e' : Int) :
    Calls Try.prog 16 #[.pointer P, .agg #[.int .i64 y.t, .int .i64 y.k], .int .i64 e'] w fun r w' => r = .returned (.int .i64 2) ∧ Below w.heap.size w w' := by
  obtain ⟨yt, yk⟩ := y
  dsimp only
  have L0 := Lib.hid ((Below.refl w.heap.size w).alloc (Nat.le_refl _) (.cells #[.int .i64 yt, .int .i64 yk] 33))
  have HE := Lib.hid (h.held _ L0.out)
  clear h
  go_enter Try.func16, Try.ntmps16
  go_wp2_with fail
  refine HE.out.mono ?_; rintro e1 w3 ⟨rfl, b3⟩
  have k4 := b3.alloc b3.size (.cells #[.bool false, .slice p n c, .int .i64 e, .int .i64 b] 67)
  have L4 := Lib.hid (L0.out.trans (k4.mono L0.out.size))
  clear HE b3 k4
  go_wp2
  go_ret
  exact ⟨rfl, L4.out⟩
end Go.Proofs.Ytpfbdpoileepoaa
