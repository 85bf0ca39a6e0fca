/- Layer 16 (leap), the program's: Even. -/
import Derived.Test.YtpfbdpoileepoaaLpT
import Derived.Deep.AppendLies
import Derived.Deep.RegionHeld3
set_option maxRecDepth 100000
namespace Go.Proofs.Ytpfbdpoileepoaa
open Go.ChangeShapes Go.WideShapes Go.ChangeAt Go.RowKit SmM

/-! ### Offsets, in plain lists -/
def sumK (l : List Lp) : Int := (l.map fun y => y.k).sum
theorem sumK_take {l : List Lp} {i : Nat} (h : i < l.length) : sumK (l.take (i + 1)) = sumK (l.take i) + (gl l i).k := by
  unfold sumK
  rw [List.take_succ_eq_append_getElem h, List.map_append, List.sum_append, List.map_cons, List.map_nil, List.sum_cons, List.sum_nil, Int.add_zero, gl_of h]
theorem sumK_bound {l : List Lp} (hk : ∀ y ∈ l, y.k = 1 ∨ y.k = -1) : -(l.length : Int) ≤ sumK l ∧ sumK l ≤ l.length := by
  induction l with
  | nil => exact ⟨Int.le_refl _, Int.le_refl _⟩
  | cons x l ih =>
    have := ih fun y hy => hk y (List.mem_cons_of_mem _ hy)
    have := hk x (List.mem_cons_self ..)
    unfold sumK at *
    rw [List.map_cons, List.sum_cons, List.length_cons]
    omega
theorem sumK_in {l : List Lp} (ok : OkL l) (i : Nat) : -(l.length : Int) ≤ sumK (l.take i) ∧ sumK (l.take i) ≤ l.length := by
  have h := sumK_bound (l := l.take i) fun y hy => (ok.1 y (List.mem_of_mem_take hy)).2.2
  rw [List.length_take] at h
  omega
/-- What counts at an instant is a beginning of the leaps. -/
theorem kinds_front : ∀ {l : List Lp}, GapL l → ∀ u : Int, ∃ j, j ≤ l.length ∧ kindsI l u = sumK (l.take j)
  | [], _, _ => ⟨0, Nat.le_refl _, rfl⟩
  | x :: l, g, u => by
    by_cases c : x.t ≤ u
    · obtain ⟨j, hj, e⟩ := kinds_front g.tail u
      refine ⟨j + 1, by rw [List.length_cons]; omega, ?_⟩
      rw [kinds_cons, if_pos c, e]
      unfold sumK
      rw [List.take_succ_cons, List.map_cons, List.sum_cons]
    · refine ⟨0, Nat.zero_le _, ?_⟩
      have no : ∀ y ∈ x :: l, ¬ y.t ≤ u := fun y hy => by
        rcases List.mem_cons.1 hy with rfl | hy
        · exact c
        · have := g.behind y hy
          unfold dayI at this
          omega
      have : ∀ m : List Lp, (∀ y ∈ m, ¬ y.t ≤ u) → kindsI m u = 0 := fun m => by
        induction m with
        | nil => intro _; rfl
        | cons z m ih =>
          intro q
          rw [kinds_cons, if_neg (q z (List.mem_cons_self ..)), ih fun y hy => q y (List.mem_cons_of_mem _ hy)]
          rfl
      rw [this _ no]
      rfl
def offF (l : List Lp) (b : Int) (k : Nat) : List Int := (List.range k).map fun i => b + sumK (l.take i)
theorem offF_len (l : List Lp) (b : Int) (k : Nat) : (offF l b k).length = k := by unfold offF; rw [List.length_map, List.length_range]
theorem offF_more (l : List Lp) (b : Int) (k : Nat) : offF l b (k + 1) = offF l b k ++ [b + sumK (l.take k)] := by unfold offF; rw [List.range_succ, List.map_append, List.map_cons, List.map_nil]
theorem offF_get {l : List Lp} {b : Int} {k i : Nat} (h : i < k) : (offF l b k).getD i 0 = b + sumK (l.take i) := by
  unfold offF
  rw [List.getD_eq_getElem?_getD, List.getElem?_map, List.getElem?_range h]
  rfl
theorem valsI_app (k : IntKind) (a b : List Int) : valsI k (a ++ b) = valsI k a ++ valsI k b := List.map_append
theorem infoInt : (Try.prog.info? 3).map (fun i => (i.zero, i.size, i.bytes)) = some (some (.int .i64 0), 1, 8) := by kernel_rfl
set_option maxHeartbeats 8000000 in
theorem poffs16 (w : World) (m : Bool) (p : Option Addr) (n c : Nat) (l : List Lp) (e b : Int) (h : HoldsL w p n c l) (ok : OkL l) (few : n ≤ 32) (bb : -1000 ≤ b ∧ b ≤ 1000) :
    Calls Try.prog 44 #[.agg #[.bool m, .slice p n c, .int .i64 e, .int .i64 b]] w fun r w' => ∃ q d, r = .returned (.slice q (n + 1) d) ∧ Holds w' q (n + 1) d (valsI .i64 (offF l b (n + 1))) ∧ Below w.heap.size w w' := by
  have HL := Lib.hid h
  have OK := Lib.hid ok
  have LN := Lib.hid h.len
  have BB := Lib.hid bb
  have nb : (n : Int) ≤ 32 := by omega
  have L0 := Lib.hid ((Below.refl w.heap.size w).alloc (Nat.le_refl _) (.cells #[.bool m, .slice p n c, .int .i64 e, .int .i64 b] 67))
  obtain ⟨V, hV⟩ : ∃ V, w.alloc (.cells #[.bool m, .slice p n c, .int .i64 e, .int .i64 b] 67) = V := ⟨_, rfl⟩
  have V0 : V.heap[w.heap.size]? = some (.cells #[.bool m, .slice p n c, .int .i64 e, .int .i64 b] 67 (0, 0)) := by rw [← hV]; exact heap_alloc_new _ _
  rw [hV] at L0
  have L1 := Lib.hid (L0.out.alloc L0.out.size (.cells #[.int .i64 b] 3))
  have LA : Below V.heap.size V (V.alloc (.cells #[.int .i64 b] 3)) := (Below.refl _ _).alloc (Nat.le_refl _) _
  have R0 : Hid ((V.alloc (.cells #[.int .i64 b] 3)).ownsRow w.heap.size 3 1 (.slice (some ⟨V.heap.size, 0, none⟩) 1 1) 1 (valsI .i64 (offF l b 1))) := by
    have e : valsI .i64 (offF l b 1) = [.int .i64 b] := by unfold valsI offF sumK; simp [List.range_succ]
    have q := own_of_blk (B := w.heap.size) (n := 1) (heap_alloc_new V (.cells #[.int .i64 b] 3)) rfl (by decide) L0.out.size
    unfold Hid
    rw [e]
    exact q
  have x1 := blk_cell (o := 1) V0
  have x3 := blk_cell (o := 3) V0
  have y1 := blk_cell (o := 1) ((LA.block _ (Array.getElem?_eq_some_iff.1 V0).1).trans V0)
  simp only [List.getElem?_toArray, List.getElem?_cons_zero, List.getElem?_cons_succ] at x1 x3 y1
  obtain ⟨iI, hiI, hz0, hz1, hz2⟩ := infoLp_of infoInt
  clear h ok few bb V0 LA
  go_enter Try.func44, Try.ntmps44
  go_wp2_with fail
  clear hV x3 y1
  go_loopw [3, 12] (fun ll ii wr => ∃ (i k : Nat) (q : Option Addr) (d : Nat), ll = .slice q k d ∧ ii = .int .i64 (i : Nat) ∧ Hid (k = i + 1 ∧ i ≤ n) ∧ Hid (wr.ownsRow w.heap.size 3 1 (.slice q k d) k (valsI .i64 (offF l b k))) ∧ Hid (Below w.heap.size w wr)) (fun _ ii _ => 1000 - (intOf ii).toNat)
  case atStart => exact ⟨0, 1, some ⟨V.heap.size, 0, none⟩, 1, rfl, rfl, ⟨rfl, Nat.zero_le _⟩, R0, L1⟩
  case round =>
    clear R0 L1 x1
    obtain ⟨i, k, q, d, rfl, rfl, I, R, L⟩ := hrel
    have i0 : (0 : Int) ≤ (i : Int) := by omega
    have i32 : (i : Int) ≤ 32 := by have := I.out.2; omega
    have ik : (i : Int) < (k : Int) := by have := I.out.1; omega
    have k32 : (k : Int) ≤ 33 := by have := I.out; omega
    by_cases z : i < n
    · have z1 : (i : Int) < (n : Int) := by omega
      obtain ⟨a, rfl, c0, c1⟩ := (HL.out.below L.out).cell i z
      have il : i < l.length := by rw [LN.out]; exact z
      have TK := sumK_take il
      have s1 := sumK_in OK.out i
      have s2 := sumK_in OK.out (i + 1)
      have bb := BB.out
      have ll := LN.out
      have NX : Hid (k + 1 = i + 1 + 1 ∧ i + 1 ≤ n) := ⟨by have := I.out.1; omega, z⟩
      have MR := Lib.hid (offF_more l b k)
      have KI := Lib.hid I.out.1
      generalize hx : gl l i = x at *
      obtain ⟨xt, xk⟩ := x
      dsimp only at c0 c1 TK
      obtain ⟨p9, c9, e9, H9⟩ := own_holds R.out
      injection e9 with e91 e92 e93
      subst e91 e93
      obtain ⟨ap, rfl, cz⟩ := H9.atI (i := i) (by omega)
      rw [offF_get (by have := KI.out; omega)] at cz
      obtain ⟨u, hu⟩ : ∃ u, b + sumK (l.take i) = u := ⟨_, rfl⟩
      rw [hu] at cz
      obtain ⟨v, hv⟩ : ∃ v, u + xk = v := ⟨_, rfl⟩
      obtain ⟨w1, w2⟩ := wr16 (x := v) (by unfold I64; omega)
      have VB : Hid (b + sumK (l.take k) = v) := by unfold Hid; rw [KI.out]; omega
      obtain ⟨W, hW⟩ : ∃ W, wr.alloc (.cells #[.int .i64 xt, .int .i64 xk] 33) = W := ⟨_, rfl⟩
      have b1 : Below wr.heap.size wr W := by rw [← hW]; exact (Below.refl _ _).alloc (Nat.le_refl _) _
      have Y1 : W.heap[wr.heap.size]? = some (.cells #[.int .i64 xt, .int .i64 xk] 33 (0, 0)) := by rw [← hW]; exact heap_alloc_new _ _
      have ylt := (Array.getElem?_eq_some_iff.1 Y1).1
      have L2 := Lib.hid (L.out.trans (b1.mono L.out.size))
      have cz1 : W.drew.cell? (ap.add i) = some (.int .i64 u) := (b1.drew.cell (World.block_lt_of_cell? wr _ cz)).trans cz
      have SC : Hid (∀ w', Below W.heap.size W w' → w'.cell? ⟨wr.heap.size, 1, none⟩ = some (.int .i64 xk)) := fun w' j => blk_cell ((j.block _ ylt).trans Y1)
      have R2 : Hid ((W.drew.alloc (.cells #[.int .i64 v] 3)).ownsRow w.heap.size 3 1 (.slice (some ap) k d) k (valsI .i64 (offF l b k))) := own_keep R.out (b1.drew.alloc b1.drew.size _)
      have FAR : Hid (∀ g, (Value.slice (some ap) k d).ownBlock = some g → g ≠ wr.heap.size ∧ w.heap.size ≤ g) := fun g hg => by
        have := World.ownsRow.lt R.out g hg
        exact ⟨by omega, this.1⟩
      have K0 : Below W.heap.size W W.drew := (Below.refl _ _).drew
      have K1 : Below W.heap.size W (W.drew.alloc (.cells #[.int .i64 v] 3)) := K0.alloc K0.size _
      have BM : Hid (k + 1 ≤ maxLen) := by unfold Hid maxLen; omega
      have BY : Hid ((k + 1) * 8 ≤ 140737488355328) := by unfold Hid; omega
      have WS : Hid (wr.heap.size < W.heap.size) := ylt
      clear z il TK s1 s2 bb ll I R hx H9 cz hu b1 Y1 ylt
      have L3 := Lib.hid (L2.out.trans (K1.mono L2.out.size))
      go_wp2_with fail
      clear hW c0 c1
      refine wp_region_held_drew (S := fun w' => w'.cell? ⟨wr.heap.size, 1, none⟩ = some (.int .i64 xk)) (by kernel_rfl) (SC.out _ K0) (fun hHeld => ?_)
      refine wpAnyH_take (i := 0) (v := ?_) (by (simp only [List.getElem?_toArray, List.getElem?_cons_zero]; exact rfl)) (by kernel_rfl) (by kernel_rfl) (by kernel_rfl) (by exact fun _ _ _ h => h) (Or.inl ⟨by rfl, ?_⟩) (by assumption) ?_
      rotate_left
      · (intro w hSw; (try dsimp only at hSw); first | (go_simp; done) | (go_simp; with_reducible rfl))
      try simp only [Act.put, List.setIfInBounds_toArray, List.set_cons_zero, List.set_cons_succ]
      refine wpAnyH_take (i := 1) (v := ?_) (by (simp only [List.getElem?_toArray, List.getElem?_cons_zero, List.getElem?_cons_succ]; exact rfl)) (by kernel_rfl) (by kernel_rfl) (by kernel_rfl) (by exact fun _ _ _ h => h) (Or.inl ⟨by rfl, ?_⟩) (by assumption) ?_
      rotate_left
      · (intro w hSw; (try dsimp only at hSw); first | (go_simp; done) | (go_simp; with_reducible rfl))
      try simp only [Act.put, List.setIfInBounds_toArray, List.set_cons_zero, List.set_cons_succ]
      refine wpAnyH_take (i := 2) (v := ?_) (by (simp only [List.getElem?_toArray, List.getElem?_cons_zero, List.getElem?_cons_succ]; exact rfl)) (by kernel_rfl) (by kernel_rfl) (by kernel_rfl) (by exact fun _ _ _ h => h) (Or.inl ⟨by rfl, ?_⟩) (by assumption) ?_
      rotate_left
      · (intro w hSw; (try dsimp only at hSw); first | (go_simp; done) | (go_simp; with_reducible rfl))
      try simp only [Act.put, List.setIfInBounds_toArray, List.set_cons_zero, List.set_cons_succ]
      refine wpAnyH_take (i := 3) (v := ?_) (by (simp only [List.getElem?_toArray, List.getElem?_cons_zero, List.getElem?_cons_succ]; exact rfl)) (by kernel_rfl) (by kernel_rfl) (by kernel_rfl) (by exact fun _ _ _ h => h) (Or.inl ⟨by rfl, ?_⟩) (by assumption) ?_
      rotate_left
      · (intro w hSw; (try dsimp only at hSw); first | (go_simp; done) | (go_simp; with_reducible rfl))
      try simp only [Act.put, List.setIfInBounds_toArray, List.set_cons_zero, List.set_cons_succ]
      refine wpAnyH_take (i := 5) (v := ?_) (by (simp only [List.getElem?_toArray, List.getElem?_cons_zero, List.getElem?_cons_succ]; exact rfl)) (by kernel_rfl) (by kernel_rfl) (by kernel_rfl) (by exact fun _ _ _ h => h) (Or.inl ⟨by rfl, ?_⟩) (by assumption) ?_
      rotate_left
      · (intro w hSw; (try dsimp only at hSw); first | (go_simp; done) | (go_simp; with_reducible rfl))
      try simp only [Act.put, List.setIfInBounds_toArray, List.set_cons_zero, List.set_cons_succ]
      refine wpAnyH_take (i := 6) (v := ?_) (by (simp only [List.getElem?_toArray, List.getElem?_cons_zero, List.getElem?_cons_succ]; exact rfl)) (by kernel_rfl) (by kernel_rfl) (by kernel_rfl) (by exact fun _ _ _ h => h) (Or.inl ⟨by rfl, ?_⟩) (by assumption) ?_
      rotate_left
      · (intro w hSw; (try dsimp only at hSw); first | (go_simp; done) | (go_simp; with_reducible rfl))
      try simp only [Act.put, List.setIfInBounds_toArray, List.set_cons_zero, List.set_cons_succ]
      refine wpAnyH_ready (rs := [4]) (by kernel_rfl) (by simp) ?_
      refine AllReadyH.cons (by (simp only [List.getElem?_toArray, List.getElem?_cons_zero, List.getElem?_cons_succ]; exact rfl)) (fun K hK => ?_) AllReadyH.nil
      go_simp
      refine hK.out _ _ (SC.out _ K0) (fun hHeld => ?_)
      clear hK K
      try simp only [Act.put, List.setIfInBounds_toArray, List.set_cons_zero, List.set_cons_succ]
      refine wpAnyH_take (i := 7) (v := ?_) (by (simp only [List.getElem?_toArray, List.getElem?_cons_zero, List.getElem?_cons_succ]; exact rfl)) (by kernel_rfl) (by kernel_rfl) (by kernel_rfl) (by exact fun _ _ _ h => h) (Or.inl ⟨by rfl, ?_⟩) (by assumption) ?_
      rotate_left
      · (intro w hSw; (try dsimp only at hSw); first | (go_simp; done) | (go_simp; with_reducible rfl))
      try simp only [Act.put, List.setIfInBounds_toArray, List.set_cons_zero, List.set_cons_succ]
      refine wpAnyH_ready (rs := [8]) (by kernel_rfl) (by simp) ?_
      refine AllReadyH.cons (by (simp only [List.getElem?_toArray, List.getElem?_cons_zero, List.getElem?_cons_succ]; exact rfl)) (fun K hK => ?_) AllReadyH.nil
      go_simp
      refine hK.out _ _ (SC.out _ K1) (fun hHeld => ?_)
      clear hK K
      try simp only [Act.put, List.setIfInBounds_toArray, List.set_cons_zero, List.set_cons_succ]
      refine wpAnyH_ready (rs := [9]) (by kernel_rfl) (by simp) ?_
      refine AllReadyH.cons (by (simp only [List.getElem?_toArray, List.getElem?_cons_zero, List.getElem?_cons_succ]; exact rfl)) (fun K hK => ?_) AllReadyH.nil
      refine step_append_lies _ (by rfl) _ _ _ (by rfl) w.heap.size 3 iI (.int .i64 0) 1 8 Try.underlying79 hiI hz0 hz1 hz2 rfl (by decide) (.slice (some ap) k d) k (valsI .i64 (offF l b k)) (by rfl) R2.out ⟨W.drew.heap.size, 0, none⟩ 1 1 [.int .i64 v] (by rfl) (by rfl) (World.news_of_block (heap_alloc_new W.drew (.cells #[.int .i64 v] 3))) (by simp [Value.oneCell']) (by decide) BM.out BY.out L3.out.size _ rfl ?_
      intro gg cap w4 o4 g4 m4 lt4
      have O4 : Hid (w4.ownsRow w.heap.size 3 1 (.slice (some ⟨gg, 0, none⟩) (k + 1) cap) (k + 1) (valsI .i64 (offF l b (k + 1)))) := by have e := MR.out; rw [VB.out] at e; unfold Hid; rw [e, valsI_app]; exact o4
      have L4 := Lib.hid (L3.out.grown g4 L3.out.size (fun j hj => (FAR.out j hj).2))
      have S4 : w4.cell? ⟨wr.heap.size, 1, none⟩ = some (.int .i64 xk) := by rw [g4.cell_far ⟨wr.heap.size, 1, none⟩ (Nat.lt_of_lt_of_le WS.out K1.size) (fun e => (FAR.out _ e.symm).1 rfl)]; exact SC.out _ K1
      clear o4 g4 m4 lt4
      refine hK.out _ _ S4 (fun hHeld => ?_)
      clear hK K
      try simp only [Act.put, List.setIfInBounds_toArray, List.set_cons_zero, List.set_cons_succ]
      refine wpAnyH_take (i := 10) (v := ?_) (by (simp only [List.getElem?_toArray, List.getElem?_cons_zero, List.getElem?_cons_succ]; exact rfl)) (by kernel_rfl) (by kernel_rfl) (by kernel_rfl) (by exact fun _ _ _ h => h) (Or.inl ⟨by rfl, ?_⟩) (by assumption) ?_
      rotate_left
      · (intro w hSw; (try dsimp only at hSw); first | (go_simp; done) | (go_simp; with_reducible rfl))
      try simp only [Act.put, List.setIfInBounds_toArray, List.set_cons_zero, List.set_cons_succ]
      refine wpAnyH_done (by kernel_rfl) ?_ _
      clear SC R2 MR VB FAR BM BY K0 K1 S4
      go_wp2_with fail
      go_roundw
      case rel => exact ⟨i + 1, k + 1, _, cap, rfl, by go_num, NX, O4, L4⟩
      case measure => simp [intOf]; omega
    · have z1 : (n : Int) ≤ (i : Int) := by omega
      have z2 : decide ((i : Int) < (n : Int)) = false := decide_eq_false (by omega)
      obtain rfl : k = n + 1 := by have := I.out; omega
      have HF : Hid (Holds wr q (n + 1) d (valsI .i64 (offF l b (n + 1)))) := by
        obtain ⟨p9, c9, e9, H9⟩ := own_holds R.out
        injection e9 with e91 e92 e93
        subst e91 e93
        exact H9
      clear z I R
      go_wp2
      go_ret
      exact ⟨q, d, rfl, HF.out, L.out⟩
end Go.Proofs.Ytpfbdpoileepoaa
