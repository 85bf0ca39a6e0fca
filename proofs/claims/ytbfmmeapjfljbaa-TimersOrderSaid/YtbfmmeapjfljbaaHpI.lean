/- Layer 13 (heap), the program's own: Remove. -/
import Derived.Test.YtbfmmeapjfljbaaHpH
set_option maxRecDepth 100000
namespace Go.Proofs.Ytbfmmeapjfljbaa
open Go.ChangeShapes Go.WideShapes Go.ChangeAt Go.RowKit Go.Maps HeapM

theorem sizeP : (Try.prog.info? 55).map (·.size) = some 3 := by kernel_rfl
/-- An item's cell and another one are told. -/
theorem results_itp {fn : Func} {p u : Tmp} (h : fn.results = #[.cell p 55, .tmp u]) (tmps : Array Value) (w : World) (N : Nat) (x : It)
    (hp : tmps.getD p undef = .pointer (some ⟨N, 0, none⟩)) (hg : w.heap[N]? = some (.cells (itC x) 55 (0, 0))) :
    (results fn tmps).run Try.prog w = .ok (.tuple #[itV x, tmps.getD u undef]) w := by
  have hp' : tmps[p]?.getD undef = .pointer (some ⟨N, 0, none⟩) := by simpa using hp
  have hl : (loadVar 55 ⟨N, 0, none⟩).run Try.prog w = .ok (itV x) w :=
    run_loadVar_row w N _ _ _ (0, 0) _ hg Try.underlying55 rfl sizeP
  simp [results, h, hp', asAddr, hl]
theorem results_itp3 {fn : Func} {p u v : Tmp} (h : fn.results = #[.cell p 55, .tmp u, .tmp v]) (tmps : Array Value) (w : World) (N : Nat) (x : It)
    (hp : tmps.getD p undef = .pointer (some ⟨N, 0, none⟩)) (hg : w.heap[N]? = some (.cells (itC x) 55 (0, 0))) :
    (results fn tmps).run Try.prog w = .ok (.tuple #[itV x, tmps.getD u undef, tmps.getD v undef]) w := by
  have hp' : tmps[p]?.getD undef = .pointer (some ⟨N, 0, none⟩) := by simpa using hp
  have hl : (loadVar 55 ⟨N, 0, none⟩).run Try.prog w = .ok (itV x) w :=
    run_loadVar_row w N _ _ _ (0, 0) _ hg Try.underlying55 rfl sizeP
  simp [results, h, hp', asAddr, hl]

theorem FT.setNew {F : Nat → Prop} {w w' : World} (h : FT F w w') {a : Addr} (ha : w.heap.size ≤ a.block) (v : Value) : FT F w (w'.setCell a v) :=
  ⟨fun K h1 h2 => (Below.heap_setCell w' a v K (by omega)).trans (h.keep K h1 h2), fun B h1 h2 => (h.low B h1 h2).setCell (by omega) v, by have := h.size; simpa using this⟩
/-- The result cell is written. -/
theorem tell_itp {w wr : World} {N b c sz : Nat} {p : Option Addr} {l : List It} {r : Nat} (h : PHp wr N b p c sz l) (nr : ∀ M, HF N b p M → M ≠ r) (lr : w.heap.size ≤ r) (t : FT (HF N b p) w wr) (u0 u1 u2 : Value) :
    PQ w N b p c sz l (((wr.setCell ⟨r, 0, none⟩ u0).setCell ⟨r, 1, none⟩ u1).setCell ⟨r, 2, none⟩ u2) :=
  ⟨h.keep fun M hM => three_far _ (nr M hM) _ _ _, ((t.setNew (a := ⟨r, 0, none⟩) lr _).setNew (a := ⟨r, 1, none⟩) lr _).setNew (a := ⟨r, 2, none⟩) lr _⟩

/-- The last one goes. -/
theorem sw_take {l : List It} {k n : Nat} (hn : l.length = n + 1) (hk : k ≤ n) : (sw l k n).take n = if k < n then (l.take n).set k (gt l n) else l.take n := by
  unfold sw
  rw [List.take_set_of_le (Nat.le_refl _), List.take_set]
  by_cases e : k < n
  · rw [if_pos e]
  · rw [if_neg e]
    obtain rfl : k = n := by omega
    rw [List.set_eq_of_length_le (by rw [List.length_take]; omega)]
theorem rem_settle {l : List It} {k n : Nat} (hn : l.length = n + 1) (hk : k ≤ n) : remL l k = if k < n then settleL ((sw l k n).take n) k else (sw l k n).take n := by
  unfold remL
  rw [show l.length - 1 = n by omega, sw_take hn hk]
  by_cases e : k < n
  · rw [if_pos e, if_pos e, if_pos e]
  · rw [if_neg e, if_neg e, if_neg e]
/-- The row is cut, and its id goes out of the map. -/
theorem PHp.cut {w w1 w2 : World} {N b c sz n : Nat} {a : Addr} {m : List It} {D : DataW Unit} (h : PHp w N b (some a) c sz m) (hn : m.length = n + 1) (e1 : w1 = w.setCell ⟨N, 1, none⟩ (.slice (some a) n c)) (m2 : MapP w2 b (n + 1) (D.del (kq (gt m n).id))) (pd : PlD D m) (u : w1.mapTurned w2 b) :
    PQ w N b (some a) c sz (m.take n) w2 := by
  have lt : (m.take n).length = n := by rw [List.length_take]; omega
  have T1 : FT (HF N b (some a)) w w1 := by rw [e1]; exact (FT.of_below (Below.refl _ _)).set (a := ⟨N, 1, none⟩) (.inl rfl) _
  have g := u.grown
  have b1 : w1.heap[N]? = some (.cells (hpC sz n c b (some a)) 67 (0, 0)) := by
    have := h.bk
    rw [hn] at this
    rw [e1]
    exact blk_set (o := 1) (u := .slice (some a) n c) this
  have o1 : ∀ K, K ≠ N → w1.heap[K]? = w.heap[K]? := fun K hK => by rw [e1]; exact Go.Deep.blk_setCell_other _ _ _ _ hK
  have e2 : ∀ K o, K ≠ b → w1.heap[K]? = some o → w2.heap[K]? = some o := fun K o hK q => (g.block K (Array.getElem?_eq_some_iff.1 q).1 (fun e => by injection e with e; exact hK e)).trans q
  have O2 : OwnI w2 55 0 (some a) n c (m.take n) := by
    have O := h.o
    rw [hn] at O
    refine (own_take O (Nat.le_succ n)).keep fun a' ha => ?_
    injection ha with ha
    subst ha
    obtain ⟨-, cur, hg⟩ := own_base0 O
    rw [hg]
    exact e2 _ _ (h.ab rfl) ((o1 _ (h.far a rfl)).trans hg)
  have pd2 := pd.drop h.nod hn
  have t2 := m2.tight
  rw [pd2.size] at t2
  refine ⟨⟨by rw [lt]; exact e2 N _ h.nb b1, by rw [lt]; exact O2, ⟨_, t2, pd2⟩, h.far, h.pos, by have := h.fit; omega, fun y hy => h.oks y (List.mem_of_mem_take hy), ?_⟩, T1.grown g fun k hk => by injection hk with hk; exact .inr (.inl hk.symm)⟩
  unfold Nod
  rw [List.map_take]
  exact h.nod.sublist (List.take_sublist _ _)

/-- What stands while an item is taken out: the heap, and two new blocks. -/
structure RemP (w wr : World) (N b c sz : Nat) (a : Addr) (m : List It) (r g : Nat) (x : It) : Prop where
  q : PQ w N b (some a) c sz m wr
  r0 : wr.heap[r]? = some (.cells #[.int .u64 0, .int .u64 0, .int .i64 0] 55 (0, 0))
  x7 : wr.heap[g]? = some (.cells (itC x) 55 (0, 0))
  nr : w.heap.size ≤ r ∧ w.heap.size ≤ g
  lt : ∀ M, HF N b (some a) M → M < w.heap.size
theorem RemP.next {w wr w' : World} {N b c sz : Nat} {a : Addr} {m m' : List It} {r g : Nat} {x : It} (s : RemP w wr N b c sz a m r g x) (k : PQ wr N b (some a) c sz m' w') : RemP w w' N b c sz a m' r g x := by
  have e : ∀ K o, w.heap.size ≤ K → wr.heap[K]? = some o → w'.heap[K]? = some o := fun K o hK q => (k.2.keep K (fun f => by have := s.lt K f; omega) (Array.getElem?_eq_some_iff.1 q).1).trans q
  exact ⟨s.q.next k, e _ _ s.nr.1 s.r0, e _ _ s.nr.2 s.x7, s.nr, s.lt⟩
theorem RemP.below {w wr w' : World} {N b c sz : Nat} {a : Addr} {m : List It} {r g : Nat} {x : It} (s : RemP w wr N b c sz a m r g x) (k : Below wr.heap.size wr w') : RemP w w' N b c sz a m r g x := s.next ⟨s.q.1.below k, FT.of_below k⟩

set_option maxHeartbeats 4000000 in
theorem premove13 (w : World) (N b : Nat) (p : Option Addr) (c sz : Nat) (l : List It) (d : Nat) (h : PHp w N b p c sz l) (hd : d < 18446744073709551616) :
    Calls Try.prog 33 #[.pointer (some ⟨N, 0, none⟩), .int .u64 (d : Nat)] w fun e w' => e = .returned (.tuple #[itV (remX l d), .int .i64 (remE l d)]) ∧ PR w N b p sz (remR l d) w' := by
  have AL : Below w.heap.size w (w.alloc (.cells #[.int .u64 0, .int .u64 0, .int .i64 0] 55)) := (Below.refl _ _).alloc (Nat.le_refl _) _
  have BR : Hid ((w.alloc (.cells #[.int .u64 0, .int .u64 0, .int .i64 0] 55)).heap[w.heap.size]? = some (.cells #[.int .u64 0, .int .u64 0, .int .i64 0] 55 (0, 0))) := heap_alloc_new _ _
  have H1 := Lib.hid (h.below AL)
  have L1 := Lib.hid AL
  have LT := Lib.hid h.lt
  have H0 := Lib.hid h
  clear h AL
  cases hp : place l d with
  | none =>
    have F : Hid (∀ w', Below w.heap.size w w' → Ending.returned (.tuple #[itV zeroI, .int .i64 6]) = .returned (.tuple #[itV (remX l d), .int .i64 (remE l d)]) ∧ PR w N b p sz (remR l d) w') := fun w' b => by
      rw [(rem_none hp).1, (rem_none hp).2.1, (rem_none hp).2.2]
      exact ⟨rfl, PR.same H0.out b⟩
    have PL := Lib.hid (pplace13_none H1.out hd hp)
    clear hp H1 H0 LT hd
    go_enter Try.func33, Try.ntmps33
    go_wp2_with fail
    have z0 := blk_cell (o := 0) BR.out
    have z1 := blk_cell (o := 1) BR.out
    have z2 := blk_cell (o := 2) BR.out
    have f0 := blk_free (o := 0) BR.out
    have f1 := blk_free (o := 1) BR.out
    have f2 := blk_free (o := 2) BR.out
    have Z := Lib.hid (blk_itm BR.out (.int .u64 0) (.int .u64 0) (.int .i64 0))
    have LZ : Hid (Below w.heap.size w ((((w.alloc (.cells #[.int .u64 0, .int .u64 0, .int .i64 0] 55)).setCell ⟨w.heap.size, 0, none⟩ (.int .u64 0)).setCell ⟨w.heap.size, 1, none⟩ (.int .u64 0)).setCell ⟨w.heap.size, 2, none⟩ (.int .i64 0))) := ((L1.out.setCell (p := ⟨w.heap.size, 0, none⟩) (Nat.le_refl _) _).setCell (p := ⟨w.heap.size, 1, none⟩) (Nat.le_refl _) _).setCell (p := ⟨w.heap.size, 2, none⟩) (Nat.le_refl _) _
    refine PL.out.mono ?_; rintro e w1 ⟨rfl, rfl⟩
    clear BR L1 PL
    obtain ⟨rr, hrr⟩ : ∃ rr, w.heap.size = rr := ⟨_, rfl⟩
    rw [hrr] at Z LZ F z0 z1 z2 f0 f1 f2 ⊢
    generalize w.alloc (.cells #[.int .u64 0, .int .u64 0, .int .i64 0] 55) = v at *
    go_wp2
    (try simp only [Exit.inBlock, Exit.then])
    refine bodyPost_ret (results_itp rfl _ _ rr zeroI rfl Z.out) rfl ?_
    exact F.out _ LZ.out
  | some k =>
    obtain ⟨hk, hid⟩ := place_some hp
    obtain ⟨a, rfl⟩ := H0.out.adr (by omega)
    obtain ⟨n, hn⟩ : ∃ n, l.length = n + 1 := ⟨l.length - 1, by omega⟩
    have kn : k ≤ n := by omega
    have F : Hid (∀ (x : It) w', gt l k = x → PQ w N b (some a) c sz (remL l k) w' → Ending.returned (.tuple #[itV x, .int .i64 0]) = .returned (.tuple #[itV (remX l d), .int .i64 (remE l d)]) ∧ PR w N b (some a) sz (remR l d) w') := fun x w' ex q => by
      rw [(rem_some hp).1, (rem_some hp).2.1, (rem_some hp).2.2, ex]
      exact ⟨rfl, PR.of q⟩
    have PL := Lib.hid (pplace13_some H1.out hd hp)
    have RS := Lib.hid (rem_settle hn kn)
    obtain ⟨x, hx⟩ : ∃ x, gt l k = x := ⟨_, rfl⟩
    have HX := Lib.hid hx
    have HID : Hid ((gt (sw l k n) n).id = d) := by unfold Hid; rw [gt_sw hk (by omega), if_pos rfl]; exact hid
    have KN := Lib.hid kn
    have KK := Lib.hid hk
    have HD := Lib.hid hd
    obtain ⟨ll, hll⟩ : ∃ ll, l.length = ll := ⟨_, rfl⟩
    have LL : Hid (l.length = n + 1 ∧ ll = n + 1) := ⟨hn, by omega⟩
    have nb : (ll : Int) ≤ 1048576 := by have := H0.out.fit; omega
    have u1 : (ll : Int) - 1 = (n : Int) := by omega
    have u2 : wrap64 (n : Int) = (n : Int) := by unfold wrap64; omega
    have u3 : IntKind.i64.wrap (n : Int) = (n : Int) := by rw [IntKind.wrap_i64]; omega
    have k0 : (0 : Int) ≤ (k : Int) := by omega
    have kl : (k : Int) < (ll : Int) := by omega
    have c1 := H1.out.c1
    rw [hll] at c1
    obtain ⟨y0, y1, y2⟩ := own_at H1.out.o hk
    rw [hx] at y0 y1 y2
    have S0 : Hid (∀ w', Below (w.alloc (.cells #[.int .u64 0, .int .u64 0, .int .i64 0] 55)).heap.size (w.alloc (.cells #[.int .u64 0, .int .u64 0, .int .i64 0] 55)) w' → ∀ g, w.heap.size ≤ g → w'.heap[g]? = some (.cells (itC x) 55 (0, 0)) → RemP w w' N b c sz a l w.heap.size g x) := fun w' b g hg e =>
      ⟨⟨H1.out.below b, FT.of_below (L1.out.trans (b.mono L1.out.size))⟩, (b.block _ (Array.getElem?_eq_some_iff.1 BR.out).1).trans BR.out, e, ⟨Nat.le_refl _, hg⟩, LT.out⟩
    obtain ⟨xi, xs, xt⟩ := x
    unfold itC at S0
    dsimp only at y0 y1 y2 S0
    clear hp H1 H0 LT hn hk kn hid hd hx hll
    go_enter Try.func33, Try.ntmps33
    go_wp2_with fail
    refine PL.out.mono ?_; rintro e w1 ⟨rfl, rfl⟩
    clear BR PL
    obtain ⟨r, hr⟩ : ∃ r, w.heap.size = r := ⟨_, rfl⟩
    have HR := Lib.hid hr
    have SR := Lib.hid L1.out.size
    rw [hr] at S0 ⊢
    clear hr L1
    generalize w.alloc (.cells #[.int .u64 0, .int .u64 0, .int .i64 0] 55) = v at *
    go_upto_region 5 with (fail)
    have S1 : Hid (RemP w (v.alloc (.cells #[.int .u64 (xi : Nat), .int .u64 (xs : Nat), .int .i64 xt] 55)) N b c sz a l r v.heap.size ⟨xi, xs, xt⟩) :=
      S0.out _ ((Below.refl _ _).alloc (Nat.le_refl _) _) _ (by have := HR.out; have := SR.out; omega) (heap_alloc_new _ _)
    generalize v.alloc (.cells #[.int .u64 (xi : Nat), .int .u64 (xs : Nat), .int .i64 xt] 55) = v1 at *
    generalize v.heap.size = g at *
    clear c1 y0 y1 y2 S0
    have c1 := S1.out.q.1.c1
    rw [LL.out.1, ← LL.out.2] at c1
    go_wp2_with fail
    refine (pexchange13 v1 N).mono ?_; rintro e w2 ⟨B, rfl, hB, lB, l2⟩
    have FB : Hid (¬ HF N b (some a) B) := fun f => by have := S1.out.q.1.lt B f; omega
    have S2 := Lib.hid (S1.out.below l2)
    have XB := Lib.hid hB
    clear S1 c1 hB lB l2
    unfold ExF
    go_wp2_with fail
    refine (pswap13 w2 N b c sz a l B k n S2.out.q.1 XB.out FB.out KK.out (by have := LL.out.1; omega)).mono ?_; rintro e w3 ⟨rfl, q3⟩
    have S3 := Lib.hid (S2.out.next q3)
    clear S2 q3 XB FB
    obtain ⟨m, hm⟩ : ∃ m, sw l k n = m := ⟨_, rfl⟩
    have LM : Hid (m.length = n + 1) := by unfold Hid; rw [← hm, sw_len]; exact LL.out.1
    rw [hm] at S3 HID RS
    clear hm
    have bk := S3.out.q.1.bk
    rw [LM.out, ← LL.out.2] at bk
    have BK := Lib.hid bk
    have c1 : w3.cell? ⟨N, 1, none⟩ = some (.slice (some a) ll c) := blk_cell bk
    have f1 := blk_free (o := 1) bk
    have cap : (ll : Int) ≤ (c : Int) := by
      have := S3.out.q.1.o.holds.cap
      rw [LM.out] at this
      have := LL.out.2
      omega
    have n0 : (0 : Int) ≤ (n : Int) := by omega
    have nc : (n : Int) ≤ (c : Int) := by omega
    have nl : (n : Int) ≤ (ll : Int) := by omega
    clear bk
    go_upto_region 8 with (fail)
    obtain ⟨D, MD, PD⟩ := S3.out.q.1.m
    have NB := S3.out.q.1.nb
    have M4 : Hid (MapP (w3.setCell ⟨N, 1, none⟩ (.slice (some a) n c)) b (n + 1) D) := by rw [LM.out] at MD; exact MD.same (Go.Deep.blk_setCell_other _ _ _ _ (Ne.symm NB))
    have c2 : (w3.setCell ⟨N, 1, none⟩ (.slice (some a) n c)).cell? ⟨N, 2, none⟩ = some (.map (some b)) := blk_cell (blk_set (o := 1) (u := .slice (some a) n c) BK.out)
    have CUT : Hid (∀ w5, MapP w5 b (n + 1) (D.del (kq d)) → (w3.setCell ⟨N, 1, none⟩ (.slice (some a) n c)).mapTurned w5 b → PQ w3 N b (some a) c sz (m.take n) w5) := fun w5 m5 u5 => S3.out.q.1.cut LM.out rfl (by rw [HID.out]; exact m5) PD u5
    have KD := Lib.hid (kq_of HD.out)
    generalize w3.setCell ⟨N, 1, none⟩ (.slice (some a) n c) = w4 at *
    clear c1 f1 MD PD NB BK
    go_upto_region 9 with (at_delete; refine wpList_delete_own _ rfl _ _ 64 28 rfl 3 law64 Try.underlying64 RP b (n + 1) D rfl M4.out _ _ rfl KD.out ?_; intro w5 m5 u5; have S5 := Lib.hid (S3.out.next (CUT.out w5 m5 u5)); clear m5 u5 M4 CUT KD S3 c2)
    have LT5 : Hid ((m.take n).length = n) := by unfold Hid; rw [List.length_take, LM.out]; omega
    by_cases e : k < n
    · have e1 : (k : Int) < (n : Int) := by omega
      have e2 : decide ((k : Int) < (n : Int)) = true := decide_eq_true e1
      have RL : Hid (remL l k = settleL (m.take n) k) := by unfold Hid; rw [RS.out, if_pos e]
      have ST := Lib.hid (psettle13 w5 N b c sz a (m.take n) k S5.out.q.1 (by rw [LT5.out]; exact e))
      clear e RS HID KK KN
      go_upto_region 11 with (go_at_call 35; refine ST.out.mono ?_; rintro e w6 ⟨rfl, q6⟩; have S6 := Lib.hid (S5.out.next q6); clear q6 ST S5)
      have F2 : Hid (∀ w', PQ w N b (some a) c sz (remL l k) w' → Ending.returned (.tuple #[itV ⟨xi, xs, xt⟩, .int .i64 0]) = .returned (.tuple #[itV (remX l d), .int .i64 (remE l d)]) ∧ PR w N b (some a) sz (remR l d) w') := fun w' q => F.out _ w' HX.out q
      have TL := Lib.hid (tell_itp S6.out.q.1 (fun M hM => by have := S6.out.lt M hM; have := S6.out.nr.1; omega) S6.out.nr.1 S6.out.q.2 (.int .u64 (xi : Nat)) (.int .u64 (xs : Nat)) (.int .i64 xt))
      rw [← RL.out] at TL
      have x7 := S6.out.x7
      have r0 := S6.out.r0
      unfold itC at x7
      dsimp only at x7
      have BB := Lib.hid (blk_itm r0 (.int .u64 (xi : Nat)) (.int .u64 (xs : Nat)) (.int .i64 xt))
      have g0 := blk_cell (o := 0) x7
      have g1 := blk_cell (o := 1) x7
      have g2 := blk_cell (o := 2) x7
      have z0 := blk_cell (o := 0) r0
      have z1 := blk_cell (o := 1) r0
      have z2 := blk_cell (o := 2) r0
      have f0 := blk_free (o := 0) r0
      have f1 := blk_free (o := 1) r0
      have f2 := blk_free (o := 2) r0
      simp only [List.getElem?_toArray, List.getElem?_cons_zero, List.getElem?_cons_succ] at g0 g1 g2 z0 z1 z2
      clear x7 r0
      go_wp2
      (try simp only [Exit.inBlock, Exit.then])
      refine bodyPost_ret (results_itp rfl _ _ r ⟨xi, xs, xt⟩ rfl BB.out) rfl ?_
      exact F2.out _ TL.out
    · have e1 : ¬ (k : Int) < (n : Int) := by omega
      have e2 : decide ((k : Int) < (n : Int)) = false := decide_eq_false e1
      have RL : Hid (remL l k = m.take n) := by unfold Hid; rw [RS.out, if_neg e]
      clear e RS HID KK
      go_upto_region 11 with (fail)
      have F2 : Hid (∀ w', PQ w N b (some a) c sz (remL l k) w' → Ending.returned (.tuple #[itV ⟨xi, xs, xt⟩, .int .i64 0]) = .returned (.tuple #[itV (remX l d), .int .i64 (remE l d)]) ∧ PR w N b (some a) sz (remR l d) w') := fun w' q => F.out _ w' HX.out q
      have TL := Lib.hid (tell_itp S5.out.q.1 (fun M hM => by have := S5.out.lt M hM; have := S5.out.nr.1; omega) S5.out.nr.1 S5.out.q.2 (.int .u64 (xi : Nat)) (.int .u64 (xs : Nat)) (.int .i64 xt))
      rw [← RL.out] at TL
      have x7 := S5.out.x7
      have r0 := S5.out.r0
      unfold itC at x7
      dsimp only at x7
      have BB := Lib.hid (blk_itm r0 (.int .u64 (xi : Nat)) (.int .u64 (xs : Nat)) (.int .i64 xt))
      have g0 := blk_cell (o := 0) x7
      have g1 := blk_cell (o := 1) x7
      have g2 := blk_cell (o := 2) x7
      have z0 := blk_cell (o := 0) r0
      have z1 := blk_cell (o := 1) r0
      have z2 := blk_cell (o := 2) r0
      have f0 := blk_free (o := 0) r0
      have f1 := blk_free (o := 1) r0
      have f2 := blk_free (o := 2) r0
      simp only [List.getElem?_toArray, List.getElem?_cons_zero, List.getElem?_cons_succ] at g0 g1 g2 z0 z1 z2
      clear x7 r0
      go_wp2
      (try simp only [Exit.inBlock, Exit.then])
      refine bodyPost_ret (results_itp rfl _ _ r ⟨xi, xs, xt⟩ rfl BB.out) rfl ?_
      exact F2.out _ TL.out
end Go.Proofs.Ytbfmmeapjfljbaa

