/- Layer 13 (heap), the program's own: two items change places, in the row and in the map. -/
import Derived.Test.YtbfmmeapjfljbaaHpC
set_option maxRecDepth 100000
namespace Go.Proofs.Ytbfmmeapjfljbaa
open Go.ChangeShapes Go.WideShapes Go.ChangeAt Go.RowKit Go.Maps HeapM

theorem set3_cells {w : World} {T : TypeId} {B n c : Nat} {a : Addr} {l : List It} (h : OwnI w T B (some a) n c l) {k : Nat} (hk : k < n) (x : It) {j : Nat} (hj : j < n) :
    (set3 w a k x).cell? (a.add (j * 3)) = some (.int .u64 ((gt (l.set k x) j).id : Nat)) ∧ (set3 w a k x).cell? ⟨(a.add (j * 3)).block, (a.add (j * 3)).off + 1, none⟩ = some (.int .u64 ((gt (l.set k x) j).seq : Nat)) ∧ (set3 w a k x).cell? ⟨(a.add (j * 3)).block, (a.add (j * 3)).off + 2, none⟩ = some (.int .i64 (gt (l.set k x) j).t) :=
  own_at (set3_own h hk x) hj

theorem set3_ft {F : Nat → Prop} {W w : World} {a : Addr} (h : FT F W w) (ha : F a.block) (k : Nat) (x : It) : FT F W (set3 w a k x) := by
  have q : F (a.add (k * 3)).block := by rw [add_block]; exact ha
  unfold set3
  exact ((h.set (a := a.add (k * 3)) q _).set (a := ⟨(a.add (k * 3)).block, (a.add (k * 3)).off + 1, none⟩) q _).set (a := ⟨(a.add (k * 3)).block, (a.add (k * 3)).off + 2, none⟩) q _
/-- What two items' region leaves. -/
theorem sw_own {w : World} {T : TypeId} {B n c : Nat} {a : Addr} {l : List It} (h : OwnI w T B (some a) n c l) {i k : Nat} (hi : i < n) (hk : k < n) : OwnI (set3 (set3 w a i (gt l k)) a k (gt l i)) T B (some a) n c (sw l i k) :=
  set3_own (set3_own h hi _) hk _

theorem sw_world {w : World} {N b c sz n : Nat} {a : Addr} {l : List It} {B i k : Nat} {D : DataW Unit} (O : OwnI w 55 0 (some a) n c l) (hi : i < n) (hk : k < n) (bk : w.heap[N]? = some (.cells (hpC sz n c b (some a)) 67 (0, 0)))
    (hB : ExB w B N) (MD : MapP w b n D) (NA : a.block ≠ N) (BA : a.block ≠ B) (BA2 : a.block ≠ b) :
    (set3 (set3 w a i (gt l k)) a k (gt l i)).drew.heap[N]? = some (.cells (hpC sz n c b (some a)) 67 (0, 0)) ∧ ExB (set3 (set3 w a i (gt l k)) a k (gt l i)).drew B N ∧ OwnI (set3 (set3 w a i (gt l k)) a k (gt l i)).drew 55 0 (some a) n c (sw l i k) ∧
    MapP (set3 (set3 w a i (gt l k)) a k (gt l i)).drew b n D ∧ FT (HF N b (some a)) w (set3 (set3 w a i (gt l k)) a k (gt l i)).drew := by
  have S := sw_own O hi hk
  have FA : HF N b (some a) a.block := .inr (.inr ⟨a, rfl, rfl⟩)
  have T : FT (HF N b (some a)) w (set3 (set3 w a i (gt l k)) a k (gt l i)) := set3_ft (set3_ft (FT.of_below (Below.refl _ _)) FA i _) FA k _
  have e : ∀ K, K ≠ a.block → (set3 (set3 w a i (gt l k)) a k (gt l i)).heap[K]? = w.heap[K]? := fun K hK => (set3_other _ a k (gt l i) hK).trans (set3_other w a i (gt l k) hK)
  generalize set3 (set3 w a i (gt l k)) a k (gt l i) = v at *
  exact ⟨(e N (Ne.symm NA)).trans bk, (e B (Ne.symm BA)).trans hB, S.below (Below.refl _ _).drew, MD.same (e b (Ne.symm BA2)), T.drew⟩

set_option maxHeartbeats 8000000 in
theorem pswap13 (w : World) (N b c sz : Nat) (a : Addr) (l : List It) (B i k : Nat) (h : PHp w N b (some a) c sz l) (hB : ExB w B N) (nB : ¬ HF N b (some a) B) (hi : i < l.length) (hk : k < l.length) :
    Calls Try.prog 36 #[.int .i64 (i : Nat), .int .i64 (k : Nat), .pointer (some ⟨B, 0, none⟩)] w fun e w' => e = .returned (.tuple #[]) ∧ PQ w N b (some a) c sz (sw l i k) w' := by
  have HH := Lib.hid h
  obtain ⟨n, hn⟩ : ∃ n, l.length = n := ⟨_, rfl⟩
  have fit := h.fit
  have c0 := blk_cell (o := 0) hB
  have c1 := h.c1
  have O := h.o
  rw [hn] at fit hi hk c1 O
  have HI := Lib.hid hi
  have HK := Lib.hid hk
  have HN := Lib.hid hn
  have OO := Lib.hid O
  obtain ⟨x0, x1, x2⟩ := own_at O hi
  obtain ⟨y0, y1, y2⟩ := own_at O hk
  have AA := Lib.hid (set3_own O hi (gt l k))
  obtain ⟨z0, z1, z2⟩ := own_at AA.out hk
  obtain ⟨f0, f1, f2⟩ := own_free O i
  obtain ⟨g0, g1, g2⟩ := own_free AA.out k
  obtain ⟨s1, s2⟩ := set3_mid x1 x2 (.int .u64 ((gt l k).id : Nat)) (.int .u64 ((gt l k).seq : Nat))
  obtain ⟨t1, t2⟩ := set3_mid z1 z2 (.int .u64 ((gt l i).id : Nat)) (.int .u64 ((gt l i).seq : Nat))
  have SO := Lib.hid (sw_own O hi hk)
  have i0 : (0 : Int) ≤ (i : Int) := by omega
  have k0 : (0 : Int) ≤ (k : Int) := by omega
  have iN : (i : Int) < (n : Int) := by omega
  have kN : (k : Int) < (n : Int) := by omega
  unfold set3 at AA SO z0 z1 z2 g0 g1 g2 t1 t2
  clear AA
  obtain ⟨D, MD, PD⟩ := h.m
  rw [hn] at MD
  have FN : HF N b (some a) N := .inl rfl
  have FA : HF N b (some a) a.block := .inr (.inr ⟨a, rfl, rfl⟩)
  have NA : N ≠ a.block := Ne.symm (h.far a rfl)
  have BA : B ≠ a.block := fun e => nB (e ▸ FA)
  have BA2 : b ≠ a.block := Ne.symm (h.ab rfl)
  have NB : N ≠ b := h.nb
  have BN : B ≠ N := fun e => nB (e ▸ FN)
  have BB : B ≠ b := fun e => nB (e ▸ (.inr (.inl rfl)))
  have bk := h.bk
  rw [hn] at bk
  -- behind the row's two stores
  have W1 := Lib.hid (sw_world O hi hk bk hB MD (h.far a rfl) (Ne.symm BA) (h.ab rfl))
  unfold set3 at W1
  have ln : (sw l i k).length = n := by rw [sw_len]; exact hn
  have PD2 := Lib.hid (PD.swap h.nod (by rw [hn]; exact hi) (by rw [hn]; exact hk))
  have IW := Lib.hid (h.oks)
  have FIN : Hid (∀ w' D', w'.heap[N]? = some (.cells (hpC sz n c b (some a)) 67 (0, 0)) → OwnI w' 55 0 (some a) n c (sw l i k) → MapP w' b (n + 1 + 1) D' → D' = (D.put (kq (gt (sw l i k) i).id) (dk i)).put (kq (gt (sw l i k) k).id) (dk k) → FT (HF N b (some a)) w w' → PQ w N b (some a) c sz (sw l i k) w') := by
    intro w' D' e1 e2 e3 e4 e5
    subst e4
    have PD2 := PD2.out
    have t := e3.tight
    rw [PD2.size] at t
    exact ⟨⟨by rw [ln]; exact e1, by rw [ln]; exact e2, ⟨_, t, PD2⟩, HH.out.far, HH.out.pos, by rw [ln, ← hn]; exact HH.out.fit, fun x hx => HH.out.oks x ((sw_perm (by rw [hn]; exact HI.out) (by rw [hn]; exact HK.out)).mem_iff.1 hx), Nod.perm (sw_perm (by rw [hn]; exact HI.out) (by rw [hn]; exact HK.out)).symm HH.out.nod⟩, e5⟩
  have OKI : Hid ((gt (sw l i k) i).id < 18446744073709551616 ∧ (gt (sw l i k) k).id < 18446744073709551616) := by
    have q := fun j (hj : j < n) => (HH.out.oks _ ((sw_perm (l := l) (i := i) (k := k) (by rw [hn]; exact hi) (by rw [hn]; exact hk)).mem_iff.1 (gt_mem (l := sw l i k) (k := j) (by rw [ln]; exact hj)))).a
    exact ⟨q i hi, q k hk⟩
  have NM : Hid (n + 1 < maxLen) := by unfold Hid maxLen; omega
  have RI : Hid (RP (.int .i64 (i : Nat)) = some (dk i, [])) := RP_mk _
  have RK : Hid (RP (.int .i64 (k : Nat)) = some (dk k, [])) := RP_mk _
  have NE := Lib.hid (And.intro BB (And.intro NB BA2))
  generalize gt l i = x at *
  generalize gt l k = y at *
  obtain ⟨xi, xs, xt⟩ := x
  obtain ⟨yi, ys, yt⟩ := y
  generalize sw l i k = m at *
  dsimp only at *
  clear HH h hB nB hi hk hn fit O OO MD PD FN FA NA BA BA2 NB BN BB bk PD2 IW HN SO HI HK
  simp only [List.getElem?_toArray, List.getElem?_cons_zero] at c0
  generalize gt (l.set i { id := yi, seq := ys, t := yt }) k = z at *
  obtain ⟨zi, zs, zt⟩ := z
  dsimp only at z0 z1 z2 t1 t2
  go_enter Try.func36, Try.ntmps36
  go_upto_region 0 with (fail)
  go_cut [30] (fun _ wx => Hid (wx.heap[N]? = some (.cells (hpC sz n c b (some a)) 67 (0, 0)) ∧ ExB wx B N ∧ OwnI wx 55 0 (some a) n c m ∧ MapP wx b n D ∧ FT (HF N b (some a)) w wx))
  case first =>
    go_wp2_with fail
    go_region
    go_wp2_with fail
    go_meet
    exact W1.out
  clear W1 z0 z1 z2 g0 g1 g2 t1 t2 s1 s2 f0 f1 f2 x0 x1 x2 y0 y1 y2 c0 c1
  obtain ⟨bk, hB, O, MD, T⟩ := hcut.out
  clear hcut
  have c0 : wc.cell? ⟨B, 0, none⟩ = some (.pointer (some ⟨N, 0, none⟩)) := blk_cell hB
  have c1 : wc.cell? ⟨N, 1, none⟩ = some (.slice (some a) n c) := blk_cell bk
  have c2 : wc.cell? ⟨N, 2, none⟩ = some (.map (some b)) := blk_cell bk
  obtain ⟨x0, -, -⟩ := own_at O (k := i) (by omega)
  have S1 := Lib.hid (And.intro bk (And.intro hB (And.intro O (And.intro MD T))))
  have KI := Lib.hid (kq_of OKI.out.1)
  have KK := Lib.hid (kq_of OKI.out.2)
  clear bk hB O MD T
  obtain ⟨y, hy⟩ : ∃ y, gt m k = y := ⟨_, rfl⟩
  have YK := Lib.hid hy
  rw [hy] at FIN OKI KK
  clear hy
  generalize gt m i = x at *
  obtain ⟨xi, xs, xt⟩ := x
  obtain ⟨yi, ys, yt⟩ := y
  dsimp only at x0 KI KK FIN OKI
  go_wp2_with fail
  go_still_tail 13, (by kernel_rfl)
  change wpList _ _ _ _ _ wc.drew
  refine wpList_mapUpdate_in _ rfl _ _ _ 64 rfl 28 3 law64 Try.underlying64 RP b n _ rfl (World.ownsMap.drew S1.out.2.2.2.1) (by have := NM.out; omega) _ _ _ rfl rfl KI.out _ [] RI.out ?_
  intro w1 m1 u1
  have S2 : Hid (w1.heap[N]? = some (.cells (hpC sz n c b (some a)) 67 (0, 0)) ∧ ExB w1 B N ∧ OwnI w1 55 0 (some a) n c m ∧ MapP w1 b (n + 1) (D.put (kq xi) (dk i)) ∧ FT (HF N b (some a)) w w1) := by
    obtain ⟨bk, hB, O, MD, T⟩ := S1.out
    have g := u1.grown
    have e : ∀ K o, K ≠ b → wc.heap[K]? = some o → w1.heap[K]? = some o := fun K o hK h => (g.block K (Array.getElem?_eq_some_iff.1 (show wc.drew.heap[K]? = some o from h)).1 (fun e => by injection e with e; exact hK e)).trans h
    refine ⟨e N _ NE.out.2.1 bk, e B _ NE.out.1 hB, O.keep fun a' ha => ?_, m1, (T.drew).grown g fun k hk => by injection hk with hk; exact .inr (.inl hk.symm)⟩
    injection ha with ha
    subst ha
    obtain ⟨-, cur, hg⟩ := own_base0 O
    rw [hg]
    exact e _ _ (Ne.symm NE.out.2.2) hg
  clear m1 u1 c0 c1 c2 x0 S1
  go_wp2_with fail
  obtain ⟨bk, hB, O, MD, T⟩ := S2.out
  have c0 : w1.cell? ⟨B, 0, none⟩ = some (.pointer (some ⟨N, 0, none⟩)) := blk_cell hB
  have c1 : w1.cell? ⟨N, 1, none⟩ = some (.slice (some a) n c) := blk_cell bk
  have c2 : w1.cell? ⟨N, 2, none⟩ = some (.map (some b)) := blk_cell bk
  obtain ⟨y0, -, -⟩ := own_at O (k := k) (by omega)
  rw [YK.out] at y0
  dsimp only at y0
  clear bk hB O MD T
  go_still_tail 13, (by kernel_rfl)
  change wpList _ _ _ _ _ w1.drew
  refine wpList_mapUpdate_in _ rfl _ _ _ 64 rfl 28 3 law64 Try.underlying64 RP b (n + 1) _ rfl (World.ownsMap.drew S2.out.2.2.2.1) (by have := NM.out; omega) _ _ _ rfl rfl KK.out _ [] RK.out ?_
  intro w2 m2 u2
  have F2 : Hid (PQ w N b (some a) c sz m w2) := by
    obtain ⟨bk, hB, O, MD, T⟩ := S2.out
    have g := u2.grown
    have e : ∀ K o, K ≠ b → w1.heap[K]? = some o → w2.heap[K]? = some o := fun K o hK h => (g.block K (Array.getElem?_eq_some_iff.1 (show w1.drew.heap[K]? = some o from h)).1 (fun e => by injection e with e; exact hK e)).trans h
    refine FIN.out w2 _ (e N _ NE.out.2.1 bk) (O.keep fun a' ha => ?_) m2 rfl ((T.drew).grown g fun k hk => by injection hk with hk; exact .inr (.inl hk.symm))
    injection ha with ha
    subst ha
    obtain ⟨-, cur, hg⟩ := own_base0 O
    rw [hg]
    exact e _ _ (Ne.symm NE.out.2.2) hg
  clear m2 u2 c0 c1 c2 y0
  go_wp2
  go_end0
  exact ⟨rfl, F2.out⟩
end Go.Proofs.Ytbfmmeapjfljbaa

