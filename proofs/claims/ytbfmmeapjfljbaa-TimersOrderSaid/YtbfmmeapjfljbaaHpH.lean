/- Layer 13 (heap), the program's own: Set. -/
import Derived.Test.YtbfmmeapjfljbaaHpG
set_option maxRecDepth 100000
namespace Go.Proofs.Ytbfmmeapjfljbaa
open Go.ChangeShapes Go.WideShapes Go.ChangeAt Go.RowKit Go.Maps HeapM

theorem PHp.adr {w : World} {N b c sz : Nat} {p : Option Addr} {l : List It} (h : PHp w N b p c sz l) (hn : 0 < l.length) : ∃ a, p = some a := by
  obtain ⟨g, -, e, -⟩ := h.o.blk hn
  exact ⟨_, e⟩
theorem PHp.setItem {w : World} {N b c sz k : Nat} {a : Addr} {l : List It} (h : PHp w N b (some a) c sz l) (hk : k < l.length) (x : It) (hx : ItOk x) (e : x.id = (gt l k).id) : PQ w N b (some a) c sz (l.set k x) (set3 w a k x).drew := by
  have O := set3_own h.o hk x
  have T : FT (HF N b (some a)) w (set3 w a k x) := set3_ft (FT.of_below (Below.refl _ _)) (.inr (.inr ⟨a, rfl, rfl⟩)) k x
  have o : ∀ K, K ≠ a.block → (set3 w a k x).heap[K]? = w.heap[K]? := fun K hK => set3_other w a k x hK
  have NA := Ne.symm (h.far a rfl)
  have BA := Ne.symm (h.ab rfl)
  generalize set3 w a k x = v at *
  obtain ⟨D, m, d⟩ := h.m
  refine ⟨⟨by rw [List.length_set]; exact (o N NA).trans h.bk, by rw [List.length_set]; exact O.below (Below.refl _ _).drew, ⟨D, by rw [List.length_set]; exact m.same (o b BA), d.set hk e⟩, h.far, h.pos, by rw [List.length_set]; exact h.fit, fun y hy => ?_, nod_set h.nod hk e⟩, T.drew⟩
  rcases List.mem_or_eq_of_mem_set hy with q | q
  · exact h.oks y q
  · rw [q]; exact hx

set_option maxHeartbeats 4000000 in
theorem pset13 (w : World) (N b : Nat) (p : Option Addr) (c sz : Nat) (l : List It) (x : It) (h : PHp w N b p c sz l) (hx : ItOk x) :
    Calls Try.prog 27 #[.pointer (some ⟨N, 0, none⟩), itV x] w fun e w' => e = .returned (.int .i64 (setE l x)) ∧ PR w N b p sz (setR l x) w' := by
  have AL : Below w.heap.size w (w.alloc (.cells (itC x) 55)) := (Below.refl _ _).alloc (Nat.le_refl _) _
  have BX : Hid ((w.alloc (.cells (itC x) 55)).heap[w.heap.size]? = some (.cells (itC x) 55 (0, 0))) := heap_alloc_new _ _
  have H1 := Lib.hid (h.below AL)
  have L1 := Lib.hid AL
  have H0 := Lib.hid h
  have LT := Lib.hid h.lt
  have OKX := Lib.hid hx
  clear h AL
  cases hp : place l x.id with
  | none =>
    have F : Hid (∀ w', Below w.heap.size w w' → Ending.returned (.int .i64 6) = .returned (.int .i64 (setE l x)) ∧ PR w N b p sz (setR l x) w') := fun w' b => by
      rw [(set_none hp).1, (set_none hp).2]
      exact ⟨rfl, PR.same H0.out b⟩
    have PL := Lib.hid (pplace13_none H1.out OKX.out.a hp)
    obtain ⟨xi, xs, xt⟩ := x
    unfold itC at BX L1 PL
    unfold itV
    dsimp only at BX L1 PL ⊢
    have x0 := blk_cell (o := 0) BX.out
    simp only [List.getElem?_toArray, List.getElem?_cons_zero] at x0
    clear hp H1 H0 LT OKX BX
    go_enter Try.func27, Try.ntmps27
    go_wp2_with (go_at_call 34; refine PL.out.mono ?_; rintro e w1 ⟨rfl, rfl⟩)
    go_ret
    exact F.out _ L1.out
  | some k =>
    obtain ⟨hk, hid⟩ := place_some hp
    obtain ⟨a, rfl⟩ := H0.out.adr (by omega)
    have F : Hid (∀ w1, Below w.heap.size w w1 → ∀ w2, PQ w1 N b (some a) c sz (l.set k x) w2 → ∀ w3, PQ w2 N b (some a) c sz (settleL (l.set k x) k) w3 → Ending.returned (.int .i64 0) = .returned (.int .i64 (setE l x)) ∧ PR w N b (some a) sz (setR l x) w3) := fun w1 b1 w2 q2 w3 q3 => by
      rw [(set_some hp).1, (set_some hp).2]
      have q4 := q2.next q3
      exact ⟨rfl, _, _, q4.1, (FT.of_below b1).trans q4.2 fun M hM => .inl hM, .inl rfl⟩
    have PL := Lib.hid (pplace13_some H1.out OKX.out.a hp)
    have SI := Lib.hid (H1.out.setItem hk x OKX.out (show x.id = (gt l k).id from hid.symm))
    have c1 := H1.out.c1
    obtain ⟨y0, y1, y2⟩ := own_at H1.out.o hk
    obtain ⟨f0, f1, f2⟩ := own_free H1.out.o k
    obtain ⟨s1, s2⟩ := set3_mid y1 y2 (.int .u64 (x.id : Nat)) (.int .u64 (x.seq : Nat))
    have HK : Hid (k < (l.set k x).length) := by unfold Hid; rw [List.length_set]; exact hk
    obtain ⟨n, hn⟩ : ∃ n, l.length = n := ⟨_, rfl⟩
    rw [hn] at c1
    have kn : (k : Int) < (n : Int) := by omega
    have k0 : (0 : Int) ≤ (k : Int) := by omega
    unfold set3 at SI
    generalize gt l k = y at *
    obtain ⟨yi, ys, yt⟩ := y
    generalize l.set k x = m at *
    obtain ⟨xi, xs, xt⟩ := x
    unfold itC at BX L1 PL SI c1 y0 y1 y2 f0 f1 f2 s1 s2
    unfold itV
    dsimp only at BX L1 PL SI c1 y0 y1 y2 f0 f1 f2 s1 s2 ⊢
    have x0 := blk_cell (o := 0) BX.out
    have x1 := blk_cell (o := 1) BX.out
    have x2 := blk_cell (o := 2) BX.out
    simp only [List.getElem?_toArray, List.getElem?_cons_zero, List.getElem?_cons_succ] at x0 x1 x2
    clear hp H1 H0 LT OKX BX hn hk hid hx
    go_enter Try.func27, Try.ntmps27
    go_wp2_with (go_at_call 34; refine PL.out.mono ?_; rintro e w1 ⟨rfl, rfl⟩)
    generalize w.alloc (.cells #[.int .u64 (xi : Nat), .int .u64 (xs : Nat), .int .i64 xt] 55) = v at *
    go_region
    generalize (((v.setCell (a.add (k * 3)) (.int .u64 (xi : Nat))).setCell ⟨(a.add (k * 3)).block, (a.add (k * 3)).off + 1, none⟩ (.int .u64 (xs : Nat))).setCell ⟨(a.add (k * 3)).block, (a.add (k * 3)).off + 2, none⟩ (.int .i64 xt)).drew = v2 at *
    have ST := Lib.hid (psettle13 v2 N b c sz a m k SI.out.1 HK.out)
    clear x0 x1 x2 c1 y0 y1 y2 f0 f1 f2 s1 s2 PL
    go_wp2_with (go_at_call 35; refine ST.out.mono ?_; rintro e w3 ⟨rfl, q3⟩; have GG := Lib.hid (F.out _ L1.out _ SI.out _ q3); clear q3 ST F SI)
    go_ret
    exact GG.out
end Go.Proofs.Ytbfmmeapjfljbaa

