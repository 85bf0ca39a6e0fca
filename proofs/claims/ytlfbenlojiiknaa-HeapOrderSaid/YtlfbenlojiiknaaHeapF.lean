/- Layer 13 (heap), the document's own: Set. -/
import Derived.Test.YtlfbenlojiiknaaHeapE
set_option maxRecDepth 100000
namespace Go.Proofs.Ytlfbenlojiiknaa
open Go.ChangeShapes Go.WideShapes Go.ChangeAt Go.RowKit HeapM

theorem placeI_some {l : List It} {d k : Nat} (h : place l d = some k) : placeI l d = (k : Nat) := by unfold placeI; rw [h]
theorem placeI_none {l : List It} {d : Nat} (h : place l d = none) : placeI l d = -1 := by unfold placeI; rw [h]

/-- What Set tells, and what it makes. -/
def setE (l : List It) (x : It) : Int := if (place l x.id).isSome then 0 else 6
def setR (l : List It) (x : It) : List It := match place l x.id with | some k => setL l k x | none => l
theorem set_none {l : List It} {x : It} (h : place l x.id = none) : setE l x = 6 ∧ setR l x = l := by unfold setE setR; rw [h]; exact ⟨rfl, rfl⟩
theorem set_some {l : List It} {x : It} {k : Nat} (h : place l x.id = some k) : setE l x = 0 ∧ setR l x = setL l k x := by unfold setE setR; rw [h]; exact ⟨rfl, rfl⟩

/-- The end that Set and Remove share: up, and, if it did not, down. -/
theorem settle_up {l : List It} {k : Nat} (h : upB l k = true) : settleL l k = upL l k := by unfold settleL; rw [if_pos h]
theorem settle_down {l : List It} {k : Nat} (h : upB l k = false) : settleL l k = downL l k ∧ upL l k = l := ⟨by unfold settleL; rw [if_neg (by rw [h]; decide)], upL_stay h⟩
theorem RHp.row {w : World} {M c : Nat} {p : Option Addr} {sz : Int} {l : List It} (h : RHp w M p c sz l) (hn : 0 < l.length) : ∃ a, p = some a := by
  obtain ⟨g, cur, e, -⟩ := h.o.blk hn
  exact ⟨_, e⟩

set_option maxHeartbeats 4000000 in
theorem rset13_any (w : World) (M : Nat) (p : Option Addr) (c : Nat) (sz : Int) (l : List It) (x : It) (h : RHp w M p c sz l) :
    Calls Try.prog 16 #[.pointer (some ⟨M, 0, none⟩), itV x] w (RPushP w M p sz (setR l x) (setE l x)) := by
  have AL : Below w.heap.size w (w.alloc (.cells (itC x) 38)) := (Below.refl _ _).alloc (Nat.le_refl _) _
  have BX : Hid ((w.alloc (.cells (itC x) 38)).heap[w.heap.size]? = some (.cells (itC x) 38 (0, 0))) := heap_alloc_new _ _
  have H1 := Lib.hid (h.below AL)
  have PL := Lib.hid (rplace13_any _ M p c sz l x.id (h.below AL))
  have L1 := Lib.hid AL
  have fit := h.fit
  have H0 := Lib.hid h
  clear h AL
  cases hp : place l x.id with
  | none =>
    have F : Hid (∀ w', Below w.heap.size w w' → RPushP w M p sz (setR l x) (setE l x) (.returned (.int .i64 6)) w') := fun w' b => by
      rw [(set_none hp).1, (set_none hp).2]
      exact ⟨rfl, RHpP.same H0.out b⟩
    rw [placeI_none hp] at PL
    obtain ⟨xi, xs, xt⟩ := x
    unfold itC at BX L1 PL
    unfold itV
    dsimp only at BX L1 PL ⊢
    have x0 := blk_cell (o := 0) BX.out
    simp only [List.getElem?_toArray, List.getElem?_cons_zero] at x0
    clear hp H1 H0 fit
    go_enter Try.func16, Try.ntmps16
    go_wp2_with fail
    refine PL.out.mono ?_; rintro e w1 ⟨rfl, rfl⟩
    go_wp2
    go_ret
    exact F.out _ L1.out
  | some k =>
    have pk := place_some hp
    obtain ⟨a, rfl⟩ := H0.out.row (by omega)
    have F : Hid (∀ w', RHpP w M (some a) sz (setL l k x) w' → RPushP w M (some a) sz (setR l x) (setE l x) (.returned (.int .i64 0)) w') := fun w' b => by
      rw [(set_some hp).1, (set_some hp).2]
      exact ⟨rfl, b⟩
    rw [placeI_some hp] at PL
    obtain ⟨n, hn⟩ : ∃ n, l.length = n := ⟨_, rfl⟩
    have HN := Lib.hid hn
    rw [hn] at fit
    have k0 : (0 : Int) ≤ (k : Int) := by omega
    have kn : (k : Int) < (n : Int) := by have := pk.1; omega
    have KL : Hid (k < l.length) := pk.1
    have c0 := blk_cell (o := 0) H1.out.b
    rw [hn] at c0
    simp only [List.getElem?_toArray, List.getElem?_cons_zero] at c0
    obtain ⟨q1, q2, q3⟩ := own_at H1.out.o KL.out
    obtain ⟨f0, f1, f2⟩ := own_free H1.out.o k
    have HS := Lib.hid (H1.out.set KL.out x)
    have TS := Lib.hid (set3_turn H1.out.o k x (Turn.of_below (N := a.block) L1.out))
    have LL := Lib.hid (show (l.set k x).length = l.length by simp)
    have SE : Hid (setL l k x = settleL (l.set k x) k) := rfl
    obtain ⟨xi, xs, xt⟩ := x
    obtain ⟨s1, s2⟩ := set3_mid q2 q3 (.int .u64 (xi : Nat)) (.int .u64 (xs : Nat))
    unfold itC at BX L1 PL c0 q1 q2 q3 f0 f1 f2 s1 s2 HS TS
    unfold itV
    unfold set3 at HS TS
    dsimp only at BX L1 PL c0 q1 q2 q3 f0 f1 f2 s1 s2 HS TS ⊢
    have x0 := blk_cell (o := 0) BX.out
    have x1 := blk_cell (o := 1) BX.out
    have x2 := blk_cell (o := 2) BX.out
    simp only [List.getElem?_toArray, List.getElem?_cons_zero, List.getElem?_cons_succ] at x0 x1 x2
    obtain ⟨m, hm⟩ : ∃ m, l.set k ⟨xi, xs, xt⟩ = m := ⟨_, rfl⟩
    rw [hm] at HS LL SE
    have KM : Hid (k < m.length) := by unfold Hid; rw [LL.out]; exact KL.out
    clear hp hn hm pk H1 H0
    go_enter Try.func16, Try.ntmps16
    go_wp2_with fail
    refine PL.out.mono ?_; rintro e w1 ⟨rfl, rfl⟩
    go_wp2_with fail
    go_region
    have HS2 := Lib.hid (HS.out.below (Below.refl _ _).drew)
    have TS2 := Lib.hid TS.out.drew
    clear PL L1 BX x0 x1 x2 q1 q2 q3 f0 f1 f2 s1 s2 c0 HS TS
    generalize (((((w.alloc (.cells #[.int .u64 (xi : Nat), .int .u64 (xs : Nat), .int .i64 xt] 38)).setCell (a.add (k * 3)) (.int .u64 (xi : Nat))).setCell ⟨(a.add (k * 3)).block, (a.add (k * 3)).off + 1, none⟩ (.int .u64 (xs : Nat))).setCell ⟨(a.add (k * 3)).block, (a.add (k * 3)).off + 2, none⟩ (.int .i64 xt)).drew) = v at *
    have UP := Lib.hid (rup13_any v M a c sz m k HS2.out KM.out)
    obtain ⟨ub, hub⟩ : ∃ b, upB m k = b := ⟨_, rfl⟩
    have HU := Lib.hid hub
    rw [hub] at UP
    clear hub
    go_wp2_with fail
    refine UP.out.mono ?_; rintro e w2 ⟨rfl, r2, t2⟩
    have R2 := Lib.hid r2
    have T2 := Lib.hid (TS2.out.trans t2)
    clear r2 t2 UP HS2 TS2
    cases ub
    · rw [(settle_down HU.out).2] at R2
      rw [(settle_down HU.out).1] at SE
      have DN := Lib.hid (rdown13_any w2 M a c sz m k R2.out KM.out)
      go_wp2_with fail
      refine DN.out.mono ?_; rintro e w3 ⟨rfl, r3, t3⟩
      have GG := Lib.hid (F.out w3 ⟨some a, c, by rw [SE.out]; exact r3, HTurn.of_turn (T2.out.trans t3), .inl rfl⟩)
      clear r3 t3 F
      go_wp2
      go_ret
      exact GG.out
    · rw [settle_up HU.out] at SE
      have GG := Lib.hid (F.out w2 ⟨some a, c, by rw [SE.out]; exact R2.out, HTurn.of_turn T2.out, .inl rfl⟩)
      clear F
      go_wp2
      go_ret
      exact GG.out
end Go.Proofs.Ytlfbenlojiiknaa
