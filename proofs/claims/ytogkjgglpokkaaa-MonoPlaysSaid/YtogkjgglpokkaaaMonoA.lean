/- Layer 11 (mono): what becomes of the program's clock behind a raw delta (after); what it holds (held). -/
import Derived.Test.YtogkjgglpokkaaaMonoM
import Derived.Test.YtogkjgglpokkaaaFixR
import Derived.Test.YtogkjgglpokkaaaSlice
import Derived.Laws.StructEq
import Derived.LoopTactic
import Derived.BigQuiet
import Derived.Deep.RegionHeld3
import Derived.Deep.DeepCutAuto
import Derived.Deep.Heap
set_option maxRecDepth 100000
namespace Go.Proofs.Ytogkjgglpokkaaa
open Go.ChangeShapes Go.WideShapes Go.ChangeAt Go.RowKit MonoM

/-- A clock, as a value and as cells. -/
def moC (x : Mo) : Array Value := #[.bool true, .int .i64 x.raw, .int .i64 x.mono, .int .i64 x.rate, .int .i64 x.rest, .bool x.full]
def moV (x : Mo) : Value := .agg #[.bool true, .int .i64 x.raw, .int .i64 x.mono, .int .i64 x.rate, .int .i64 x.rest, .bool x.full]
/-- In a block lies a clock. -/
def Clk (w : World) (N : Nat) (x : Mo) : Prop := w.heap[N]? = some (.cells (moC x) 49 (0, 0))

theorem two_blocks (w : World) (c d : Array Value) (T U : TypeId) :
    Below w.heap.size w ((w.alloc (.cells c T)).alloc (.cells d U)) ∧ ((w.alloc (.cells c T)).alloc (.cells d U)).heap[w.heap.size]? = some (.cells c T (0, 0)) ∧ ((w.alloc (.cells c T)).alloc (.cells d U)).heap[w.heap.size + 1]? = some (.cells d U (0, 0)) ∧ ((w.alloc (.cells c T)).alloc (.cells d U)).heap.size = w.heap.size + 1 + 1 := by
  have B1 : Below w.heap.size w (w.alloc (.cells c T)) := (Below.refl _ _).alloc (Nat.le_refl _) _
  have C1 : (w.alloc (.cells c T)).heap[w.heap.size]? = some (.cells c T (0, 0)) := heap_alloc_new w _
  have s1 : (w.alloc (.cells c T)).heap.size = w.heap.size + 1 := by simp
  generalize w.alloc (.cells c T) = u at *
  have C2 := heap_alloc_new u (.cells d U)
  rw [s1] at C2
  have B2 : Below u.heap.size u (u.alloc (.cells d U)) := (Below.refl _ _).alloc (Nat.le_refl _) _
  exact ⟨B1.trans (B2.mono B1.size), (B2.block _ (by omega)).trans C1, C2, by simp [s1]⟩

theorem six_set {w : World} {N : Nat} {a b c d e f : Value} {T : TypeId} (h : w.heap[N]? = some (.cells #[a, b, c, d, e, f] T (0, 0))) (x0 x1 x2 x3 x4 x5 : Value) :
    ((((((w.setCell ⟨N, 0, none⟩ x0).setCell ⟨N, 1, none⟩ x1).setCell ⟨N, 2, none⟩ x2).setCell ⟨N, 3, none⟩ x3).setCell ⟨N, 4, none⟩ x4).setCell ⟨N, 5, none⟩ x5).heap[N]? = some (.cells #[x0, x1, x2, x3, x4, x5] T (0, 0)) :=
  blk_set (blk_set (blk_set (blk_set (blk_set (blk_set h)))))

theorem three_other (w : World) {N M : Nat} (h : M ≠ N) (o1 o2 o3 : Nat) (a b c : Value) : (((w.setCell ⟨N, o1, none⟩ a).setCell ⟨N, o2, none⟩ b).setCell ⟨N, o3, none⟩ c).heap[M]? = w.heap[M]? :=
  (Go.Deep.blk_setCell_other _ _ _ _ h).trans ((Go.Deep.blk_setCell_other _ _ _ _ h).trans (Go.Deep.blk_setCell_other _ _ _ _ h))

/-- What becomes of a clock, as a value. -/
def AfterP11 (w : World) (raw mono rate rest : Int) (full : Bool) (e : Ending) (w' : World) : Prop :=
  e = .returned (.agg #[.bool true, .int .i64 raw, .int .i64 mono, .int .i64 rate, .int .i64 rest, .bool full]) ∧ Below w.heap.size w w'

/-- Numbers that the walk asks. -/
structure AftN (raw mono rate rest d s P S T o k r a1 a2 m u : Int) : Prop where
  eP : wrap64 (d * rate) = P
  eS : wrap64 (s * 1000000000) = S
  eT : wrap64 (P - S) = T
  eo : wrap64 (T + rest) = o
  o0 : 0 ≤ o
  o1 : o < 2000000000
  ek : o / 1000000000 = k
  er : o % 1000000000 = r
  ea1 : d + s = a1
  ea2 : a1 + k = a2
  em : mono + a2 = m
  eu : raw + d = u
  b1 : I64 a1
  b2 : I64 a2
  bm : I64 m
  bu : I64 u

set_option maxHeartbeats 4000000 in
theorem pafter11_core (w : World) (raw mono rate rest d s P S T o k r a1 a2 m u : Int) (f1 f2 : Bool)
    (MD : ∀ w, Calls Try.prog 28 #[.int .i64 d, .int .i64 rate, .int .i64 1000000000] w fun e w' => e = .returned (.tuple #[.int .i64 s, .int .i64 0]) ∧ Out w w')
    (H : AftN raw mono rate rest d s P S T o k r a1 a2 m u) (h1 : decide (4611686018427387904 < m) = f1) (h2 : decide (4611686018427387904 < u) = f2) :
    Calls Try.prog 24 #[.agg #[.bool true, .int .i64 raw, .int .i64 mono, .int .i64 rate, .int .i64 rest, .bool false], .int .i64 d] w (AfterP11 w (min u 4611686018427387904) (min m 4611686018427387904) rate r (f1 || f2)) := by
  obtain ⟨eP, eS, eT, eo, o0, o1, ek, er, ea1, ea2, em, eu, b1, b2, bm, bu⟩ := H
  have w1 : wrap64 a1 = a1 := by unfold I64 at b1; unfold wrap64; omega
  have w2 : wrap64 a2 = a2 := by unfold I64 at b2; unfold wrap64; omega
  have w3 : wrap64 m = m := by unfold I64 at bm; unfold wrap64; omega
  have w4 : wrap64 u = u := by unfold I64 at bu; unfold wrap64; omega
  have v1 : IntKind.i64.wrap a1 = a1 := by rw [IntKind.wrap_i64]; unfold I64 at b1; omega
  have v2 : IntKind.i64.wrap a2 = a2 := by rw [IntKind.wrap_i64]; unfold I64 at b2; omega
  have v3 : IntKind.i64.wrap m = m := by rw [IntKind.wrap_i64]; unfold I64 at bm; omega
  have v4 : IntKind.i64.wrap u = u := by rw [IntKind.wrap_i64]; unfold I64 at bu; omega
  have w5 : wrap64 k = k := by unfold wrap64; omega
  have w6 : wrap64 r = r := by unfold wrap64; omega
  have kt : o.tdiv 1000000000 = k := by rw [Int.tdiv_eq_ediv_of_nonneg o0]; exact ek
  have rt : o.tmod 1000000000 = r := by rw [Int.tmod_eq_emod_of_nonneg o0]; exact er
  obtain ⟨l0, B1, B2, -⟩ := two_blocks w #[.bool true, .int .i64 raw, .int .i64 mono, .int .i64 rate, .int .i64 rest, .bool false] #[.bool false, .int .i64 0, .int .i64 0, .int .i64 0, .int .i64 0, .bool false] 49 49
  have MDH := Lib.hid MD
  have c3 := blk_cell (o := 3) B1
  have c5 := blk_cell (o := 5) B1
  simp only [List.getElem?_toArray, List.getElem?_cons_zero, List.getElem?_cons_succ] at c3 c5
  clear MD b1 b2 bm bu
  go_enter Try.func24, Try.ntmps24
  go_wp2_with fail
  refine (MDH.out _).mono ?_; rintro e v ⟨rfl, ho⟩
  have K1 : Hid (v.heap[w.heap.size]? = some (.cells #[.bool true, .int .i64 raw, .int .i64 mono, .int .i64 rate, .int .i64 rest, .bool false] 49 (0, 0))) := (ho.b.block _ (Array.getElem?_eq_some_iff.1 B1).1).trans B1
  have K2 : Hid (v.heap[w.heap.size + 1]? = some (.cells #[.bool false, .int .i64 0, .int .i64 0, .int .i64 0, .int .i64 0, .bool false] 49 (0, 0))) := (ho.b.block _ (Array.getElem?_eq_some_iff.1 B2).1).trans B2
  have LV : Hid (Below w.heap.size w v) := l0.trans (ho.b.mono l0.size)
  clear c3 c5 MDH l0 B1 B2 ho ek er
  have C0 := blk_cell (o := 0) K1.out
  have C1 := blk_cell (o := 1) K1.out
  have C2 := blk_cell (o := 2) K1.out
  have C3 := blk_cell (o := 3) K1.out
  have C4 := blk_cell (o := 4) K1.out
  have C5 := blk_cell (o := 5) K1.out
  have F1 := blk_free (o := 1) K1.out
  have F2 := blk_free (o := 2) K1.out
  have F4 := blk_free (o := 4) K1.out
  simp only [List.getElem?_toArray, List.getElem?_cons_zero, List.getElem?_cons_succ] at C0 C1 C2 C3 C4 C5
  go_upto_region 5 with (fail)
  simp only [eP, eS, eT, eo]
  clear eP eS eT eo
  go_upto_region 8 with (fail)
  have KB : Hid ((((v.setCell ⟨w.heap.size, 2, none⟩ (.int .i64 m)).setCell ⟨w.heap.size, 4, none⟩ (.int .i64 r)).setCell ⟨w.heap.size, 1, none⟩ (.int .i64 u)).heap[w.heap.size]? = some (.cells #[.bool true, .int .i64 u, .int .i64 m, .int .i64 rate, .int .i64 r, .bool false] 49 (0, 0))) := blk_set (blk_set (blk_set K1.out))
  have KC : Hid ((((v.setCell ⟨w.heap.size, 2, none⟩ (.int .i64 m)).setCell ⟨w.heap.size, 4, none⟩ (.int .i64 r)).setCell ⟨w.heap.size, 1, none⟩ (.int .i64 u)).heap[w.heap.size + 1]? = some (.cells #[.bool false, .int .i64 0, .int .i64 0, .int .i64 0, .int .i64 0, .bool false] 49 (0, 0))) := (three_other _ (by simp) _ _ _ _ _ _).trans K2.out
  have LC : Hid (Below w.heap.size w (((v.setCell ⟨w.heap.size, 2, none⟩ (.int .i64 m)).setCell ⟨w.heap.size, 4, none⟩ (.int .i64 r)).setCell ⟨w.heap.size, 1, none⟩ (.int .i64 u))) := ((LV.out.setCell (Nat.le_refl _) _).setCell (Nat.le_refl _) _).setCell (Nat.le_refl _) _
  clear C0 C1 C2 C3 C4 C5 F1 F2 F4 K1 K2 LV
  generalize ((v.setCell ⟨w.heap.size, 2, none⟩ (.int .i64 m)).setCell ⟨w.heap.size, 4, none⟩ (.int .i64 r)).setCell ⟨w.heap.size, 1, none⟩ (.int .i64 u) = vb at *
  clear kt rt ea1 ea2 em eu w1 w2 w5 w6
  have C0 := blk_cell (o := 0) KB.out
  have C1 := blk_cell (o := 1) KB.out
  have C2 := blk_cell (o := 2) KB.out
  have C3 := blk_cell (o := 3) KB.out
  have C4 := blk_cell (o := 4) KB.out
  have C5 := blk_cell (o := 5) KB.out
  have F1 := blk_free (o := 1) KB.out
  have F2 := blk_free (o := 2) KB.out
  have F5 := blk_free (o := 5) KB.out
  have E0 := blk_free (o := 0) KC.out
  have E1 := blk_free (o := 1) KC.out
  have E2 := blk_free (o := 2) KC.out
  have E3 := blk_free (o := 3) KC.out
  have E4 := blk_free (o := 4) KC.out
  have E5 := blk_free (o := 5) KC.out
  have D0 := blk_cell (o := 0) KC.out
  have D1 := blk_cell (o := 1) KC.out
  have D2 := blk_cell (o := 2) KC.out
  have D3 := blk_cell (o := 3) KC.out
  have D4 := blk_cell (o := 4) KC.out
  have D5 := blk_cell (o := 5) KC.out
  simp only [List.getElem?_toArray, List.getElem?_cons_zero, List.getElem?_cons_succ] at C0 C1 C2 C3 C4 C5 D0 D1 D2 D3 D4 D5
  obtain ⟨uu, hu⟩ : ∃ a, min u 4611686018427387904 = a := ⟨_, rfl⟩
  obtain ⟨mm, hm⟩ : ∃ a, min m 4611686018427387904 = a := ⟨_, rfl⟩
  rw [hu, hm]
  have FIN : Hid (∀ ff, (((vb.setCell ⟨w.heap.size, 5, none⟩ (.bool ff)).setCell ⟨w.heap.size, 2, none⟩ (.int .i64 mm)).setCell ⟨w.heap.size, 1, none⟩ (.int .i64 uu)).heap[w.heap.size]? = some (.cells #[.bool true, .int .i64 uu, .int .i64 mm, .int .i64 rate, .int .i64 r, .bool ff] 49 (0, 0)) ∧
      (((vb.setCell ⟨w.heap.size, 5, none⟩ (.bool ff)).setCell ⟨w.heap.size, 2, none⟩ (.int .i64 mm)).setCell ⟨w.heap.size, 1, none⟩ (.int .i64 uu)).heap[w.heap.size + 1]? = some (.cells #[.bool false, .int .i64 0, .int .i64 0, .int .i64 0, .int .i64 0, .bool false] 49 (0, 0)) ∧
      Below w.heap.size w ((((vb.setCell ⟨w.heap.size, 5, none⟩ (.bool ff)).setCell ⟨w.heap.size, 2, none⟩ (.int .i64 mm)).setCell ⟨w.heap.size, 1, none⟩ (.int .i64 uu)))) := fun ff =>
    ⟨blk_set (blk_set (blk_set KB.out)), (three_other _ (by simp) _ _ _ _ _ _).trans KC.out, ((LC.out.setCell (Nat.le_refl _) _).setCell (Nat.le_refl _) _).setCell (Nat.le_refl _) _⟩
  clear KB KC LC D0 D1 D2 D3 D4 D5 E0 E1 E2 E3 E4 E5
  cases f1
  · have g1 : m ≤ (4611686018427387904 : Int) := by simpa using h1
    go_upto_region 10 with (fail)
    have FF := Lib.hid (FIN.out f2)
    clear C0 C1 C2 C3 C4 C5 F1 F2 F5 FIN
    generalize ((vb.setCell ⟨w.heap.size, 5, none⟩ (.bool f2)).setCell ⟨w.heap.size, 2, none⟩ (.int .i64 mm)).setCell ⟨w.heap.size, 1, none⟩ (.int .i64 uu) = vd at *
    have C0 := blk_cell (o := 0) FF.out.1
    have C1 := blk_cell (o := 1) FF.out.1
    have C2 := blk_cell (o := 2) FF.out.1
    have C3 := blk_cell (o := 3) FF.out.1
    have C4 := blk_cell (o := 4) FF.out.1
    have C5 := blk_cell (o := 5) FF.out.1
    have E0 := blk_free (o := 0) FF.out.2.1
    have E1 := blk_free (o := 1) FF.out.2.1
    have E2 := blk_free (o := 2) FF.out.2.1
    have E3 := blk_free (o := 3) FF.out.2.1
    have E4 := blk_free (o := 4) FF.out.2.1
    have E5 := blk_free (o := 5) FF.out.2.1
    have D0 := blk_cell (o := 0) FF.out.2.1
    have D1 := blk_cell (o := 1) FF.out.2.1
    have D2 := blk_cell (o := 2) FF.out.2.1
    have D3 := blk_cell (o := 3) FF.out.2.1
    have D4 := blk_cell (o := 4) FF.out.2.1
    have D5 := blk_cell (o := 5) FF.out.2.1
    simp only [List.getElem?_toArray, List.getElem?_cons_zero, List.getElem?_cons_succ] at C0 C1 C2 C3 C4 C5 D0 D1 D2 D3 D4 D5
    go_wp2
    refine bodyPost_ret (results_cell_row rfl _ _ (w.heap.size + 1) _ _ (0, 0) _ rfl (six_set FF.out.2.1 _ _ _ _ _ _) Try.underlying49 rfl (by kernel_rfl)) rfl ?_
    exact ⟨by rw [hu, hm]; rfl, (((((FF.out.2.2.setCell (Nat.le_succ _) _).setCell (Nat.le_succ _) _).setCell (Nat.le_succ _) _).setCell (Nat.le_succ _) _).setCell (Nat.le_succ _) _).setCell (Nat.le_succ _) _⟩
  · have g1 : (4611686018427387904 : Int) < m := by simpa using h1
    go_upto_region 10 with (fail)
    have FF := Lib.hid (FIN.out true)
    clear C0 C1 C2 C3 C4 C5 F1 F2 F5 FIN
    generalize ((vb.setCell ⟨w.heap.size, 5, none⟩ (.bool true)).setCell ⟨w.heap.size, 2, none⟩ (.int .i64 mm)).setCell ⟨w.heap.size, 1, none⟩ (.int .i64 uu) = vd at *
    have C0 := blk_cell (o := 0) FF.out.1
    have C1 := blk_cell (o := 1) FF.out.1
    have C2 := blk_cell (o := 2) FF.out.1
    have C3 := blk_cell (o := 3) FF.out.1
    have C4 := blk_cell (o := 4) FF.out.1
    have C5 := blk_cell (o := 5) FF.out.1
    have E0 := blk_free (o := 0) FF.out.2.1
    have E1 := blk_free (o := 1) FF.out.2.1
    have E2 := blk_free (o := 2) FF.out.2.1
    have E3 := blk_free (o := 3) FF.out.2.1
    have E4 := blk_free (o := 4) FF.out.2.1
    have E5 := blk_free (o := 5) FF.out.2.1
    have D0 := blk_cell (o := 0) FF.out.2.1
    have D1 := blk_cell (o := 1) FF.out.2.1
    have D2 := blk_cell (o := 2) FF.out.2.1
    have D3 := blk_cell (o := 3) FF.out.2.1
    have D4 := blk_cell (o := 4) FF.out.2.1
    have D5 := blk_cell (o := 5) FF.out.2.1
    simp only [List.getElem?_toArray, List.getElem?_cons_zero, List.getElem?_cons_succ] at C0 C1 C2 C3 C4 C5 D0 D1 D2 D3 D4 D5
    go_wp2
    refine bodyPost_ret (results_cell_row rfl _ _ (w.heap.size + 1) _ _ (0, 0) _ rfl (six_set FF.out.2.1 _ _ _ _ _ _) Try.underlying49 rfl (by kernel_rfl)) rfl ?_
    exact ⟨by rw [hu, hm]; rfl, (((((FF.out.2.2.setCell (Nat.le_succ _) _).setCell (Nat.le_succ _) _).setCell (Nat.le_succ _) _).setCell (Nat.le_succ _) _).setCell (Nat.le_succ _) _).setCell (Nat.le_succ _) _⟩
end Go.Proofs.Ytogkjgglpokkaaa
