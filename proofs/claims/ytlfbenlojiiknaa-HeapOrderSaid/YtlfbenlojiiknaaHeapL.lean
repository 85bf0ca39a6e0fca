/- Layer 13 (heap): the law's own helpers: the ids of a row; are they these; are two rows the same. -/
import Derived.Test.YtlfbenlojiiknaaHeapB
import Derived.Test.YtlfbenlojiiknaaAppendM
import Derived.Laws.StructEq
set_option maxRecDepth 100000
namespace Go.Proofs.Ytlfbenlojiiknaa
open Go.ChangeShapes Go.WideShapes Go.ChangeAt Go.RowKit HeapM

def idsOf (l : List It) : List Nat := l.map It.id
theorem idsOf_len (l : List It) : (idsOf l).length = l.length := by unfold idsOf; simp
theorem ids_snoc {l : List It} {q : Nat} (h : q < l.length) : idsOf (l.take (q + 1)) = idsOf (l.take q) ++ [(gt l q).id] := by
  unfold idsOf
  rw [List.take_succ_eq_append_getElem h, List.map_append, gt_of h]
  rfl
theorem info64 : (Try.prog.info? 32).map (fun i => (i.zero, i.size, i.bytes)) = some (some (.int .u64 0), 1, 8) := by kernel_rfl
theorem info64_of {o : Option TypeInfo} {z : Option Value} {s b : Nat} (h : o.map (fun i => (i.zero, i.size, i.bytes)) = some (z, s, b)) : ∃ i, o = some i ∧ i.zero = z ∧ i.size = s ∧ i.bytes = b := by
  obtain ⟨i, hi, h⟩ := Option.map_eq_some_iff.1 h
  simp only [Prod.mk.injEq] at h
  exact ⟨i, hi, h.1, h.2.1, h.2.2⟩

/-- The ids, in a new row. -/
def IdsP (w : World) (ds : List Nat) (e : Ending) (w' : World) : Prop := ∃ p c, e = .returned (.slice p ds.length c) ∧ Holds w' p ds.length c (valsN .u64 ds) ∧ Below w.heap.size w w'
structure IdsS (w wr : World) (l : List It) (p : Option Addr) (q c : Nat) : Prop where
  o : wr.ownsRow w.heap.size 32 1 (.slice p q c) q (valsN .u64 (idsOf (l.take q)))
  low : Below w.heap.size w wr

set_option maxHeartbeats 2000000 in
theorem lids13_any (w : World) (p : Option Addr) (n c : Nat) (l : List It) (h : HoldsI w p n c l) (hb : n ≤ 1048576) :
    Calls Try.prog 31 #[.slice p n c] w (IdsP w (idsOf l)) := by
  have HL := Lib.hid h
  have ln := h.len
  have LN := Lib.hid ln
  have nb : (n : Int) ≤ 1048576 := by omega
  obtain ⟨i0, hi, hz0, hz1, hz2⟩ := info64_of info64
  have I0 : Hid (IdsS w w l none 0 0) := ⟨by rw [List.take_zero]; exact World.ownsRow_nil _ _ _ 1, Below.refl _ _⟩
  clear h ln hb
  go_enter Try.func31, Try.ntmps31
  go_wp2
  go_loopw [3, 8] (fun s i wr => ∃ (p' : Option Addr) (q c' : Nat), s = .slice p' q c' ∧ i = .int .i64 (q : Nat) ∧ Hid (q ≤ n) ∧ Hid (IdsS w wr l p' q c')) (fun _ i _ => 2000000 - (intOf i).toNat)
  case atStart => exact ⟨none, 0, 0, rfl, rfl, Nat.zero_le _, I0.out⟩
  case round =>
    clear I0
    obtain ⟨p', q, c', rfl, rfl, hq, I⟩ := hrel
    have q0 : (0 : Int) ≤ (q : Int) := by omega
    have qn : (q : Int) ≤ (n : Int) := by have := hq.out; omega
    by_cases stop : n ≤ q
    · have e : q = n := by have := hq.out; omega
      have d1 : decide ((q : Int) < (n : Int)) = false := decide_eq_false (by omega)
      have d2 : (n : Int) ≤ (q : Int) := by omega
      have F : Hid (IdsP w (idsOf l) (.returned (.slice p' q c')) wr) := by
        have o := I.out.o
        obtain ⟨p1, c1, e1, h1⟩ := own_holds o
        injection e1 with e1 _ e3
        subst e1 e3
        rw [List.take_of_length_le (by rw [LN.out]; exact stop)] at h1
        have ll : (idsOf l).length = q := by rw [idsOf_len, LN.out, e]
        exact ⟨p', c', by rw [ll], by rw [ll]; exact h1, I.out.low⟩
      clear I stop e HL
      go_wp2
      go_ret
      exact F.out
    · have h' : (q : Int) < (n : Int) := by omega
      have ql : q < n := by omega
      obtain ⟨a, rfl, k0, k1, k2⟩ := (HL.out.below I.out.low).at ql
      obtain ⟨x, hx⟩ : ∃ x, gt l q = x := ⟨_, rfl⟩
      have HX := Lib.hid hx
      rw [hx] at k0 k1 k2
      obtain ⟨xi, xs, xt⟩ := x
      dsimp only at k0 k1 k2
      have AL : Below wr.heap.size wr (wr.alloc (.cells #[.int .u64 (xi : Nat), .int .u64 (xs : Nat), .int .i64 xt] 34)) := (Below.refl _ _).alloc (Nat.le_refl _) _
      have BX := heap_alloc_new wr (.cells #[.int .u64 (xi : Nat), .int .u64 (xs : Nat), .int .i64 xt] 34)
      have x0 := blk_cell (o := 0) BX
      simp only [List.getElem?_toArray, List.getElem?_cons_zero] at x0
      have I2 : Hid (IdsS w (wr.alloc (.cells #[.int .u64 (xi : Nat), .int .u64 (xs : Nat), .int .i64 xt] 34)) l p' q c') := ⟨own_keep I.out.o AL, I.out.low.trans (AL.mono I.out.low.size)⟩
      have NX : Hid (q + 1 ≤ n ∧ idsOf (l.take (q + 1)) = idsOf (l.take q) ++ [xi]) := by
        have e := ids_snoc (l := l) (q := q) (by rw [LN.out]; exact ql)
        rw [HX.out] at e
        exact ⟨ql, e⟩
      clear hx I AL BX
      go_upto_region 5 with (fail)
      clear k0 k1 k2
      generalize wr.alloc (.cells #[.int .u64 (xi : Nat), .int .u64 (xs : Nat), .int .i64 xt] 34) = w2 at *
      generalize wr.heap.size = bx at *
      have AL : Below w2.heap.size w2 (w2.alloc (.cells #[.int .u64 (xi : Nat)] 32)) := (Below.refl _ _).alloc (Nat.le_refl _) _
      have ON : Hid (Holds (w2.alloc (.cells #[.int .u64 (xi : Nat)] 32)) (some ⟨w2.heap.size, 0, none⟩) 1 1 [.int .u64 (xi : Nat)]) := blk_holds (heap_alloc_new w2 _) rfl (by decide)
      have OW : Hid ((w2.alloc (.cells #[.int .u64 (xi : Nat)] 32)).ownsRow w.heap.size 32 1 (.slice p' q c') q (valsN .u64 (idsOf (l.take q)))) := own_keep I2.out.o AL
      have LW := Lib.hid (I2.out.low.trans (AL.mono I2.out.low.size))
      have BM : Hid (q + 1 ≤ maxLen) := by unfold Hid maxLen; omega
      have BY : Hid ((q + 1) * 8 ≤ 140737488355328) := by unfold Hid; omega
      have ONE : Hid (∀ u ∈ ([.int .u64 (xi : Nat)] : List Value), u.oneCell' = true) := by
        intro u hu
        simp only [List.mem_cons, List.not_mem_nil, or_false] at hu
        rw [hu]; rfl
      clear AL
      go_wp2_with (at_builtin; refine append_more rfl _ _ 64 rfl w.heap.size 32 i0 (.int .u64 0) 8 Try.underlying64 hi hz0 hz1 hz2 rfl _ q _ rfl OW.out (some ⟨w2.heap.size, 0, none⟩) 1 1 [.int .u64 (xi : Nat)] rfl ON.out ONE.out BM.out BY.out LW.out.size ?_)
      intro v w3 o g m
      have o' := o
      obtain ⟨p3, c3, rfl, -⟩ := own_holds o'
      have I3 : Hid (IdsS w w3 l p3 (q + 1) c3) := by
        refine ⟨?_, LW.out.grown g LW.out.size (fun j hj => (World.ownsRow.lt OW.out j hj).1)⟩
        rw [NX.out.2]
        have e : valsN .u64 (idsOf (l.take q) ++ [xi]) = valsN .u64 (idsOf (l.take q)) ++ [.int .u64 (xi : Nat)] := by unfold valsN; rw [List.map_append]; rfl
        rw [e]
        exact o
      clear o o' g m OW ON I2 LW
      go_wp2
      go_roundw
      case rel => exact ⟨p3, q + 1, c3, rfl, by go_num, NX.out.1, I3.out⟩
      case measure => simp [intOf]; omega

theorem list_eq {a b : List Nat} {n : Nat} (ha : a.length = n) (hb : b.length = n) (h : ∀ j, j < n → a.getD j 0 = b.getD j 0) : a = b := by
  apply List.ext_getElem (by rw [ha, hb])
  intro j h1 h2
  have e := h j (by omega)
  rw [List.getD_eq_getElem?_getD, List.getD_eq_getElem?_getD, List.getElem?_eq_getElem h1, List.getElem?_eq_getElem h2] at e
  exact e

set_option maxHeartbeats 2000000 in
theorem lare13_any (w : World) (p : Option Addr) (n c : Nat) (l : List It) (p2 : Option Addr) (n2 c2 : Nat) (ds : List Nat) (h : HoldsI w p n c l) (h2 : Holds w p2 n2 c2 (valsN .u64 ds)) (hb : n ≤ 1048576) :
    Calls Try.prog 32 #[.slice p n c, .slice p2 n2 c2] w fun e w' => e = .returned (.bool (decide (idsOf l = ds))) ∧ Below w.heap.size w w' := by
  have F : Hid (∀ z w', decide (idsOf l = ds) = z → Below w.heap.size w w' → (Ending.returned (.bool z) = .returned (.bool (decide (idsOf l = ds))) ∧ Below w.heap.size w w')) := fun z w' e b => ⟨by rw [e], b⟩
  have ln := h.len
  have l2 := h2.len
  rw [valsN_len] at l2
  have li := idsOf_len l
  rw [ln] at li
  have n2b : (n2 : Int) ≤ 9223372036854775807 := by have := h2.cap; have := h2.max; unfold maxLen at this; omega
  have IP := Lib.hid (lids13_any w p n c l h hb)
  have H2 := Lib.hid h2
  have nb : (n : Int) ≤ 1048576 := by omega
  generalize idsOf l = es at *
  clear h h2 ln hb
  by_cases e : n = n2
  · subst e
    have e1 : ((n : Int) == (n : Int)) = true := by simp
    have e2 : ((n : Int) != (n : Int)) = false := by simp
    have LE := Lib.hid li
    have LD := Lib.hid l2
    go_enter Try.func32, Try.ntmps32
    go_wp2_with fail
    refine IP.out.mono ?_; rintro r w1 ⟨p1, c1, rfl, h1, lw⟩
    rw [LE.out] at h1 ⊢
    have H1 := Lib.hid h1
    have L1 := Lib.hid lw
    clear h1 lw IP li l2
    go_wp2
    go_loop [15] (fun i => ∃ q : Nat, i = .int .i64 (q : Nat) ∧ Hid (q ≤ n ∧ ∀ j, j < q → es.getD j 0 = ds.getD j 0)) (fun i => 2000000 - (intOf i).toNat)
    case atStart => exact ⟨0, rfl, Nat.zero_le _, fun j hj => absurd hj (Nat.not_lt_zero _)⟩
    case round =>
      obtain ⟨q, rfl, B⟩ := hrel
      have q0 : (0 : Int) ≤ (q : Int) := by omega
      have qn : (q : Int) ≤ (n : Int) := by have := B.out.1; omega
      by_cases stop : n ≤ q
      · have d1 : decide ((q : Int) < (n : Int)) = false := decide_eq_false (by omega)
        have d2 : (n : Int) ≤ (q : Int) := by omega
        have FF := Lib.hid (F.out true w1 (decide_eq_true (list_eq LE.out LD.out (fun j hj => B.out.2 j (by omega)))) L1.out)
        clear F stop B H1 H2
        go_wp2
        go_ret
        exact FF.out
      · have h' : (q : Int) < (n : Int) := by omega
        have ql : q < n := by omega
        obtain ⟨a1, rfl, k1⟩ := H1.out.atN ql
        obtain ⟨a2, rfl, k2⟩ := (H2.out.below L1.out).atN ql
        obtain ⟨x, hx⟩ : ∃ x, es.getD q 0 = x := ⟨_, rfl⟩
        obtain ⟨y, hy⟩ : ∃ y, ds.getD q 0 = y := ⟨_, rfl⟩
        rw [hx] at k1
        rw [hy] at k2
        by_cases g : x = y
        · have g1 : ((x : Int) == (y : Int)) = true := by rw [beq_iff_eq, g]
          have g2 : ((x : Int) != (y : Int)) = false := by rw [bne, g1]; rfl
          have B2 : Hid (q + 1 ≤ n ∧ ∀ j, j < q + 1 → es.getD j 0 = ds.getD j 0) := ⟨ql, fun j hj => by
            by_cases c : j = q
            · rw [c, hx, hy]; exact g
            · exact B.out.2 j (by omega)⟩
          clear g stop B H1 H2 hx hy F ql
          go_wp2
          go_round
          case rel => exact ⟨q + 1, by go_num, B2⟩
          case measure => simp [intOf]; omega
        · have g1 : ((x : Int) == (y : Int)) = false := by rw [beq_eq_false_iff_ne]; omega
          have g2 : ((x : Int) != (y : Int)) = true := by rw [bne, g1]; rfl
          have FF := Lib.hid (F.out false w1 (decide_eq_false (fun z => g (by rw [← hx, ← hy, z]))) L1.out)
          clear g stop B H1 H2 hx hy F ql
          go_wp2
          go_ret
          exact FF.out
  · have e1 : ((n : Int) == (n2 : Int)) = false := by rw [beq_eq_false_iff_ne]; omega
    have e2 : ((n : Int) != (n2 : Int)) = true := by rw [bne, e1]; rfl
    have FF := Lib.hid (F.out false w (decide_eq_false (fun z => e (by rw [← li, z, l2]))) (Below.refl _ _))
    clear F e IP H2 li l2
    go_enter Try.func32, Try.ntmps32
    go_wp2
    go_ret
    exact FF.out

/-! ### Items compared -/
def eqlI (x y : Value) : Sem Value := binOp .eql 34 x y
theorem eqlI_eq (x y : Value) : binOp .eql 34 x y = eqlI x y := rfl
def neqI (x y : Value) : Sem Value := binOp .neq 34 x y
theorem neqI_eq (x y : Value) : binOp .neq 34 x y = neqI x y := rfl
theorem it_iff (a b : It) : ((a.id : Int) = (b.id : Int) ∧ (a.seq : Int) = (b.seq : Int) ∧ a.t = b.t) ↔ a = b :=
  ⟨fun h => It.ext' (by omega) (by omega) h.2.2, fun e => by subst e; exact ⟨rfl, rfl, rfl⟩⟩
theorem equal_it (w : World) (x y : It) (z : Bool) (e : decide (x = y) = z) :
    (Op.equalIn 10000 34 (.agg #[.int .u64 (x.id : Nat), .int .u64 (x.seq : Nat), .int .i64 x.t]) (.agg #[.int .u64 (y.id : Nat), .int .u64 (y.seq : Nat), .int .i64 y.t])).run Try.prog w = .ok z w := by
  have e' : decide ((x.id : Int) = (y.id : Int) ∧ (x.seq : Int) = (y.seq : Int) ∧ x.t = y.t) = z := by
    rw [← e, decide_eq_decide]; exact it_iff x y
  subst e'
  clear e
  generalize (x.id : Int) = a
  generalize (x.seq : Int) = b
  generalize x.t = c
  generalize (y.id : Int) = a'
  generalize (y.seq : Int) = b'
  generalize y.t = c'
  rw [run_equalIn_agg w _ _ _ _ (by kernel_rfl) (by kernel_rfl)]
  rw [show (Try.prog.fieldsOf 34).toList = _ from rfl]
  simp [go_sem, Op.eqFields]
  by_cases e1 : a = a'
  case neg => simp [e1]
  subst e1
  by_cases e2 : b = b'
  case neg => simp [e2]
  subst e2
  by_cases e3 : c = c'
  case neg => simp [e3]
  subst e3
  simp
theorem eql_it (w : World) (x y : It) (z : Bool) (e : decide (x = y) = z) :
    (eqlI (.agg #[.int .u64 (x.id : Nat), .int .u64 (x.seq : Nat), .int .i64 x.t]) (.agg #[.int .u64 (y.id : Nat), .int .u64 (y.seq : Nat), .int .i64 y.t])).run Try.prog w = .ok (.bool z) w := by
  unfold eqlI
  rw [run_eql_struct, equal_it w x y z e]
  rfl
theorem neq_it (w : World) (x y : It) (z : Bool) (e : decide (x = y) = z) :
    (neqI (.agg #[.int .u64 (x.id : Nat), .int .u64 (x.seq : Nat), .int .i64 x.t]) (.agg #[.int .u64 (y.id : Nat), .int .u64 (y.seq : Nat), .int .i64 y.t])).run Try.prog w = .ok (.bool (!z)) w := by
  unfold neqI
  rw [run_neq_struct, equal_it w x y z e]
  rfl

theorem its_eq {a b : List It} {n : Nat} (ha : a.length = n) (hb : b.length = n) (h : ∀ j, j < n → gt a j = gt b j) : a = b := by
  apply List.ext_getElem (by rw [ha, hb])
  intro j h1 h2
  have e := h j (by omega)
  rw [gt_of h1, gt_of h2] at e
  exact e
end Go.Proofs.Ytlfbenlojiiknaa
