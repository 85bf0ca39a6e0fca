/- Layer 15 (smear), work ahead: leaps told by gaps, as the laws make them. -/
import Derived.Test.YtmafjhggjpjgmaaSmS
import Derived.Deep.AppendLies
set_option maxRecDepth 100000
namespace Go.Proofs.Ytmafjhggjpjgmaa
open Go.ChangeShapes Go.WideShapes Go.ChangeAt Go.RowKit SmM

/-- Gaps behind a slice, as what may be read. -/
structure HoldsG (w : World) (p : Option Addr) (n c : Nat) (l : List Gp) : Prop where
  len : l.length = n
  cap : n ≤ c
  max : c ≤ maxLen
  cell : ∀ i, i < n → ∃ a, p = some a ∧ w.cell? (a.add (i * 2)) = some (.int .u16 ((gg l i).h : Nat)) ∧ w.cell? ⟨(a.add (i * 2)).block, (a.add (i * 2)).off + 1, none⟩ = some (.bool (gg l i).o)
theorem HoldsG.below {w w' : World} {p : Option Addr} {n c : Nat} {l : List Gp} (h : HoldsG w p n c l) (b : Below w.heap.size w w') : HoldsG w' p n c l :=
  ⟨h.len, h.cap, h.max, fun i hi => by
    obtain ⟨a, ha, c1, c2⟩ := h.cell i hi
    exact ⟨a, ha, (b.cell (World.block_lt_of_cell? w _ c1)).trans c1, (b.cell (World.block_lt_of_cell? w _ c2)).trans c2⟩⟩
def twoL (x : Lp) : List Value := [.int .i64 x.t, .int .i64 x.k]
def cellsL (l : List Lp) : List Value := l.flatMap twoL
theorem cellsL_app (l m : List Lp) : cellsL (l ++ m) = cellsL l ++ cellsL m := by unfold cellsL; rw [List.flatMap_append]
theorem cellsL_cons (x : Lp) (l : List Lp) : cellsL (x :: l) = twoL x ++ cellsL l := by unfold cellsL; rw [List.flatMap_cons]
theorem cellsL_len (l : List Lp) : (cellsL l).length = l.length * 2 := by
  induction l with
  | nil => rfl
  | cons f fs ih => rw [cellsL_cons, List.length_append, ih, List.length_cons]; show 2 + _ = _; omega
theorem cellsL_get : ∀ (l : List Lp) (i : Nat), i < l.length → (cellsL l)[i * 2]? = some (.int .i64 (gl l i).t) ∧ (cellsL l)[i * 2 + 1]? = some (.int .i64 (gl l i).k)
  | [], i, h => by simp at h
  | x :: l, 0, _ => by rw [cellsL_cons]; exact ⟨rfl, rfl⟩
  | x :: l, i + 1, h => by
    rw [cellsL_cons, show (i + 1) * 2 = i * 2 + 1 + 1 by omega]
    exact cellsL_get l i (by simpa using h)
theorem twoL_one (x : Lp) : ∀ u ∈ twoL x, u.oneCell' = true := by
  intro u hu
  unfold twoL at hu
  simp only [List.mem_cons, List.not_mem_nil, or_false] at hu
  rcases hu with rfl | rfl <;> rfl
def OwnL (w : World) (B : Nat) (p : Option Addr) (n c : Nat) (l : List Lp) : Prop := w.ownsRow B 26 2 (.slice p n c) n (cellsL l)
theorem OwnL.below {w w' : World} {B : Nat} {p : Option Addr} {n c : Nat} {l : List Lp} (h : OwnL w B p n c l) (b : Below w.heap.size w w') : OwnL w' B p n c l := own_keep h b
theorem OwnL.holds {w : World} {B : Nat} {p : Option Addr} {n c : Nat} {l : List Lp} (h : OwnL w B p n c l) : HoldsL w p n c l := by
  have hl := h.1
  rw [cellsL_len] at hl
  have ln : l.length = n := by omega
  have hc := h
  unfold OwnL at hc
  rcases h.2 with ⟨e, e2⟩ | ⟨g, cap, cur, e, hb, hg, h1, h2, -⟩
  · injection e with e1 e2 e3
    subst e1 e3
    exact ⟨ln, by omega, Nat.zero_le _, fun i hi => absurd hi (by omega)⟩
  · injection e with e1 e2 e3
    subst e1 e3
    refine ⟨ln, h1, h2, fun i hi => ?_⟩
    obtain ⟨c1, c2⟩ := cellsL_get l i (by omega)
    have ea : ∀ j, (⟨g, 0, none⟩ : Addr).add j = ⟨g, j, none⟩ := fun j => by unfold Addr.add; split <;> simp_all
    have d1 := World.ownsRow.cells hc (g := g) rfl _ _ c1
    have d2 := World.ownsRow.cells hc (g := g) rfl _ _ c2
    refine ⟨_, rfl, d1, ?_⟩
    rw [ea] at d2 ⊢
    exact d2
theorem infoLp : (Try.prog.info? 26).map (fun i => (i.zero, i.size, i.bytes)) = some (some (.agg #[.int .i64 0, .int .i64 0]), 2, 16) := by kernel_rfl
theorem infoLp_of {o : Option TypeInfo} {z : Option Value} {s b : Nat} (h : o.map (fun i => (i.zero, i.size, i.bytes)) = some (z, s, b)) : ∃ i, o = some i ∧ i.zero = z ∧ i.size = s ∧ i.bytes = b := by
  obtain ⟨i, hi, h⟩ := Option.map_eq_some_iff.1 h
  simp only [Prod.mk.injEq] at h
  exact ⟨i, hi, h.1, h.2.1, h.2.2⟩
theorem take_nextG {l : List Gp} {i : Nat} (h : i < l.length) : l.take (i + 1) = l.take i ++ [gg l i] := by
  rw [List.take_succ_eq_append_getElem h, gg_of h]

theorem two_new {w : World} {B : Nat} (hB : w.heap.size = B) (t k : Int) (ty : TypeId) : ∀ j u, (twoL ⟨t, k⟩)[j]? = some u → (w.alloc (.cells #[.int .i64 t, .int .i64 k] ty)).cell? ((⟨B, 0, none⟩ : Addr).add j) = some u := by
  subst hB
  intro j u hu
  have hb := heap_alloc_new w (.cells #[.int .i64 t, .int .i64 k] ty)
  have ea : (⟨w.heap.size, 0, none⟩ : Addr).add j = ⟨w.heap.size, j, none⟩ := by unfold Addr.add; split <;> simp_all
  rw [ea]
  have hj : j < 2 := by
    rcases Nat.lt_or_ge j 2 with h | h
    · exact h
    · rw [List.getElem?_eq_none (by show 2 ≤ j; exact h)] at hu
      cases hu
  rcases j with _ | _ | j
  · injection hu with hu
    subst hu
    unfold World.cell?
    dsimp only
    rw [hb]
    rfl
  · injection hu with hu
    subst hu
    unfold World.cell?
    dsimp only
    rw [hb]
    rfl
  · omega

theorem own_slice {w : World} {B : Nat} {T : TypeId} {s : Nat} {v : Value} {n : Nat} {vs : List Value} (h : w.ownsRow B T s v n vs) : ∃ p c, v = .slice p n c := by
  rcases h.2 with ⟨rfl, rfl⟩ | ⟨g, cap, cur, rfl, -⟩
  · exact ⟨_, _, rfl⟩
  · exact ⟨_, _, rfl⟩
theorem sz_alloc (w : World) (o : Obj) : (w.alloc o).heap.size = w.heap.size + 1 := by unfold World.alloc; simp

theorem new_made (C : SCode) {w : World} {p : Option Addr} {m c : Nat} {gs : List Gp} (h : HoldsL w p m c (mkL dayI (gs.take 32))) :
    Calls Try.prog 11 #[.slice p m c] w fun e w9 => ∃ N F, e = .returned (.tuple #[.pointer (some ⟨N, 0, none⟩), .int .i64 0]) ∧ C.Tb w9 F N (mkL dayI (gs.take 32)) ∧ Below w.heap.size w w9 := by
  have l32 := List.length_take_le 32 gs
  have ln := mk_len dayI (gs.take 32)
  have CN := C.new h (fun y hy => by
    have q := mk_mem hy
    have e := (end_in dayI (gs.take 32)).2
    unfold dayI at q e
    unfold I64
    omega)
  refine CN.mono fun e w9 h9 => ?_
  obtain ⟨b9, ⟨-, -, N, F, e9, t9, -⟩ | ⟨r, ne, r0, -⟩⟩ := h9
  · exact ⟨N, F, e9, t9, b9⟩
  · exfalso
    have ok := mk_ok l32
    rcases ne with ⟨-, z⟩ | ⟨-, ⟨z, -⟩ | ⟨-, z⟩⟩
    · omega
    · exact r0 z
    · exact z ok

set_option maxHeartbeats 4000000 in
theorem made15 (C : SCode) (w : World) (p : Option Addr) (n c : Nat) (gs : List Gp) (h : HoldsG w p n c gs) (hh : ∀ g ∈ gs, g.h < 65536) :
    Calls Try.prog 23 #[.slice p n c] w fun e w' => ∃ N F p' m c', e = .returned (.tuple #[.pointer (some ⟨N, 0, none⟩), .slice p' m c']) ∧ C.Tb w' F N (mkL dayI (gs.take 32)) ∧ HoldsL w' p' m c' (mkL dayI (gs.take 32)) ∧ Below w.heap.size w w' := by
  have nb : (n : Int) ≤ 9223372036854775807 := by have := h.cap; have := h.max; unfold maxLen at this; omega
  have HG := Lib.hid h
  have HH := Lib.hid hh
  have LN := Lib.hid h.len
  obtain ⟨iL, hiL, hz0, hz1, hz2⟩ := infoLp_of infoLp
  clear h hh
  go_enter Try.func23, Try.ntmps23
  go_upto_block 0 with fail
  go_cut [4] from 5 to 38 (fun lp wx => ∃ (p3 : Option Addr) (m c3 : Nat), lp = .slice p3 m c3 ∧ Hid (OwnL wx w.heap.size p3 m c3 (mkL dayI (gs.take 32))) ∧ Hid (Below w.heap.size w wx))
  case first =>
    go_wp2_with fail
    go_loopw [4, 5, 13] (fun lp aa ii wr => ∃ (p3 : Option Addr) (c3 i : Nat) (a : Int), lp = .slice p3 i c3 ∧ aa = .int .i64 a ∧ ii = .int .i64 (i : Nat) ∧ Hid ((i ≤ n ∧ i ≤ 32) ∧ a = endI dayI (gs.take i)) ∧ Hid (OwnL wr w.heap.size p3 i c3 (mkL dayI (gs.take i))) ∧ Hid (Below w.heap.size w wr)) (fun _ _ ii _ => 1000 - (intOf ii).toNat)
    case atStart => exact ⟨none, 0, 0, 86400000000000, rfl, rfl, rfl, ⟨⟨Nat.zero_le _, Nat.zero_le _⟩, by rw [List.take_zero]; rfl⟩, by rw [List.take_zero]; exact ⟨rfl, .inl ⟨rfl, rfl⟩⟩, Below.refl _ _⟩
    case round =>
      obtain ⟨p3, c3, i, a, rfl, rfl, rfl, I, O, L⟩ := hrel
      have i0 : (0 : Int) ≤ (i : Int) := by omega
      have i32 : (i : Int) ≤ 32 := by have := I.out.1.2; omega
      have stop : (n ≤ i) ∨ (i < n ∧ i = 32) ∨ (i < n ∧ i < 32) := by have := I.out.1; omega
      rcases stop with z | ⟨z, z'⟩ | ⟨z, z'⟩
      · have z1 : (n : Int) ≤ (i : Int) := by omega
        have z2 : decide ((i : Int) < (n : Int)) = false := decide_eq_false (by omega)
        have OE : Hid (OwnL wr w.heap.size p3 i c3 (mkL dayI (gs.take 32))) := by
          have e : gs.take i = gs.take 32 := by rw [List.take_of_length_le (by have := LN.out; omega), List.take_of_length_le (by have := LN.out; have := I.out.1; omega)]
          have := O.out
          rw [e] at this
          exact this
        clear z I O
        go_wp2_with fail
        go_meet
        exact ⟨p3, i, c3, rfl, OE, L⟩
      · have z1 : (i : Int) < (n : Int) := by omega
        have z2 : decide ((i : Int) < (n : Int)) = true := decide_eq_true z1
        have z3 : ((i : Int) == 32) = true := by subst z'; rfl
        have z4 : (i : Int) = 32 := by omega
        obtain ⟨ap, rfl, cz, cz2⟩ := (HG.out.below L.out).cell i z
        have OE : Hid (OwnL wr w.heap.size p3 i c3 (mkL dayI (gs.take 32))) := by have := O.out; rw [z'] at this ⊢; exact this
        clear z z' I O z4
        go_wp2_with fail
        go_meet
        exact ⟨p3, i, c3, rfl, Lib.hid (OE.out.below ((Below.refl _ _).alloc (Nat.le_refl _) _)), Lib.hid (L.out.alloc L.out.size _)⟩
      · have z1 : (i : Int) < (n : Int) := by omega
        have z2 : decide ((i : Int) < (n : Int)) = true := decide_eq_true z1
        have z3 : ((i : Int) == 32) = false := by simp; omega
        obtain ⟨ap, rfl, cz, cz2⟩ := (HG.out.below L.out).cell i z
        have GH : (gg gs i).h < 65536 := HH.out _ (by rw [gg_of (by have := LN.out; omega)]; exact List.getElem_mem _)
        have NX : Hid (((i + 1 ≤ n ∧ i + 1 ≤ 32) ∧ a + ((gg gs i).h : Int) % 8192 * 3600 * 1000000000 + 172800000000000 = endI dayI (gs.take (i + 1))) ∧ mkL dayI (gs.take (i + 1)) = mkL dayI (gs.take i) ++ [⟨a + ((gg gs i).h : Int) % 8192 * 3600 * 1000000000, if (gg gs i).o then -1 else 1⟩]) := by
          have e := I.out.2
          refine ⟨⟨by omega, ?_⟩, ?_⟩
          · rw [take_nextG (by have := LN.out; omega), end_app, ← e]
            unfold hopI dayI
            omega
          · rw [take_nextG (by have := LN.out; omega), mk_app, ← e]
            unfold lpI
            have : hopI (gg gs i) = ((gg gs i).h : Int) % 8192 * 3600 * 1000000000 := by unfold hopI; omega
            rw [this]
        have a01 : (0 : Int) ≤ a ∧ a ≤ 1000000000000000000 := by
          have e := end_in dayI (gs.take i)
          rw [← I.out.2] at e
          have l := List.length_take_le i gs
          unfold dayI at e
          omega
        obtain ⟨a0, a1⟩ := a01
        generalize hq : (gg gs i).h = q at GH NX cz
        have W1 : wrap64 (a + ((q : Nat) : Int) % 8192 * 3600 * 1000000000) = a + ((q : Nat) : Int) % 8192 * 3600 * 1000000000 := by unfold wrap64; omega
        have W2 : wrap64 (a + ((q : Nat) : Int) % 8192 * 3600 * 1000000000 + 172800000000000) = a + ((q : Nat) : Int) % 8192 * 3600 * 1000000000 + 172800000000000 := by unfold wrap64; omega
        have q0 : (0 : Int) ≤ (q : Nat) := by omega
        have BM : Hid (i + 1 ≤ maxLen) := by unfold Hid maxLen; omega
        have BY : Hid ((i + 1) * 16 ≤ 140737488355328) := by unfold Hid; omega
        clear z z' I GH hq a0 a1
        cases hob : (gg gs i).o
        · rw [hob] at cz2 NX
          have OW : Hid (wr.ownsRow w.heap.size 26 2 (.slice p3 i c3) i (cellsL (mkL dayI (gs.take i)))) := O
          clear hob O
          go_wp2_with (at_builtin; refine wpList_append_own _ rfl _ _ 22 rfl w.heap.size 26 iL (.agg #[.int .i64 0, .int .i64 0]) 2 16 Try.underlying22 hiL hz0 hz1 hz2 rfl (by decide) _ _ _ rfl (World.ownsRow.alloc (World.ownsRow.alloc OW.out _) _) ⟨wr.heap.size + 1, 0, none⟩ 1 1 (twoL ⟨a + ((q : Nat) : Int) % 8192 * 3600 * 1000000000, 1⟩) rfl rfl (two_new (sz_alloc wr _) _ _ _) (twoL_one _) BM.out BY.out ((L.out.alloc L.out.size _).alloc (L.out.alloc L.out.size _).size _).size ?_)
          intro v w3 o g m
          have L3 : Hid (Below w.heap.size w w3) := ((L.out.alloc L.out.size _).alloc (L.out.alloc L.out.size _).size _).grown g ((L.out.alloc L.out.size _).alloc (L.out.alloc L.out.size _).size _).size (fun j hj => (World.ownsRow.lt OW.out j hj).1)
          have O3 : Hid (w3.ownsRow w.heap.size 26 2 v (i + 1) (cellsL (mkL dayI (gs.take (i + 1))))) := by
            rw [NX.out.2, cellsL_app, cellsL_cons]
            exact o
          clear o g m OW L
          obtain ⟨p4, c4, rfl⟩ := own_slice O3.out
          go_wp2
          go_roundw
          case rel => exact ⟨p4, c4, i + 1, _, rfl, rfl, by go_num, by rw [W2]; exact Lib.hid NX.out.1, O3, L3⟩
          case measure => simp [intOf]; omega
        · rw [hob] at cz2 NX
          have OW : Hid (wr.ownsRow w.heap.size 26 2 (.slice p3 i c3) i (cellsL (mkL dayI (gs.take i)))) := O
          clear hob O
          go_wp2_with (at_builtin; refine wpList_append_own _ rfl _ _ 22 rfl w.heap.size 26 iL (.agg #[.int .i64 0, .int .i64 0]) 2 16 Try.underlying22 hiL hz0 hz1 hz2 rfl (by decide) _ _ _ rfl (World.ownsRow.alloc (World.ownsRow.alloc OW.out _) _) ⟨wr.heap.size + 1, 0, none⟩ 1 1 (twoL ⟨a + ((q : Nat) : Int) % 8192 * 3600 * 1000000000, -1⟩) rfl rfl (two_new (sz_alloc wr _) _ _ _) (twoL_one _) BM.out BY.out ((L.out.alloc L.out.size _).alloc (L.out.alloc L.out.size _).size _).size ?_)
          intro v w3 o g m
          have L3 : Hid (Below w.heap.size w w3) := ((L.out.alloc L.out.size _).alloc (L.out.alloc L.out.size _).size _).grown g ((L.out.alloc L.out.size _).alloc (L.out.alloc L.out.size _).size _).size (fun j hj => (World.ownsRow.lt OW.out j hj).1)
          have O3 : Hid (w3.ownsRow w.heap.size 26 2 v (i + 1) (cellsL (mkL dayI (gs.take (i + 1))))) := by
            rw [NX.out.2, cellsL_app, cellsL_cons]
            exact o
          clear o g m OW L
          obtain ⟨p4, c4, rfl⟩ := own_slice O3.out
          go_wp2
          go_roundw
          case rel => exact ⟨p4, c4, i + 1, _, rfl, rfl, by go_num, by rw [W2]; exact Lib.hid NX.out.1, O3, L3⟩
          case measure => simp [intOf]; omega
  obtain ⟨p3, m, c3, rfl, O, L⟩ := hcut
  have HL := Lib.hid O.out.holds
  have AG := Lib.hid (new_made C O.out.holds)
  clear O
  go_wp2_with (go_at_call 11; refine AG.out.mono ?_; rintro r9 w9 ⟨N, F, rfl, t9, l9⟩; have L9 := Lib.hid (L.out.trans (l9.mono L.out.size)); have H9 := Lib.hid (HL.out.below l9); have T9 := Lib.hid t9; clear t9 l9 L HL AG)
  exact bodyPost_ret (v := .tuple #[.pointer (some ⟨N, 0, none⟩), .slice p3 m c3]) (by simp [results, Try.results23, go_sem]) rfl ⟨N, F, p3, m, c3, rfl, T9.out, H9.out, L9.out⟩
end Go.Proofs.Ytmafjhggjpjgmaa
