/- Layer 3 (octet): what the program's write leaves in a place. -/
import Derived.Test.YteclcefeipjoeaaOctI
namespace Go.Proofs.Yteclcefeipjoeaa
open Go.ChangeShapes Go.WideShapes Go.ChangeAt Go.RowKit OctM
attribute [local go_sem] Oper.semAt_some

theorem shD_pow {s : Nat} (x : Fin s) (v : Nat) : v / 2 ^ shD s x % 256 = (digN v s).getD x.val 0 := by
  rw [dig_at v s x.val x.isLt, show shD s x = 8 * (s - 1 - x.val) from rfl, Nat.pow_mul]
theorem shD_le {s : Nat} (hs : s ≤ 8) (x : Fin s) : shD s x ≤ 56 := by unfold shD; omega

theorem grown_more {a b c : World} {N : Nat} {row : Option Nat} (h : a.grownBy b (some N)) (g : b.grownBy c row) (hr : ∀ r, row = some r → r = N ∨ a.heap.size ≤ r) : a.grownBy c (some N) :=
  ⟨g.os.trans h.os, g.tape.trans h.tape, g.output.trans h.output, Nat.le_trans h.size g.size, fun i hi hne => (g.block i (Nat.lt_of_lt_of_le hi h.size) (fun e => by
    rcases hr i e.symm with e' | e'
    · exact hne (by rw [e'])
    · omega)).trans (h.block i hi hne)⟩

/-- What a row holds where the places pre are written. -/
def wroteC (off s v : Nat) (cs : Array Value) (pre : List (Fin s)) (i : Nat) : Option Value :=
  if ∃ x ∈ pre, off + x.val = i then some (.int .u8 ((digN v s).getD (i - off) 0 : Nat)) else cs[i]?

structure WRel (w W : World) (N off s v c : Nat) (cs : Array Value) (pre : List (Fin s)) : Prop where
  row : ∃ cs' : Array Value, W.heap[N]? = some (.cells cs' 5 (0, 0)) ∧ cs'.size = cs.size ∧ ∀ i : Nat, cs'[i]? = wroteC off s v cs pre i
  bp : Boxed W w.heap.size 25 (.slice (some ⟨N, off, none⟩) s c)
  bn : Boxed W (w.heap.size + 1) 53 (.int .u64 (v : Int))
  gr : w.grownBy W (some N)

theorem boxed_set {W : World} {B : Nat} {t : TypeId} {v u : Value} {p : Addr} (h : Boxed W B t v) (hp : p.block ≠ B) : Boxed (W.setCell p u) B t v := by
  unfold Boxed at h ⊢
  exact (Below.heap_setCell W p u B (fun e => hp e.symm)).trans h

theorem wrel_step {w W : World} {N off s v c : Nat} {cs : Array Value} {pre : List (Fin s)} (h : WRel w W N off s v c cs pre) (hN : N < w.heap.size) (hc : off + s ≤ cs.size) (x : Fin s) {p : Addr} (hp : p = ⟨N, off + x.val, none⟩) {d : Nat} (hd : d = (digN v s).getD x.val 0) :
    WRel w (W.setCell p (.int .u8 (d : Int))) N off s v c cs (pre ++ [x]) := by
  subst hp
  obtain ⟨cs', hb, hz, hi⟩ := h.row
  have xl := x.isLt
  refine ⟨⟨_, blk_set hb, by rw [Array.set!_eq_setIfInBounds, Array.size_setIfInBounds]; exact hz, fun i => ?_⟩, boxed_set h.bp (by show N ≠ _; omega), boxed_set h.bn (by show N ≠ _; omega), ?_⟩
  · rw [Array.set!_eq_setIfInBounds, Array.getElem?_setIfInBounds]
    by_cases e : off + x.val = i
    · subst e
      rw [if_pos rfl, if_pos (by omega)]
      unfold wroteC
      rw [if_pos ⟨x, by simp, rfl⟩, Nat.add_sub_cancel_left, hd]
    · rw [if_neg e, hi i]
      unfold wroteC
      by_cases g : ∃ y ∈ pre, off + y.val = i
      · rw [if_pos g, if_pos (by obtain ⟨y, hy, ey⟩ := g; exact ⟨y, List.mem_append_left _ hy, ey⟩)]
      · rw [if_neg g, if_neg]
        rintro ⟨y, hy, ey⟩
        rcases List.mem_append.1 hy with hy | hy
        · exact g ⟨y, hy, ey⟩
        · obtain rfl : y = x := by simpa using hy
          exact e ey
  · refine grown_more h.gr (b := W) (row := some N) ?_ (fun r e => by cases e; exact .inl rfl)
    exact ⟨rfl, rfl, rfl, (KeepsWalks.setCell W _ _).size, fun k _ hk => Below.heap_setCell _ _ _ k (fun e => hk (by rw [e]))⟩

theorem wrel_drew {w W : World} {N off s v c : Nat} {cs : Array Value} {pre : List (Fin s)} (h : WRel w W N off s v c cs pre) : WRel w W.drew N off s v c cs pre :=
  ⟨h.row, h.bp, h.bn, ⟨h.gr.os, h.gr.tape, h.gr.output, h.gr.size, h.gr.block⟩⟩

theorem wrel_own (w : World) (N off s v c B : Nat) (cs : Array Value) (hB : w.heap.size ≤ B) : OwnFrom B (fun pre W => WRel w W N off s v c cs pre) := by
  intro pre X Y row h hg hr
  have ne : ∀ {k : Nat} {C : Array Value} {t : TypeId}, X.heap[k]? = some (.cells C t (0, 0)) → some k ≠ row := fun {k C t} hk e => by
    obtain ⟨_, o, ho, hc⟩ := hr k e.symm
    rw [hk] at ho; cases ho; cases hc
  obtain ⟨cs', hb, hz, hi⟩ := h.row
  refine ⟨⟨cs', (hg.block N (Array.getElem?_eq_some_iff.1 hb).1 (ne hb)).trans hb, hz, hi⟩, h.bp.kept hg (ne h.bp), h.bn.kept hg (ne h.bn), grown_more h.gr hg (fun r e => .inr (Nat.le_trans hB (hr r e).1))⟩

/-- What write leaves. -/
structure Wrote (w : World) (N off s v : Nat) (cs : Array Value) (w' : World) : Prop where
  row : ∃ cs' : Array Value, w'.heap[N]? = some (.cells cs' 5 (0, 0)) ∧ cs'.size = cs.size ∧ ∀ i : Nat, cs'[i]? = if off ≤ i ∧ i < off + s then some (.int .u8 ((digN v s).getD (i - off) 0 : Nat)) else cs[i]?
  gr : w.grownBy w' (some N)

theorem wrel_end {w W : World} {N off s v c D : Nat} {cs : Array Value} {o : Obj} (h : WRel w W N off s v c cs (List.finRange s)) (hN : N < w.heap.size) (hD : w.heap.size ≤ D) : Wrote w N off s v cs (W.putObj D o) := by
  obtain ⟨cs', hb, hz, hi⟩ := h.row
  refine ⟨⟨cs', (World.putObj_heap_other (by omega)).trans hb, hz, fun i => ?_⟩, grown_more h.gr (grownBy_putObj' W D o) (fun r e => by cases e; exact .inr hD)⟩
  rw [hi i]
  unfold wroteC
  by_cases g : off ≤ i ∧ i < off + s
  · rw [if_pos g, if_pos ⟨⟨i - off, by omega⟩, List.mem_finRange _, by simp only; omega⟩]
  · rw [if_neg g, if_neg]
    rintro ⟨y, _, ey⟩
    have := y.isLt
    omega

theorem add_at (N off x : Nat) : (⟨N, off, none⟩ : Addr).add x = ⟨N, off + x, none⟩ := by unfold Addr.add; split <;> simp_all

set_option maxRecDepth 100000 in
set_option maxHeartbeats 4000000 in
theorem pwrite_in (F : Fence) (n : Nat) (h34 : F.fn 41) (h45 : F.fn 45) (h46 : F.fn 48) (hro : F.round = none) (hn : 3 ≤ n)
    (w : World) (N off s c v : Nat) (cs : Array Value) (hN : w.heap[N]? = some (.cells cs 5 (0, 0))) (hs : s ≤ 8) (hc : off + s ≤ cs.size) (hv : v < 18446744073709551616) :
    CallsIn F n Try.prog 41 #[.slice (some ⟨N, off, none⟩) s c, .int .u64 v] w fun e w' => (∃ u, e = .returned u) ∧ Wrote w N off s v cs w' := by
  have h1 : 1 ≤ n := by omega
  have NL : N < w.heap.size := (Array.getElem?_eq_some_iff.1 hN).1
  refine callsIn_of_wp_marks Try.func41 rfl h34 ?_ hro
  simp only [Try.ntmps41, List.size_toArray, List.length_cons, List.length_nil, Nat.reduceAdd, Nat.reduceSub, Array.replicate_succ, Array.replicate_zero, List.push_toArray, List.append_toArray, List.nil_append, List.cons_append]
  have HN := Lib.hid hN
  clear hN
  gi_wp2_with (gi_at_call 45; refine (pdigits_in F (n - 1) h45 hro _ _ _ _).mono ?_; rintro e w' ⟨rfl, rfl⟩)
  have b0 := Boxed.new w 25 (.slice (some ⟨N, off, none⟩) s c)
  have b1 := Boxed.new (w.alloc (.cells #[.slice (some ⟨N, off, none⟩) s c] 25)) 53 (.int .u64 (v : Int))
  rw [World.size_alloc] at b1
  have b2 := Boxed.new ((w.alloc (.cells #[.slice (some ⟨N, off, none⟩) s c] 25)).alloc (.cells #[.int .u64 (v : Int)] 53)) 25 (.slice (some ⟨N, off, none⟩) s c)
  rw [World.size_alloc, World.size_alloc] at b2
  have R0 : WRel w (((w.alloc (.cells #[.slice (some ⟨N, off, none⟩) s c] 25)).alloc (.cells #[.int .u64 (v : Int)] 53)).alloc (.cells #[.slice (some ⟨N, off, none⟩) s c] 25)) N off s v c cs [] := by
    refine ⟨⟨cs, ?_, rfl, fun i => by unfold wroteC; rw [if_neg (by rintro ⟨x, hx, _⟩; cases hx)]⟩, (b0.alloc _).alloc _, b1.alloc _, ?_⟩
    · exact (Below.heap_alloc _ _ _ (by simp; omega)).trans ((Below.heap_alloc _ _ _ (by simp; omega)).trans ((Below.heap_alloc _ _ _ NL).trans HN.out))
    · exact grown_more (grown_more (grown_more (row := none) (World.grownBy.refl w (some N)) (World.grownBy_alloc _ _ _) (fun r e => by cases e)) (World.grownBy_alloc _ _ none) (fun r e => by cases e)) (World.grownBy_alloc _ _ none) (fun r e => by cases e)
  obtain ⟨w3, hw3⟩ : ∃ w3, ((w.alloc (.cells #[.slice (some ⟨N, off, none⟩) s c] 25)).alloc (.cells #[.int .u64 (v : Int)] 53)).alloc (.cells #[.slice (some ⟨N, off, none⟩) s c] 25) = w3 := ⟨_, rfl⟩
  have z3 : w3.heap.size = w.heap.size + 3 := by rw [← hw3]; simp
  have b2' := b2.cell
  rw [hw3] at R0 b2' ⊢
  clear b0 b1 b2 hw3
  refine wpIn_rangeFunc_ownG hro h1 (gf := 48) (lb := #[.pointer (some ⟨w.heap.size + 1 + 1, 0, none⟩)]) rfl h46 (enters_of Try.func48 (by kernel_rfl) rfl)
    (pdigits_stops F (n - 1) h46 hro (by omega) (w.heap.size + 1 + 1) s c _ hs _ b2') kpBox_t kpBox_b (Below.refl _ _) (fun _ => rfl)
    (fun pre W => WRel w W N off s v c cs pre)
    (fun _ _ _ => False)
    (wrel_own w N off s v c w3.heap.size cs (by omega))
    (fun _ _ _ _ _ hs _ _ => hs)
    R0
    (fun x => { tmps := #[.slice (some ⟨N, off, none⟩) s c, .int .u64 v, .pointer (some ⟨w.heap.size, 0, none⟩), .pointer (some ⟨w.heap.size + 1, 0, none⟩), .int .i64 (x.val : Int), .int .i64 (shD s x : Int), .slice (some ⟨N, off, none⟩) s c, .func (.func 48) #[] #[.pointer (some ⟨w.heap.size + 1 + 1, 0, none⟩)], .int .i64 (x.val : Int), .int .i64 (shD s x : Int), undef, undef, undef, undef, undef, undef, undef], defers := [] }) ?assign ?body ?done ?stop
  case assign =>
    intro l x W K hK
    gi_wp2
    exact hK
  case body =>
    rintro l pre x W R _
    have hd : 1 ≤ n - 1 - 1 := by omega
    have hmx : Try.prog.follows .mixedOrders = true := by kernel_rfl
    obtain ⟨cs', hb, hz, hi⟩ := R.row
    have xl := x.isLt
    have c0 := R.bp.cell
    have c1 := R.bn.cell
    obtain ⟨u, cu⟩ : ∃ u, W.cell? ⟨N, off + x.val, none⟩ = some u := by
      rw [blk_cell hb]
      exact ⟨_, Array.getElem?_eq_getElem (by omega)⟩
    have f0 : W.frozen? ⟨N, off + x.val, none⟩ = false := blk_free hb
    have ad : (⟨N, off, none⟩ : Addr).add x.val = ⟨N, off + x.val, none⟩ := add_at _ _ _
    obtain ⟨d, hd'⟩ : ∃ d, d = (digN v s).getD x.val 0 := ⟨_, rfl⟩
    have m56 := shD_le hs x
    have dp := shD_pow x v
    rw [← hd'] at dp
    obtain ⟨k, hk⟩ : ∃ k, k = x.val := ⟨_, rfl⟩
    obtain ⟨m, hm⟩ : ∃ m, m = shD s x := ⟨_, rfl⟩
    rw [← hk] at xl cu f0 ad
    rw [← hm] at m56 dp
    rw [← hk, ← hm]
    have STEP : Hid (KeepsFrom w3.heap.size W (W.setCell ⟨N, off + k, none⟩ (.int .u8 (d : Int))).drew ∧ KpBox (w.heap.size + 1 + 1) W (W.setCell ⟨N, off + k, none⟩ (.int .u8 (d : Int))).drew ∧ WRel w (W.setCell ⟨N, off + k, none⟩ (.int .u8 (d : Int))).drew N off s v c cs (pre ++ [x])) :=
      ⟨((KeepsOthers.setCell _ _ _).trans (KeepsOthers.drew _)).from _, fun u hu => (World.cell?_setCell_other W _ _ _ (fun e => by have := congrArg Addr.block e; simp only at this; omega)).trans hu, wrel_drew (wrel_step R NL hc x (by rw [hk]) hd')⟩
    obtain ⟨q, hq⟩ : ∃ q, q = v / 2 ^ m := ⟨_, rfl⟩
    rw [← hq] at dp
    have e1 : (v : Int) / 2 ^ m = (q : Int) := by rw [hq]; simp
    have qv : q ≤ v := by rw [hq]; exact Nat.div_le_self _ _
    have e2 : IntKind.u64.wrap (q : Int) = (q : Int) := by rw [IntKind.wrap_u64]; omega
    have e3 : IntKind.u8.wrap (q : Int) = (d : Int) := by rw [IntKind.wrap_u8]; omega
    have kl : (k : Int) < (s : Int) := by omega
    have m2 : (m : Int) ≤ 56 := by omega
    have RR := Lib.hid R
    clear hb hz hi R dp hq hk hm hd'
    gi_wp2
    gi_region_with_o (fail)
    all_goals gi_wp2
    all_goals exact STEP.out
  case done =>
    rintro D xs W hD rfl R hK
    gi_wp2
    refine ⟨by simp, .inl ⟨_, _, rfl, run_takeDeferred hK, ?_⟩⟩
    exact ⟨_, results_none rfl _ _ _, ⟨_, rfl⟩, wrel_end R NL (by omega)⟩
  case stop =>
    rintro D c pre W _ _ h _
    exact h.elim

theorem pwrite_any (w : World) (N off s c v : Nat) (cs : Array Value) (hN : w.heap[N]? = some (.cells cs 5 (0, 0))) (hs : s ≤ 8) (hc : off + s ≤ cs.size) (hv : v < 18446744073709551616) :
    Calls Try.prog 41 #[.slice (some ⟨N, off, none⟩) s c, .int .u64 v] w fun e w' => (∃ u, e = .returned u) ∧ Wrote w N off s v cs w' :=
  (callsIn_wide (n := 3)).1 (pwrite_in Fence.wide 3 trivial trivial trivial rfl (by omega) w N off s c v cs hN hs hc hv)
end Go.Proofs.Yteclcefeipjoeaa

