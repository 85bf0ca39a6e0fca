/- Layer 3 (octet): the number that the program's read tells of a place. -/
import Derived.Test.YteclcefeipjoeaaOctJ
import Derived.Laws.BitsAllLaws
namespace Go.Proofs.Yteclcefeipjoeaa
open Go.ChangeShapes Go.WideShapes Go.ChangeAt Go.RowKit OctM
attribute [local go_sem] Oper.semAt_some

/-- The digits of the places pre, each in its place. -/
def orD (ds : List Nat) (s : Nat) (pre : List (Fin s)) : Nat := pre.foldl (fun m x => m ||| ds.getD x.val 0 * 2 ^ shD s x) 0
theorem orD_snoc (ds : List Nat) (s : Nat) (pre : List (Fin s)) (x : Fin s) : orD ds s (pre ++ [x]) = orD ds s pre ||| ds.getD x.val 0 * 2 ^ shD s x := by unfold orD; rw [List.foldl_append]; rfl
theorem dig_lt {ds : List Nat} (h : Byt ds) {s : Nat} (hs : s ≤ 8) (x : Fin s) : ds.getD x.val 0 * 2 ^ shD s x < 2 ^ 64 := by
  have a := byt_get h x.val
  have b := Nat.pow_le_pow_right (n := 2) (by omega) (shD_le hs x)
  have c : ds.getD x.val 0 * 2 ^ shD s x ≤ 255 * 2 ^ 56 := Nat.mul_le_mul (by omega) b
  omega
theorem orD_lt {ds : List Nat} (h : Byt ds) {s : Nat} (hs : s ≤ 8) (pre : List (Fin s)) : orD ds s pre < 2 ^ 64 := by
  unfold orD
  suffices ∀ (m : Nat), m < 2 ^ 64 → pre.foldl (fun m x => m ||| ds.getD x.val 0 * 2 ^ shD s x) m < 2 ^ 64 from this 0 (by decide)
  induction pre with
  | nil => exact fun m hm => hm
  | cons x pre ih => exact fun m hm => ih _ (Nat.or_lt_two_pow hm (dig_lt h hs x))
theorem or_digit (a d k : Nat) (h : d < 256) : a * 2 ^ (8 * (k + 1)) ||| d * 2 ^ (8 * k) = (a * 256 + d) * 2 ^ (8 * k) := by
  have e : a * 2 ^ (8 * (k + 1)) = (a <<< 8) <<< (8 * k) := by rw [Nat.shiftLeft_eq, Nat.shiftLeft_eq, Nat.mul_add, Nat.pow_add, Nat.mul_one, Nat.mul_comm (2 ^ (8 * k)), Nat.mul_assoc]
  rw [e, ← Nat.shiftLeft_eq d, ← Nat.shiftLeft_or_distrib, ← Nat.shiftLeft_add_eq_or_of_lt (by simpa using h), Nat.shiftLeft_eq, Nat.shiftLeft_eq]
theorem orD_take {ds : List Nat} (h : Byt ds) (k : Nat) (hk : k ≤ ds.length) : orD ds ds.length ((List.finRange ds.length).take k) = numN (ds.take k) * 2 ^ (8 * (ds.length - k)) := by
  induction k with
  | zero => simp [orD, numN]
  | succ k ih =>
    rw [fin_succ (by omega), orD_snoc, ih (by omega), take_next (by omega), numN_snoc]
    unfold shD
    simp only
    rw [show ds.length - k = (ds.length - 1 - k) + 1 by omega, show ds.length - (k + 1) = ds.length - 1 - k by omega, or_digit _ _ _ (byt_get h k)]
theorem orD_all {ds : List Nat} (h : Byt ds) : orD ds ds.length (List.finRange ds.length) = numN ds := by
  have a := orD_take h ds.length (Nat.le_refl _)
  rw [List.take_of_length_le (by simp), List.take_of_length_le (Nat.le_refl _), Nat.sub_self] at a
  simpa using a

structure RRel (w W : World) (a : Addr) (s c : Nat) (ds : List Nat) (pre : List (Fin s)) : Prop where
  bp : Boxed W w.heap.size 25 (.slice (some a) s c)
  bn : Boxed W (w.heap.size + 1) 53 (.int .u64 (orD ds s pre : Nat))
  low : Below w.heap.size w W

theorem rrel_drew {w W : World} {a : Addr} {s c : Nat} {ds : List Nat} {pre : List (Fin s)} (h : RRel w W a s c ds pre) : RRel w W.drew a s c ds pre := ⟨h.bp, h.bn, h.low.drew⟩
theorem rrel_step {w W : World} {a : Addr} {s c : Nat} {ds : List Nat} {pre : List (Fin s)} (h : RRel w W a s c ds pre) (x : Fin s) {r : Nat} (hr : r = orD ds s pre ||| ds.getD x.val 0 * 2 ^ shD s x) :
    RRel w (W.setCell ⟨w.heap.size + 1, 0, none⟩ (.int .u64 (r : Int))) a s c ds (pre ++ [x]) :=
  ⟨boxed_set h.bp (by simp), by rw [orD_snoc, ← hr]; exact h.bn.set _, h.low.setCell (by simp) _⟩
theorem rrel_own (w : World) (a : Addr) (s c B : Nat) (ds : List Nat) (hB : w.heap.size ≤ B) : OwnFrom B (fun pre W => RRel w W a s c ds pre) := by
  intro pre X Y row h hg hr
  have ne : ∀ {k : Nat} {C : Array Value} {t : TypeId}, X.heap[k]? = some (.cells C t (0, 0)) → some k ≠ row := fun {k C t} hk e => by
    obtain ⟨_, o, ho, hc⟩ := hr k e.symm
    rw [hk] at ho; cases ho; cases hc
  exact ⟨h.bp.kept hg (ne h.bp), h.bn.kept hg (ne h.bn), h.low.grown hg h.low.size (fun k e => Nat.le_trans hB (hr k e).1)⟩

set_option maxRecDepth 100000 in
set_option maxHeartbeats 8000000 in
theorem pread_in (F : Fence) (n : Nat) (h36 : F.fn 47) (h45 : F.fn 45) (h46 : F.fn 48) (hro : F.round = none) (hn : 3 ≤ n)
    (w : World) (a : Addr) (s c : Nat) (ds : List Nat) (hz : Holds w (some a) s c (valsN .u8 ds)) (hb : Byt ds) (hs : s ≤ 8) :
    CallsIn F n Try.prog 47 #[.slice (some a) s c] w fun e w' => e = .returned (.int .u64 (numN ds : Nat)) ∧ Below w.heap.size w w' := by
  have h1 : 1 ≤ n := by omega
  have ld : ds.length = s := by have := hz.len; rwa [valsN_len] at this
  have HZ := Lib.hid hz
  have HB := Lib.hid hb
  have LD := Lib.hid ld
  clear hz hb ld
  refine callsIn_of_wp_marks Try.func47 rfl h36 ?_ hro
  simp only [Try.ntmps47, List.size_toArray, List.length_cons, List.length_nil, Nat.reduceAdd, Nat.reduceSub, Array.replicate_succ, Array.replicate_zero, List.push_toArray, List.append_toArray, List.nil_append, List.cons_append]
  gi_wp2_with (gi_at_call 45; refine (pdigits_in F (n - 1) h45 hro _ _ _ _).mono ?_; rintro e w' ⟨rfl, rfl⟩)
  have b0 := Boxed.new w 25 (.slice (some a) s c)
  have b1 := Boxed.new (w.alloc (.cells #[.slice (some a) s c] 25)) 53 (.int .u64 0)
  rw [World.size_alloc] at b1
  have b2 := Boxed.new ((w.alloc (.cells #[.slice (some a) s c] 25)).alloc (.cells #[.int .u64 0] 53)) 25 (.slice (some a) s c)
  rw [World.size_alloc, World.size_alloc] at b2
  have R0 : RRel w (((w.alloc (.cells #[.slice (some a) s c] 25)).alloc (.cells #[.int .u64 0] 53)).alloc (.cells #[.slice (some a) s c] 25)) a s c ds [] :=
    ⟨(b0.alloc _).alloc _, b1.alloc _, (((Below.refl _ w).alloc (Nat.le_refl _) _).alloc (by simp) _).alloc (by simp; omega) _⟩
  obtain ⟨w3, hw3⟩ : ∃ w3, ((w.alloc (.cells #[.slice (some a) s c] 25)).alloc (.cells #[.int .u64 0] 53)).alloc (.cells #[.slice (some a) s c] 25) = w3 := ⟨_, rfl⟩
  have z3 : w3.heap.size = w.heap.size + 3 := by rw [← hw3]; simp
  have b2' := b2.cell
  rw [hw3] at R0 b2' ⊢
  clear b0 b1 b2 hw3
  refine wpIn_rangeFunc_ownG hro h1 (gf := 48) (lb := #[.pointer (some ⟨w.heap.size + 1 + 1, 0, none⟩)]) rfl h46 (enters_of Try.func48 (by kernel_rfl) rfl)
    (pdigits_stops F (n - 1) h46 hro (by omega) (w.heap.size + 1 + 1) s c _ hs _ b2') kpBox_t kpBox_b (Below.refl _ _) (fun _ => rfl)
    (fun pre W => RRel w W a s c ds pre)
    (fun _ _ _ => False)
    (rrel_own w a s c w3.heap.size ds (by omega))
    (fun _ _ _ _ _ hs _ _ => hs)
    R0
    (fun x => { tmps := #[.slice (some a) s c, .pointer (some ⟨w.heap.size, 0, none⟩), .int .u64 0, .pointer (some ⟨w.heap.size + 1, 0, none⟩), .int .i64 (x.val : Int), .int .i64 (shD s x : Int), .slice (some a) s c, .func (.func 48) #[] #[.pointer (some ⟨w.heap.size + 1 + 1, 0, none⟩)], .int .i64 (x.val : Int), .int .i64 (shD s x : Int), undef, undef, undef, undef, undef, undef, undef, undef, undef, undef], defers := [] }) ?assign ?body ?done ?stop
  case assign =>
    intro l x W K hK
    gi_wp2
    exact hK
  case body =>
    rintro l pre x W R _
    have hd : 1 ≤ n - 1 - 1 := by omega
    have hmx : Try.prog.follows .mixedOrders = true := by kernel_rfl
    have xl := x.isLt
    have c0 := R.bp.cell
    have c1 := R.bn.cell
    have f1 := R.bn.frozen
    obtain ⟨a', ea, cu⟩ := (HZ.out.below R.low).atN xl
    cases ea
    have tb := orD_lt HB.out hs pre
    have yb := dig_lt HB.out hs x
    have m56 := shD_le hs x
    have db := byt_get HB.out x.val
    obtain ⟨t, ht⟩ : ∃ t, t = orD ds s pre := ⟨_, rfl⟩
    obtain ⟨r, hr⟩ : ∃ r, r = orD ds s pre ||| ds.getD x.val 0 * 2 ^ shD s x := ⟨_, rfl⟩
    obtain ⟨y, hy⟩ : ∃ y, y = ds.getD x.val 0 * 2 ^ shD s x := ⟨_, rfl⟩
    have STEP : Hid (KeepsFrom w3.heap.size W (W.setCell ⟨w.heap.size + 1, 0, none⟩ (.int .u64 (r : Int))).drew ∧ KpBox (w.heap.size + 1 + 1) W (W.setCell ⟨w.heap.size + 1, 0, none⟩ (.int .u64 (r : Int))).drew ∧ RRel w (W.setCell ⟨w.heap.size + 1, 0, none⟩ (.int .u64 (r : Int))).drew a s c ds (pre ++ [x])) :=
      ⟨((KeepsOthers.setCell _ _ _).trans (KeepsOthers.drew _)).from _, fun u hu => (World.cell?_setCell_other W _ _ _ (fun e => by have := congrArg Addr.block e; simp only at this; omega)).trans hu, rrel_drew (rrel_step R x hr)⟩
    rw [← hy] at yb hr
    rw [← ht] at tb hr c1
    obtain ⟨d, hd'⟩ : ∃ d, d = ds.getD x.val 0 := ⟨_, rfl⟩
    rw [← hd'] at db cu hy
    obtain ⟨k, hk⟩ : ∃ k, k = x.val := ⟨_, rfl⟩
    obtain ⟨m, hm⟩ : ∃ m, m = shD s x := ⟨_, rfl⟩
    rw [← hk] at xl cu
    rw [← hm] at m56 hy
    rw [← hk, ← hm]
    have e0 : IntKind.u64.wrap (d : Int) = (d : Int) := by rw [IntKind.wrap_u64]; omega
    have e1 : (d : Int) * 2 ^ m = (y : Int) := by rw [hy]; simp
    have e2 : IntKind.u64.wrap (y : Int) = (y : Int) := by rw [IntKind.wrap_u64]; omega
    have e3 : bits .or .u64 (t : Int) (y : Int) = (r : Int) := by rw [hr]; exact u64_or_nat t y (by omega) (by omega)
    have kl : (k : Int) < (s : Int) := by omega
    have m2 : (m : Int) ≤ 56 := by omega
    clear R yb tb hr ht hy hd' hk hm db
    gi_wp2
    gi_region_with_o (fail)
    all_goals gi_wp2
    all_goals exact STEP.out
  case done =>
    rintro D xs W hD rfl R hK
    have c1 := R.bn.cell
    have E : Hid (orD ds s (List.finRange s) = numN ds) := by have := LD.out; subst this; exact orD_all HB.out
    rw [E.out] at c1
    gi_wp2
    refine ⟨by simp, .inl ⟨_, _, rfl, run_takeDeferred hK, ?_⟩⟩
    exact ⟨_, results_tmp rfl _ _ _, rfl, R.low.trans (belowK_b (w := w) (Nat.le_refl _) W D _ _ (by omega) hK rfl rfl)⟩
  case stop =>
    rintro D c pre W _ _ h _
    exact h.elim

theorem pread_any (w : World) (p : Option Addr) (s c : Nat) (ds : List Nat) (hz : Holds w p s c (valsN .u8 ds)) (hb : Byt ds) (h1 : 1 ≤ s) (h8 : s ≤ 8) (v : Nat) (hv : numN ds = v) :
    Calls Try.prog 47 #[.slice p s c] w (TellPost w (.returned (.int .u64 v))) := by
  obtain ⟨a, rfl, -⟩ := hz.atN (i := 0) h1
  rw [← hv]
  exact (callsIn_wide (n := 3)).1 (pread_in Fence.wide 3 trivial trivial trivial rfl (by omega) w a s c ds hz hb h8)
end Go.Proofs.Yteclcefeipjoeaa

