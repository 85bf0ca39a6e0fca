/- Layer 11 (mono): Until: when a time is reached, by halves. -/
import Derived.Test.YtogkjgglpokkaaaMonoC
set_option maxRecDepth 100000
namespace Go.Proofs.Ytogkjgglpokkaaa
open Go.ChangeShapes Go.WideShapes Go.ChangeAt Go.RowKit MonoM

def intAt (w : World) (a : Addr) : Int := match w.cell? a with | some (.int _ z) => z | _ => 0
theorem intAt_of {w : World} {a : Addr} {k : IntKind} {z : Int} (h : w.cell? a = some (.int k z)) : intAt w a = z := by unfold intAt; rw [h]

/-- The least of 0 to MaxSpan that reaches it. -/
def LeastP (w : World) (P : Int → Bool) (r : Ending) (w' : World) : Prop :=
  Below w.heap.size w w' ∧ ((∃ d : Int, r = .returned (.tuple #[.int .i64 d, .bool true]) ∧ 0 ≤ d ∧ d ≤ 1125899906842624 ∧ P d = true ∧ (d = 0 ∨ P (d - 1) = false)) ∨ (r = .returned (.tuple #[.int .i64 0, .bool false]) ∧ P 1125899906842624 = false))

structure LeS (w wr : World) (P : Int → Bool) (lo hi : Int) : Prop where
  c : wr.heap[w.heap.size]? = some (.cells #[.int .i64 lo, .int .i64 hi] 65 (0, 0))
  low : Below w.heap.size w wr
  b0 : -1 ≤ lo
  b1 : lo < hi
  b2 : hi ≤ 1125899906842624
  ph : P hi = true
  pl : lo = -1 ∨ P lo = false

set_option maxHeartbeats 2000000 in
theorem pleast11_any (w : World) (P : Int → Bool) (C : Array Value)
    (RE : ∀ w' d, Below w.heap.size w w' → 0 ≤ d → d ≤ 1125899906842624 → Calls Try.prog 27 (#[.int .i64 d] ++ C) w' fun e w'' => e = .returned (.bool (P d)) ∧ Below w'.heap.size w' w'') :
    Calls Try.prog 26 #[.func (.func 27) #[] C] w (LeastP w P) := by
  have R := Lib.hid RE
  have A : Hid (Below w.heap.size w (w.alloc (.cells #[.int .i64 (-1), .int .i64 1125899906842624] 65)) ∧ (w.alloc (.cells #[.int .i64 (-1), .int .i64 1125899906842624] 65)).heap[w.heap.size]? = some (.cells #[.int .i64 (-1), .int .i64 1125899906842624] 65 (0, 0))) := ⟨(Below.refl _ _).alloc (Nat.le_refl _) _, heap_alloc_new _ _⟩
  clear RE
  go_enter Try.func26, Try.ntmps26
  go_wp2_with fail
  refine (R.out _ _ A.out.1 (by decide) (by decide)).mono ?_; rintro e w1 ⟨rfl, l1⟩
  have K1 : Hid (w1.heap[w.heap.size]? = some (.cells #[.int .i64 (-1), .int .i64 1125899906842624] 65 (0, 0))) := (l1.block _ (Array.getElem?_eq_some_iff.1 A.out.2).1).trans A.out.2
  have L1 : Hid (Below w.heap.size w w1) := A.out.1.trans (l1.mono A.out.1.size)
  clear l1 A
  obtain ⟨b, hb⟩ : ∃ b, P 1125899906842624 = b := ⟨_, rfl⟩
  have HB := Lib.hid hb
  rw [hb]
  clear hb
  cases b
  · have F : Hid (LeastP w P (.returned (.tuple #[.int .i64 0, .bool false])) w1) := ⟨L1.out, .inr ⟨rfl, HB.out⟩⟩
    go_wp2
    go_ret2
    exact F.out
  go_wp2_with fail
  go_loopw [5] (fun _ wr => ∃ lo hi : Int, Hid (LeS w wr P lo hi)) (fun _ wr => (intAt wr ⟨w.heap.size, 1, none⟩ - intAt wr ⟨w.heap.size, 0, none⟩).toNat)
  case atStart => exact ⟨-1, 1125899906842624, K1.out, L1.out, by decide, by decide, by decide, HB.out, .inl rfl⟩
  case round =>
    clear K1 L1 HB
    obtain ⟨lo, hi, I⟩ := hrel
    have C0 := blk_cell (o := 0) I.out.c
    have C1 := blk_cell (o := 1) I.out.c
    have F0 := blk_free (o := 0) I.out.c
    have F1 := blk_free (o := 1) I.out.c
    simp only [List.getElem?_toArray, List.getElem?_cons_zero, List.getElem?_cons_succ] at C0 C1
    obtain ⟨g, hg⟩ : ∃ g, hi - lo = g := ⟨_, rfl⟩
    have b0 := I.out.b0
    have b1 := I.out.b1
    have b2 := I.out.b2
    have w1 : wrap64 g = g := by unfold wrap64; omega
    have w2 : IntKind.i64.wrap g = g := by rw [IntKind.wrap_i64]; omega
    have M0 : intAt wr ⟨w.heap.size, 0, none⟩ = lo := intAt_of C0
    have M1 : intAt wr ⟨w.heap.size, 1, none⟩ = hi := intAt_of C1
    by_cases stop : g ≤ 1
    · have d1 : decide (1 < g) = false := decide_eq_false (by omega)
      have F : Hid (LeastP w P (.returned (.tuple #[.int .i64 hi, .bool true])) wr) := by
        refine ⟨I.out.low, .inl ⟨hi, rfl, by omega, b2, I.out.ph, ?_⟩⟩
        rcases I.out.pl with h | h
        · left; omega
        · right; rw [show hi - 1 = lo by omega]; exact h
      clear I b0 b1 b2 M0 M1
      go_wp2
      go_ret2
      exact F.out
    · have d1 : decide (1 < g) = true := decide_eq_true (by omega)
      have d2 : 1 < g := by omega
      obtain ⟨k, hk⟩ : ∃ k, g / 2 = k := ⟨_, rfl⟩
      have kt : g.tdiv 2 = k := by rw [Int.tdiv_eq_ediv_of_nonneg (by omega)]; exact hk
      obtain ⟨m, hm⟩ : ∃ m, lo + k = m := ⟨_, rfl⟩
      have m0 : 0 ≤ m := by omega
      have m1 : m ≤ 1125899906842624 := by omega
      have m2 : m < hi := by omega
      have m3 : lo < m := by omega
      have w3 : wrap64 k = k := by unfold wrap64; omega
      have w4 : wrap64 m = m := by unfold wrap64; omega
      have w5 : IntKind.i64.wrap k = k := by rw [IntKind.wrap_i64]; omega
      have w6 : IntKind.i64.wrap m = m := by rw [IntKind.wrap_i64]; omega
      have MM : Hid (lo < m ∧ m < hi ∧ m ≤ 1125899906842624 ∧ 0 ≤ m) := ⟨m3, m2, m1, m0⟩
      have RM := Lib.hid (fun w' l => R.out w' m l m0 m1)
      have NM := Lib.hid (And.intro M0 M1)
      clear b0 b1 b2 M0 M1 m0 m1 m2 m3 stop
      go_wp2_with fail
      refine (RM.out wr I.out.low).mono ?_; rintro e w3 ⟨rfl, l3⟩
      have K3 : Hid (w3.heap[w.heap.size]? = some (.cells #[.int .i64 lo, .int .i64 hi] 65 (0, 0))) := (l3.block _ (Array.getElem?_eq_some_iff.1 I.out.c).1).trans I.out.c
      have L3 : Hid (Below w.heap.size w w3) := I.out.low.trans (l3.mono I.out.low.size)
      have G0 := blk_cell (o := 0) K3.out
      have G1 := blk_cell (o := 1) K3.out
      have E0 := blk_free (o := 0) K3.out
      have E1 := blk_free (o := 1) K3.out
      simp only [List.getElem?_toArray, List.getElem?_cons_zero, List.getElem?_cons_succ] at G0 G1
      obtain ⟨b, hb⟩ : ∃ b, P m = b := ⟨_, rfl⟩
      have HB := Lib.hid hb
      rw [hb]
      clear hb l3 hm hk RM
      cases b
      · have S : Hid (LeS w (w3.setCell ⟨w.heap.size, 0, none⟩ (.int .i64 m)) P m hi) := ⟨blk_set K3.out, L3.out.setCell (Nat.le_refl _) _, by have := MM.out; omega, MM.out.2.1, I.out.b2, I.out.ph, .inr HB.out⟩
        have Q : Hid ((intAt (w3.setCell ⟨w.heap.size, 0, none⟩ (.int .i64 m)) ⟨w.heap.size, 1, none⟩ - intAt (w3.setCell ⟨w.heap.size, 0, none⟩ (.int .i64 m)) ⟨w.heap.size, 0, none⟩).toNat < (intAt wr ⟨w.heap.size, 1, none⟩ - intAt wr ⟨w.heap.size, 0, none⟩).toNat) := by
          unfold Hid
          rw [intAt_of (blk_cell (o := 0) S.out.c), intAt_of (blk_cell (o := 1) S.out.c), NM.out.1, NM.out.2]
          have := MM.out
          omega
        go_wp2
        go_roundw
        case rel => exact ⟨m, hi, S⟩
        case measure => exact Q.out
      · have S : Hid (LeS w (w3.setCell ⟨w.heap.size, 1, none⟩ (.int .i64 m)) P lo m) := ⟨blk_set K3.out, L3.out.setCell (Nat.le_refl _) _, I.out.b0, MM.out.1, MM.out.2.2.1, HB.out, I.out.pl⟩
        have Q : Hid ((intAt (w3.setCell ⟨w.heap.size, 1, none⟩ (.int .i64 m)) ⟨w.heap.size, 1, none⟩ - intAt (w3.setCell ⟨w.heap.size, 1, none⟩ (.int .i64 m)) ⟨w.heap.size, 0, none⟩).toNat < (intAt wr ⟨w.heap.size, 1, none⟩ - intAt wr ⟨w.heap.size, 0, none⟩).toNat) := by
          unfold Hid
          rw [intAt_of (blk_cell (o := 0) S.out.c), intAt_of (blk_cell (o := 1) S.out.c), NM.out.1, NM.out.2]
          have := MM.out
          omega
        go_wp2
        go_roundw
        case rel => exact ⟨lo, m, S⟩
        case measure => exact Q.out

/-- Is a time reached behind a raw delta? -/
def reachB (x : Mo) (t d : Int) : Bool := decide (t ≤ (x.after d).mono)

set_option maxHeartbeats 2000000 in
theorem preach11_any (w : World) (N M : Nat) (x : Mo) (t d : Int) (T : TypeId) (ok : x.Ok) (c : Clk w N x) (b : w.heap[M]? = some (.cells #[.int .i64 t] T (0, 0))) (h0 : 0 ≤ d) (h1 : d ≤ 1125899906842624) :
    Calls Try.prog 27 #[.int .i64 d, .pointer (some ⟨N, 0, none⟩), .pointer (some ⟨M, 0, none⟩)] w fun e w' => e = .returned (.bool (reachB x t d)) ∧ Below w.heap.size w w' := by
  unfold reachB
  have AF := Lib.hid (fun V w' (hb : Below V.heap.size V w') => show Calls Try.prog 24 #[moV x, .int .i64 d] w' fun e w'' => e = .returned (moV (x.after d)) ∧ Below V.heap.size V w'' from
    (pafter11_any w' x d ok h0 h1).mono fun e w'' ⟨a, b⟩ => ⟨a, hb.trans (b.mono hb.size)⟩)
  have fb := fun a b c d e f w => field11_2 a b c d e f w
  obtain ⟨y, hy⟩ : ∃ y, x.after d = y := ⟨_, rfl⟩
  rw [hy]
  simp only [hy] at AF
  obtain ⟨raw, mono, rate, rest, full⟩ := x
  obtain ⟨raw', mono', rate', rest', full'⟩ := y
  simp only [moV_of] at AF
  dsimp only
  have KK : Hid (∀ w', Below w.heap.size w w' → w'.cell? ⟨N, 0, none⟩ = some (.bool true) ∧ w'.cell? ⟨N, 1, none⟩ = some (.int .i64 raw) ∧ w'.cell? ⟨N, 2, none⟩ = some (.int .i64 mono) ∧ w'.cell? ⟨N, 3, none⟩ = some (.int .i64 rate) ∧ w'.cell? ⟨N, 4, none⟩ = some (.int .i64 rest) ∧ w'.cell? ⟨N, 5, none⟩ = some (.bool full) ∧ w'.cell? ⟨M, 0, none⟩ = some (.int .i64 t)) := fun w' l => by
    have e := (c.below l).cells
    have f := (l.block _ (Array.getElem?_eq_some_iff.1 b).1).trans b
    exact ⟨blk_cell e, blk_cell e, blk_cell e, blk_cell e, blk_cell e, blk_cell e, blk_cell f⟩
  have HB0 : Below w.heap.size w w := Below.refl _ _
  clear c b ok h0 h1 hy
  go_enter Try.func27, Try.ntmps27
  go_wp2_with fail
  go_region_held3 (fun w' => w'.cell? ⟨N, 0, none⟩ = some (.bool true) ∧ w'.cell? ⟨N, 1, none⟩ = some (.int .i64 raw) ∧ w'.cell? ⟨N, 2, none⟩ = some (.int .i64 mono) ∧ w'.cell? ⟨N, 3, none⟩ = some (.int .i64 rate) ∧ w'.cell? ⟨N, 4, none⟩ = some (.int .i64 rest) ∧ w'.cell? ⟨N, 5, none⟩ = some (.bool full) ∧ w'.cell? ⟨M, 0, none⟩ = some (.int .i64 t))
    (first | exact KK.out _ HB0 | exact KK.out _ HB0.drew)
    (first
      | (go_at_call 24; refine (AF.out _ _ (by first | exact HB0 | exact HB0.drew)).mono ?_; rintro e w4 ⟨rfl, HB0⟩))
  all_goals
    go_wp2
    go_ret
    exact ⟨rfl, HB0⟩

/-- What Until tells. -/
def UntilP (w : World) (x : Mo) (t : Int) (r : Ending) (w' : World) : Prop :=
  Below w.heap.size w w' ∧ ((∃ d : Int, r = .returned (.tuple #[.int .i64 d, .bool true]) ∧ 0 ≤ d ∧ d ≤ 1125899906842624 ∧ t ≤ (x.after d).mono ∧ (d = 0 ∨ (x.after (d - 1)).mono < t)) ∨ (r = .returned (.tuple #[.int .i64 0, .bool false]) ∧ (x.after 1125899906842624).mono < t))

theorem puntil11_any (w : World) (N : Nat) (x : Mo) (t : Int) (ok : x.Ok) (c : Clk w N x) (f : x.full = false) :
    Calls Try.prog 21 #[.pointer (some ⟨N, 0, none⟩), .int .i64 t] w (UntilP w x t) := by
  have B1 : Below w.heap.size w (w.alloc (.cells #[.int .i64 t] 2)) := (Below.refl _ _).alloc (Nat.le_refl _) _
  have R1 : Hid ((w.alloc (.cells #[.int .i64 t] 2)).heap[w.heap.size]? = some (.cells #[.int .i64 t] 2 (0, 0))) := heap_alloc_new _ _
  have HE := Lib.hid (pheld11_any _ N x (c.below B1))
  have LB := Lib.hid B1
  have OK := Lib.hid ok
  obtain ⟨raw, mono, rate, rest, full⟩ := x
  rw [moV_of] at HE
  dsimp only at f
  subst f
  clear c B1 ok
  go_enter Try.func21, Try.ntmps21
  go_wp2_with fail
  refine HE.out.mono ?_; rintro e w1 ⟨rfl, l⟩
  have CK : Hid (Clk (w1.alloc (.cells #[.bool true, .int .i64 raw, .int .i64 mono, .int .i64 rate, .int .i64 rest, .bool false] 49)) w1.heap.size ⟨raw, mono, rate, rest, false⟩) := heap_alloc_new _ _
  have L1 : Hid (Below w.heap.size w w1) := LB.out.trans (l.mono LB.out.size)
  have AL : Below w1.heap.size w1 (w1.alloc (.cells #[.bool true, .int .i64 raw, .int .i64 mono, .int .i64 rate, .int .i64 rest, .bool false] 49)) := (Below.refl _ _).alloc (Nat.le_refl _) _
  have R2 : Hid ((w1.alloc (.cells #[.bool true, .int .i64 raw, .int .i64 mono, .int .i64 rate, .int .i64 rest, .bool false] 49)).heap[w.heap.size]? = some (.cells #[.int .i64 t] 2 (0, 0))) := by
    have h1 := (l.block _ (Array.getElem?_eq_some_iff.1 R1.out).1).trans R1.out
    exact (AL.block _ (Array.getElem?_eq_some_iff.1 h1).1).trans h1
  have L2 := Lib.hid (L1.out.trans (AL.mono L1.out.size))
  clear l AL R1 LB HE L1
  go_wp2_with fail
  generalize w1.alloc (.cells #[.bool true, .int .i64 raw, .int .i64 mono, .int .i64 rate, .int .i64 rest, .bool false] 49) = v at *
  refine (pleast11_any v (reachB ⟨raw, mono, rate, rest, false⟩ t) #[.pointer (some ⟨w1.heap.size, 0, none⟩), .pointer (some ⟨w.heap.size, 0, none⟩)] (fun w' d l h0 h1 => preach11_any w' w1.heap.size w.heap.size _ t d 2 OK.out (CK.out.below l) ((l.block _ (Array.getElem?_eq_some_iff.1 R2.out).1).trans R2.out) h0 h1)).mono ?_
  rintro e w2 ⟨l, H⟩
  have L3 := Lib.hid (L2.out.trans (l.mono L2.out.size))
  clear l
  rcases H with ⟨d, rfl, h0, h1, h2, h3⟩ | ⟨rfl, h⟩
  · have F : Hid (UntilP w ⟨raw, mono, rate, rest, false⟩ t (.returned (.tuple #[.int .i64 d, .bool true])) w2) := ⟨L3.out, .inl ⟨d, rfl, h0, h1, by simpa [reachB] using h2, by simpa [reachB] using h3⟩⟩
    clear h0 h1 h2 h3
    go_wp2
    go_ret2
    exact F.out
  · have F : Hid (UntilP w ⟨raw, mono, rate, rest, false⟩ t (.returned (.tuple #[.int .i64 0, .bool false])) w2) := ⟨L3.out, .inr ⟨rfl, by simpa [reachB] using h⟩⟩
    clear h
    go_wp2
    go_ret2
    exact F.out

theorem puntil11_full (w : World) (N : Nat) (x : Mo) (t : Int) (c : Clk w N x) (f : x.full = true) :
    Calls Try.prog 21 #[.pointer (some ⟨N, 0, none⟩), .int .i64 t] w fun e w' => e = .returned (.tuple #[.int .i64 0, .bool false]) ∧ Below w.heap.size w w' := by
  have B1 : Below w.heap.size w (w.alloc (.cells #[.int .i64 t] 2)) := (Below.refl _ _).alloc (Nat.le_refl _) _
  have HE := Lib.hid (pheld11_any _ N x (c.below B1))
  have LB := Lib.hid B1
  obtain ⟨raw, mono, rate, rest, full⟩ := x
  rw [moV_of] at HE
  dsimp only at f
  subst f
  clear c B1
  go_enter Try.func21, Try.ntmps21
  go_wp2_with fail
  refine HE.out.mono ?_; rintro e w1 ⟨rfl, l⟩
  have L1 : Hid (Below w.heap.size w w1) := LB.out.trans (l.mono LB.out.size)
  have L2 := Lib.hid (L1.out.alloc L1.out.size (.cells #[.bool true, .int .i64 raw, .int .i64 mono, .int .i64 rate, .int .i64 rest, .bool true] 49))
  clear l LB HE L1
  go_wp2
  go_ret2
  exact ⟨rfl, L2.out⟩
theorem puntil11_none (w : World) (t : Int) :
    Calls Try.prog 21 #[.pointer none, .int .i64 t] w fun e w' => e = .returned (.tuple #[.int .i64 0, .bool false]) ∧ Below w.heap.size w w' := by
  have B1 : Below w.heap.size w (w.alloc (.cells #[.int .i64 t] 2)) := (Below.refl _ _).alloc (Nat.le_refl _) _
  have HE := Lib.hid (pheld11_none (w.alloc (.cells #[.int .i64 t] 2)))
  have LB := Lib.hid B1
  unfold noneV at HE
  clear B1
  go_enter Try.func21, Try.ntmps21
  go_wp2_with fail
  refine HE.out.mono ?_; rintro e w1 ⟨rfl, l⟩
  have L1 : Hid (Below w.heap.size w w1) := LB.out.trans (l.mono LB.out.size)
  have L2 := Lib.hid (L1.out.alloc L1.out.size (.cells #[.bool false, .int .i64 0, .int .i64 0, .int .i64 0, .int .i64 0, .bool false] 49))
  clear l LB HE L1
  go_wp2
  go_ret2
  exact ⟨rfl, L2.out⟩
end Go.Proofs.Ytogkjgglpokkaaa
