/- Layer 14 (timers), the program's own: Fire. -/
import Derived.Test.YtbfmmeapjfljbaaTmG
set_option maxRecDepth 100000
namespace Go.Proofs.Ytbfmmeapjfljbaa
open Go.ChangeShapes Go.WideShapes Go.ChangeAt Go.RowKit Go.Maps HeapM

/-- Timers beside a row of what fired. -/
structure FSt (w wr : World) (F : Nat → Prop) (N : Nat) (s : TS) (p : Option Addr) (n c : Nat) (fs : List FdT) : Prop where
  out : ∃ F', TmP wr F' N s ∧ FT F w wr ∧ (∀ M, F' M → F M ∨ w.heap.size ≤ M) ∧ ∀ a, p = some a → ¬ F' a.block
  own : OwnF wr w.heap.size p n c fs
theorem FSt.start {w : World} {F : Nat → Prop} {N : Nat} {s : TS} (h : TmP w F N s) : FSt w w F N s none 0 0 [] :=
  ⟨⟨F, h, FT.of_below (Below.refl _ _), fun _ hM => .inl hM, fun a ha => by cases ha⟩, OwnF.nil _ _⟩
/-- What a kind's firing tells, beside the row that is there. -/
structure FCall (w : World) (F : Nat → Prop) (N : Nat) (s : TS) (k : Bool) (now : Int) (p : Option Addr) (n c : Nat) (fs : List FdT) (p2 : Option Addr) (n2 c2 : Nat) (ds m : List It) (w' : World) : Prop where
  fir : FireD s k now ds m
  le : n2 ≤ 256
  none : n2 = 0 → p2 = none ∧ c2 = 0 ∧ FSt w w' F N (s.putL k m) p n c (fs ++ ds.map (fireS s k now))
  some : 0 < n2 → ∃ a2, p2 = some a2 ∧ w'.ownsRow w.heap.size 35 6 (.slice p n c) n (cellsF fs) ∧ w.heap.size ≤ w'.heap.size ∧
    (cellsF (ds.map (fireS s k now))).length = n2 * 6 ∧ (∀ j u, (cellsF (ds.map (fireS s k now)))[j]? = some u → w'.cell? (a2.add j) = some u) ∧
    ∀ gg cap w7, w7.ownsRow w.heap.size 35 6 (.slice (.some ⟨gg, 0, .none⟩) (n + n2) cap) (n + n2) (cellsF fs ++ cellsF (ds.map (fireS s k now))) → w'.grownBy w7 (Value.slice p n c).ownBlock → ((Value.slice p n c).ownBlock = .some gg ∨ gg = w'.heap.size) →
      FSt w w7 F N (s.putL k m) (.some ⟨gg, 0, .none⟩) (n + n2) cap (fs ++ ds.map (fireS s k now))
theorem FSt.call {w wr : World} {F : Nat → Prop} {N : Nat} {s : TS} {p : Option Addr} {n c : Nat} {fs : List FdT} (h : FSt w wr F N s p n c fs) (k : Bool) (now : Int) (hn : now ≤ topT) (hi : I64 now) :
    Calls Try.prog 17 #[.pointer (some ⟨N, 0, none⟩), .int .i64 (kI k), .int .i64 now] wr fun r w' => ∃ p2 n2 c2 ds m, r = .returned (.slice p2 n2 c2) ∧ FCall w F N s k now p n c fs p2 n2 c2 ds m w' := by
  obtain ⟨F', h1, t, n1, n2'⟩ := h.out
  refine (pfirekind14 wr F' N s h1 k now hn hi).mono fun r w' ⟨p2, n2, c2, ds, m, r1, fd, ks⟩ => ⟨p2, n2, c2, ds, m, r1, ?_⟩
  obtain ⟨F6, h6, t6, n6, a6⟩ := ks.out
  have hr : ∀ a, p = some a → a.block < wr.heap.size ∧ w.heap.size ≤ a.block ∧ ¬ F' a.block ∧ ¬ F6 a.block ∧ w'.heap[a.block]? = wr.heap[a.block]? := fun a ha => by
    have := h.own
    rw [ha] at this
    refine ⟨this.lt.1, this.lt.2.1, n2' a ha, fun f => ?_, t6.keep _ (n2' a ha) this.lt.1⟩
    rcases n6 _ f with q | q
    · exact n2' a ha q
    · have := this.lt.1; omega
  have O6 : OwnF w' w.heap.size p n c fs := h.own.keep fun a ha => (hr a ha).2.2.2.2
  have T6 : FT F w w' := t.trans t6 n1
  have N6 : ∀ M, F6 M → F M ∨ w.heap.size ≤ M := fun M hM => by
    rcases n6 M hM with q | q
    · exact n1 M q
    · exact .inr (Nat.le_trans t.size q)
  refine ⟨fd, ?_, fun e => ?_, fun e => ?_⟩
  · have := ks.cnt
    have l : dueN now (s.l k) ≤ (s.l k).length := List.countP_le_length
    have := h1.ok.len k
    omega
  · obtain ⟨e1, e2⟩ := ks.nil e
    have d0 : ds = [] := List.eq_nil_of_length_eq_zero (by rw [← ks.len]; exact e)
    refine ⟨e1, e2, ⟨F6, h6, T6, N6, fun a ha => (hr a ha).2.2.2.1⟩, ?_⟩
    rw [d0, List.map_nil, List.append_nil]
    exact O6
  · have own := ks.own
    cases hp : p2 with
    | none =>
      rw [hp] at own
      rcases own.2 with ⟨q, q2⟩ | ⟨g, cap, cur, q, -⟩
      · injection q with q1 q2 q3; omega
      · injection q with q1 q2 q3; cases q1
    | some a2 =>
      rw [hp] at own
      have lt := own.lt
      have oc := own
      unfold OwnF at oc
      rw [lt.2.2] at oc
      refine ⟨a2, rfl, O6, T6.size, by rw [cellsF_len, List.length_map, ks.len], fun j u hu => ?_, fun gg cap w7 o7 g7 m7 => ⟨⟨F6, ?_, ?_, N6, fun a ha => ?_⟩, ?_⟩⟩
      · rw [lt.2.2]
        exact World.ownsRow.cells oc (g := a2.block) rfl j u hu
      · refine h6.keep fun M hM => g7.block M (h6.lt M hM) fun e => ?_
        cases hq : p with
        | none => rw [hq] at e; cases e
        | some a =>
          rw [hq] at e
          injection e with e
          exact (hr a hq).2.2.2.1 (by rw [← e]; exact hM)
      · refine ⟨fun K a b => ?_, fun B a b => ?_, Nat.le_trans T6.size g7.size⟩
        · refine (g7.block K (Nat.lt_of_lt_of_le b T6.size) (fun e => ?_)).trans (T6.keep K a b)
          cases hq : p with
          | none => rw [hq] at e; cases e
          | some q =>
            rw [hq] at e
            injection e with e
            have := (hr q hq).2.1
            omega
        · refine (T6.low B a b).grown g7 (Nat.le_trans b T6.size) (fun j hj => ?_)
          cases hq : p with
          | none => rw [hq] at hj; cases hj
          | some q =>
            rw [hq] at hj
            injection hj with hj
            have := (hr q hq).2.1
            omega
      · injection ha with ha
        subst ha
        intro f
        have lt6 : gg < w'.heap.size := h6.lt _ f
        rcases m7 with e | e
        · cases hq : p with
          | none => rw [hq] at e; cases e
          | some q =>
            rw [hq] at e
            injection e with e
            exact (hr q hq).2.2.2.1 (by rw [e]; exact f)
        · omega
      · unfold OwnF
        rw [cellsF_app]
        exact o7

/-- Both kinds have fired. -/
def FireP (w : World) (F : Nat → Prop) (N : Nat) (s : TS) (mo wa : Int) (r : Ending) (w' : World) : Prop := ∃ p n c ds0 m0 ds1 m1, r = .returned (.slice p n c) ∧ FireD s false mo ds0 m0 ∧ FireD (s.putL false m0) true wa ds1 m1 ∧
  n = ds0.length + ds1.length ∧ FSt w w' F N ((s.putL false m0).putL true m1) p n c (ds0.map (fireS s false mo) ++ ds1.map (fireS s true wa))
/-- Ahead of each round. -/
def FRnd (w wr : World) (F : Nat → Prop) (N : Nat) (s : TS) (mo wa : Int) (i : Nat) (p : Option Addr) (n c : Nat) : Prop := 
  (i = 0 ∧ p = none ∧ n = 0 ∧ c = 0 ∧ wr = w) ∨ (i = 1 ∧ n ≤ 256 ∧ ∃ ds0 m0, FireD s false mo ds0 m0 ∧ FSt w wr F N (s.putL false m0) p n c (ds0.map (fireS s false mo))) ∨ (i = 2 ∧ FireP w F N s mo wa (.returned (.slice p n c)) wr)
theorem FSt.len {w wr : World} {F : Nat → Prop} {N : Nat} {s : TS} {p : Option Addr} {n c : Nat} {fs : List FdT} (h : FSt w wr F N s p n c fs) : n = fs.length := by
  have := h.own.1
  rw [cellsF_len] at this
  omega
theorem fire_end {w wr : World} {F : Nat → Prop} {N : Nat} {s : TS} {mo wa : Int} {p : Option Addr} {n c : Nat} {ds0 m0 ds1 m1 : List It} (f0 : FireD s false mo ds0 m0) (f1 : FireD (s.putL false m0) true wa ds1 m1)
    (h : FSt w wr F N ((s.putL false m0).putL true m1) p n c (ds0.map (fireS s false mo) ++ ds1.map (fireS (s.putL false m0) true wa))) : FireP w F N s mo wa (.returned (.slice p n c)) wr :=
  ⟨p, n, c, ds0, m0, ds1, m1, rfl, f0, f1, by rw [h.len, List.length_append, List.length_map, List.length_map], h⟩

set_option maxHeartbeats 4000000 in
theorem pfire14 (w : World) (F : Nat → Prop) (N : Nat) (s : TS) (h : TmP w F N s) (mono wall : Int) (h1 : I64 mono) (h2 : I64 wall) :
    Calls Try.prog 8 #[.pointer (some ⟨N, 0, none⟩), .int .i64 mono, .int .i64 wall] w (FireP w F N s (min mono topT) (min wall topT)) := by
  obtain ⟨mo, hmo⟩ : ∃ mo, min mono topT = mo := ⟨_, rfl⟩
  obtain ⟨wa, hwa⟩ : ∃ wa, min wall topT = wa := ⟨_, rfl⟩
  rw [hmo, hwa]
  have BM : Hid ((mo ≤ topT ∧ I64 mo) ∧ (wa ≤ topT ∧ I64 wa)) := by
    unfold I64 at h1 h2
    unfold topT at hmo hwa
    unfold Hid topT I64
    omega
  unfold topT at hmo hwa
  have hmo2 : (if (4611686018427387904 : Int) < mono then 4611686018427387904 else mono) = mo := by rw [← hmo]; split <;> omega
  have hwa2 : (if (4611686018427387904 : Int) < wall then 4611686018427387904 else wall) = wa := by rw [← hwa]; split <;> omega
  have T := Lib.hid h
  have MD := h
  obtain ⟨b, R, G, D, -, tb, -, -⟩ := MD
  have M := Lib.hid (pmade14 tb)
  have I0 := idx_0 mono wall
  have I1 := idx_1 mono wall
  obtain ⟨iF, hiF, hz0, hz1, hz2⟩ := infoI_of infoF
  have ONE := Lib.hid cellsF_one
  clear h tb
  go_enter Try.func8, Try.ntmps8
  go_wp2_with (go_at_call 13; refine M.out.mono ?_; rintro e w1 ⟨rfl, rfl⟩)
  go_loopw [7, 16] (fun q i wr => (i = .int .i64 0 ∧ q = .slice none 0 0 ∧ wr = w1) ∨ (i = .int .i64 1 ∧ ∃ p n c ds0 m0, q = .slice p n c ∧ FireD s false mo ds0 m0 ∧ n ≤ 256 ∧ Hid (FSt w1 wr F N (s.putL false m0) p n c (ds0.map (fireS s false mo)))) ∨ (i = .int .i64 2 ∧ ∃ p n c, q = .slice p n c ∧ FireP w1 F N s mo wa (.returned (.slice p n c)) wr)) (fun _ i _ => 10 - (intOf i).toNat)
  case atStart => exact .inl ⟨rfl, rfl, rfl⟩
  case round =>
    rcases hrel with ⟨rfl, rfl, rfl⟩ | ⟨rfl, p, n, c, ds0, m0, rfl, FD0, LN, FS0⟩ | ⟨rfl, p, n, c, rfl, FP⟩
    rotate_left 2
    · have FP := Lib.hid FP
      go_wp2
      go_ret
      exact FP.out
    · have FS0 := FSt.start T.out
      have FC := FS0.call false mo BM.out.1.1 BM.out.1.2
      unfold kI at FC
      simp only [if_false, Bool.false_eq_true] at FC
      have FC := Lib.hid FC
      clear FS0
      go_wp2_with fail
      refine FC.out.mono ?_; rintro e w2 ⟨p2, n2, c2, ds, m, rfl, C2⟩
      have C2 := Lib.hid C2
      clear FC
      by_cases z : n2 = 0
      · obtain ⟨z1, z2, z3⟩ := C2.out.none z
        subst z z1 z2
        have Z3 := Lib.hid z3
        have FD := Lib.hid C2.out.fir
        clear C2 z3
        go_wp2_with (at_builtin; refine wpList_append_own_none rfl _ _ 32 rfl _ 35 iF 6 Try.underlying32 hiF (.slice none 0 0) 0 _ rfl Z3.out.own rfl ?_)
        go_roundw
        case rel => exact .inr (.inl ⟨rfl, _, _, _, _, _, rfl, FD.out, Nat.zero_le _, Z3⟩)
        case measure => decide
      · obtain ⟨a2, z1, OW, SZ, NL, NW, ST⟩ := C2.out.some (by omega)
        subst z1
        have FD := Lib.hid C2.out.fir
        have LE := Lib.hid C2.out.le
        have OW := Lib.hid OW
        have SZ := Lib.hid SZ
        have NL := Lib.hid NL
        have NW := Lib.hid NW
        have ST := Lib.hid ST
        have Z := Lib.hid (show 0 < n2 by omega)
        have BA : Hid (0 + n2 ≤ maxLen) := by have := LE.out; unfold Hid maxLen; omega
        have BY : Hid ((0 + n2) * 48 ≤ 140737488355328) := by have := LE.out; unfold Hid; omega
        clear C2 z
        go_wp2_with (at_builtin; refine wpList_append_lies _ rfl _ _ 32 rfl _ 35 iF (.agg #[.int .u64 0, .bool false, .int .i64 0, .int .i64 0, .int .i64 0, .int .i64 0]) 6 48 Try.underlying32 hiF hz0 hz1 hz2 (by rfl) (by decide) (.slice none 0 0) 0 (cellsF []) rfl OW.out a2 n2 c2 (cellsF (ds.map (fireS s false mo))) rfl NL.out NW.out (ONE.out _) Z.out BA.out BY.out SZ.out _ rfl ?_; intro gg cap w7 o7 g7 m7 lt7; have K7 := Lib.hid (ST.out gg cap w7 o7 g7 m7); clear o7 g7 m7 lt7 OW SZ ST NL NW)
        go_roundw
        case rel => exact (by have K8 := K7.out; rw [Nat.zero_add, List.nil_append] at K8; exact .inr (.inl ⟨rfl, _, _, _, _, _, rfl, FD.out, LE.out, K8⟩))
        case measure => decide
    · have FD0 := Lib.hid FD0
      have LN := Lib.hid LN
      have FS0 := FS0.out
      have FC := FS0.call true wa BM.out.2.1 BM.out.2.2
      unfold kI at FC
      simp only [if_true] at FC
      have FC := Lib.hid FC
      clear FS0
      go_wp2_with fail
      refine FC.out.mono ?_; rintro e w2 ⟨p2, n2, c2, ds, m, rfl, C2⟩
      have C2 := Lib.hid C2
      clear FC
      by_cases z : n2 = 0
      · obtain ⟨z1, z2, z3⟩ := C2.out.none z
        subst z z1 z2
        have Z3 := Lib.hid z3
        have FD := Lib.hid C2.out.fir
        clear C2 z3
        go_wp2_with (at_builtin; refine wpList_append_own_none rfl _ _ 32 rfl _ 35 iF 6 Try.underlying32 hiF (.slice p n c) n _ rfl Z3.out.own rfl ?_)
        go_roundw
        case rel => exact .inr (.inr ⟨rfl, _, _, _, rfl, fire_end FD0.out FD.out Z3.out⟩)
        case measure => decide
      · obtain ⟨a2, z1, OW, SZ, NL, NW, ST⟩ := C2.out.some (by omega)
        subst z1
        have FD := Lib.hid C2.out.fir
        have LE := Lib.hid C2.out.le
        have OW := Lib.hid OW
        have SZ := Lib.hid SZ
        have NL := Lib.hid NL
        have NW := Lib.hid NW
        have ST := Lib.hid ST
        have Z := Lib.hid (show 0 < n2 by omega)
        have BA : Hid (n + n2 ≤ maxLen) := by have := LE.out; have := LN.out; unfold Hid maxLen; omega
        have BY : Hid ((n + n2) * 48 ≤ 140737488355328) := by have := LE.out; have := LN.out; unfold Hid; omega
        clear C2 z
        go_wp2_with (at_builtin; refine wpList_append_lies _ rfl _ _ 32 rfl _ 35 iF (.agg #[.int .u64 0, .bool false, .int .i64 0, .int .i64 0, .int .i64 0, .int .i64 0]) 6 48 Try.underlying32 hiF hz0 hz1 hz2 (by rfl) (by decide) (.slice p n c) n (cellsF (ds0.map (fireS s false mo))) rfl OW.out a2 n2 c2 (cellsF (ds.map (fireS (s.putL false m0) true wa))) rfl NL.out NW.out (ONE.out _) Z.out BA.out BY.out SZ.out _ rfl ?_; intro gg cap w7 o7 g7 m7 lt7; have K7 := Lib.hid (ST.out gg cap w7 o7 g7 m7); clear o7 g7 m7 lt7 OW SZ ST NL NW)
        go_roundw
        case rel => exact .inr (.inr ⟨rfl, _, _, _, rfl, fire_end FD0.out FD.out K7.out⟩)
        case measure => decide
end Go.Proofs.Ytbfmmeapjfljbaa
