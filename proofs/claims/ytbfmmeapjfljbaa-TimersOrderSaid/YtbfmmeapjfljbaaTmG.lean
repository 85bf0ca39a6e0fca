/- Layer 14 (timers), the program's own: fireKind. -/
import Derived.Test.YtbfmmeapjfljbaaTmF
set_option maxRecDepth 100000
namespace Go.Proofs.Ytbfmmeapjfljbaa
open Go.ChangeShapes Go.WideShapes Go.ChangeAt Go.RowKit Go.Maps HeapM

def kI (k : Bool) : Int := if k then 1 else 0
def lenS : Value → Nat
  | .slice _ n _ => n
  | _ => 0
/-- All of a kind that are due have fired. -/
def KindP (w : World) (F : Nat → Prop) (N : Nat) (s : TS) (k : Bool) (now : Int) (r : Ending) (w' : World) : Prop := ∃ p n c ds m, r = .returned (.slice p n c) ∧ FireD s k now ds m ∧ KS w w' F N s k now p n c ds m
theorem KindP.of {w w' : World} {F : Nat → Prop} {N : Nat} {s : TS} {k : Bool} {now : Int} {p : Option Addr} {n c : Nat} {ds m : List It} (h : KS w w' F N s k now p n c ds m) (hd : m.length = 0 ∨ now < (gt m 0).t) : KindP w F N s k now (.returned (.slice p n c)) w' := ⟨p, n, c, ds, m, rfl, h.fir.done hd, h⟩
theorem kind_start {w : World} {F : Nat → Prop} {N : Nat} {s : TS} (h : TmP w F N s) (k : Bool) (now : Int) : KS w w F N s k now none 0 0 [] (s.l k) :=
  ⟨⟨F, by rw [putL_self]; exact h, FT.of_below (Below.refl _ _), fun _ hM => .inl hM, fun a ha => by cases ha⟩, OwnF.nil _ _, fire_start k now h.ok, rfl, Nat.zero_add _, fun _ => ⟨rfl, rfl⟩⟩
/-- What Min tells in a round. -/
theorem KS.min {w wr : World} {F : Nat → Prop} {N : Nat} {s : TS} {k : Bool} {now : Int} {p : Option Addr} {n c : Nat} {ds m : List It} (h : KS w wr F N s k now p n c ds m) : ∃ R0 R1,
    wr.cell? ⟨N, 0, none⟩ = some (.pointer (some ⟨R0, 0, none⟩)) ∧ wr.cell? ⟨N, 1, none⟩ = some (.pointer (some ⟨R1, 0, none⟩)) ∧
    (m.length = 0 → Calls Try.prog 24 #[.pointer (some ⟨if k then R1 else R0, 0, none⟩)] wr fun e w' => e = .returned (.tuple #[.agg #[.int .u64 0, .int .u64 0, .int .i64 0], .bool false]) ∧ Below wr.heap.size wr w') ∧
    (0 < m.length → Calls Try.prog 24 #[.pointer (some ⟨if k then R1 else R0, 0, none⟩)] wr fun e w' => e = .returned (.tuple #[itV (gt m 0), .bool true]) ∧ Below wr.heap.size wr w') := by
  obtain ⟨F', ⟨b, R, G, D, rfl, T, -, -⟩, -⟩ := h.out
  have e1 := putL_same s k m
  have e2 : (if k = true then R true else R false) = R k := by cases k <;> rfl
  refine ⟨R false, R true, T.c0, T.c1, fun h0 => ?_, fun h0 => ?_⟩
  · rw [e2]
    exact pmin14_none T k (by rw [e1]; exact h0)
  · rw [e2]
    have := pmin14_some T k (by rw [e1]; exact h0)
    rw [e1] at this
    exact this

set_option maxHeartbeats 4000000 in
theorem pfirekind14 (w : World) (F : Nat → Prop) (N : Nat) (s : TS) (h : TmP w F N s) (k : Bool) (now : Int) (hn : now ≤ topT) (hi : I64 now) :
    Calls Try.prog 17 #[.pointer (some ⟨N, 0, none⟩), .int .i64 (kI k), .int .i64 now] w (KindP w F N s k now) := by
  obtain ⟨tot, htot⟩ : ∃ t, dueN now (s.l k) = t := ⟨_, rfl⟩
  have TB : Hid (dueN now (s.l k) = tot ∧ tot ≤ 256) := ⟨htot, by rw [← htot]; exact Nat.le_trans (List.countP_le_length) (h.ok.len k)⟩
  have K0 := Lib.hid (kind_start h k now)
  have HN := Lib.hid hn
  obtain ⟨iF, hiF, hz0, hz1, hz2⟩ := infoI_of infoF
  obtain ⟨n1, n2⟩ := hi
  clear h htot hn
  cases k
  all_goals (
    unfold kI
    simp only [if_true, if_false, Bool.false_eq_true]
    go_enter Try.func17, Try.ntmps17
    go_wp2_with fail)
  · go_loopw [7] (fun q wr => ∃ p n c ds m, q = .slice p n c ∧ Hid (KS w wr F N s false now p n c ds m)) (fun q _ => tot - lenS q)
    case atStart => exact ⟨none, 0, 0, [], s.l false, rfl, K0.out⟩
    case round =>
      clear K0
      obtain ⟨p, n, c, ds, m, rfl, K⟩ := hrel
      obtain ⟨R0, R1, c0, c1, MN, MS⟩ := K.out.min
      simp only [if_false, Bool.false_eq_true] at MN MS
      by_cases z : m.length = 0
      · have MN := Lib.hid (MN z)
        have FN : Hid (∀ w', Below wr.heap.size wr w' → KindP w F N s false now (.returned (.slice p n c)) w') := fun w' b => KindP.of (K.out.below b) (.inl z)
        clear MS z K
        go_wp2_with (go_at_call 24; refine MN.out.mono ?_; rintro e w1 ⟨rfl, l1⟩; replace FN := Lib.hid (FN.out _ (l1.alloc l1.size (.cells #[.int .u64 0, .int .u64 0, .int .i64 0] 55))); clear l1 MN c0 c1)
        go_ret
        exact FN.out
      · have z0 : 0 < m.length := by omega
        have MS := Lib.hid (MS z0)
        have Z0 := Lib.hid z0
        clear MN z z0
        obtain ⟨x, hx⟩ : ∃ x, gt m 0 = x := ⟨_, rfl⟩
        have HX := Lib.hid hx
        rw [hx] at MS
        clear hx
        by_cases d : now < x.t
        · have d1 : decide (now < x.t) = true := decide_eq_true d
          have FN : Hid (∀ w', Below wr.heap.size wr w' → KindP w F N s false now (.returned (.slice p n c)) w') := fun w' b => KindP.of (K.out.below b) (.inr (by rw [HX.out]; exact d))
          obtain ⟨xi, xs, xt⟩ := x
          unfold itV at MS
          dsimp only at MS d d1
          clear K HX
          go_wp2_with (go_at_call 24; refine MS.out.mono ?_; rintro e w1 ⟨rfl, l1⟩; replace FN := Lib.hid (FN.out _ (l1.alloc l1.size (.cells #[.int .u64 (xi : Nat), .int .u64 (xs : Nat), .int .i64 xt] 55))); clear l1 MS c0 c1)
          go_ret
          exact FN.out
        · have d1 : decide (now < x.t) = false := decide_eq_false d
          have d2 : x.t ≤ now := by omega
          have DD : Hid ((gt m 0).t ≤ now) := by unfold Hid; rw [HX.out]; exact d2
          have NB : Hid (n + 1 ≤ 256 ∧ tot - (n + 1) < tot - n) := by
            have := due_step (e := s.ev (gt m 0).id) Z0.out (K.out.fir.ok.evs (gt m 0).id).1 DD.out
            have := K.out.cnt
            have := TB.out
            unfold Hid
            omega
          have FO : Hid (∀ w', Below wr.heap.size wr w' → _) := fun w' b => (K.out.below b).step Z0.out DD.out HN.out
          rw [HX.out] at FO
          obtain ⟨f, hf⟩ : ∃ f, fireS s false now x = f := ⟨_, rfl⟩
          rw [hf] at FO
          obtain ⟨fi, ⟨fa, ft, fe⟩, fl, fm⟩ := f
          obtain ⟨xi, xs, xt⟩ := x
          unfold itV at MS FO
          unfold fdV sixF at FO
          dsimp only at MS d d1 d2 FO
          have BM : Hid (n + 1 ≤ maxLen) := by have := NB.out; unfold Hid maxLen; omega
          have BY : Hid ((n + 1) * 48 ≤ 140737488355328) := by have := NB.out; unfold Hid; omega
          have ONE : Hid (∀ u ∈ ([.int .u64 (fi : Nat), .bool fa, .int .i64 ft, .int .i64 fe, .int .i64 fl, .int .i64 fm] : List Value), u.oneCell' = true) := sixF_one ⟨fi, ⟨fa, ft, fe⟩, fl, fm⟩
          clear K HX hf DD Z0
          go_wp2_with (first
            | (go_at_call 24; refine MS.out.mono ?_; rintro e w1 ⟨rfl, l1⟩; replace FO := Lib.hid (FO.out _ (l1.alloc l1.size (.cells #[.int .u64 (xi : Nat), .int .u64 (xs : Nat), .int .i64 xt] 55))); clear l1 MS c0 c1)
            | (go_at_call 25; refine FO.out.mono ?_; rintro e w6 ⟨rfl, P6⟩; obtain ⟨OW, SZ, ST⟩ := P6 #[.int .u64 (fi : Nat), .bool fa, .int .i64 ft, .int .i64 fe, .int .i64 fl, .int .i64 fm]; have OW := Lib.hid OW; have SZ := Lib.hid SZ; have ST := Lib.hid ST; clear P6 FO)
            | (at_builtin; refine wpList_append_lies _ rfl _ _ 32 rfl w.heap.size 35 iF (.agg #[.int .u64 0, .bool false, .int .i64 0, .int .i64 0, .int .i64 0, .int .i64 0]) 6 48 Try.underlying32 hiF hz0 hz1 hz2 (by rfl) (by decide) (.slice p n c) n (cellsF (ds.map (fireS s false now))) rfl OW.out ⟨w6.heap.size, 0, none⟩ 1 1 [.int .u64 (fi : Nat), .bool fa, .int .i64 ft, .int .i64 fe, .int .i64 fl, .int .i64 fm] rfl rfl (World.news_of_block (heap_alloc_new w6 _)) ONE.out (by decide) BM.out BY.out SZ.out _ rfl ?_; intro gg cap w7 o7 g7 m7 lt7; have K7 := Lib.hid (ST.out gg cap w7 o7 g7 m7); clear o7 g7 m7 lt7 OW SZ ST))
          go_roundw
          case rel => exact ⟨_, _, _, _, _, rfl, K7.out⟩
          case measure => simp only [lenS]; exact NB.out.2
  · go_loopw [7] (fun q wr => ∃ p n c ds m, q = .slice p n c ∧ Hid (KS w wr F N s true now p n c ds m)) (fun q _ => tot - lenS q)
    case atStart => exact ⟨none, 0, 0, [], s.l true, rfl, K0.out⟩
    case round =>
      clear K0
      obtain ⟨p, n, c, ds, m, rfl, K⟩ := hrel
      obtain ⟨R0, R1, c0, c1, MN, MS⟩ := K.out.min
      simp only [if_true] at MN MS
      by_cases z : m.length = 0
      · have MN := Lib.hid (MN z)
        have FN : Hid (∀ w', Below wr.heap.size wr w' → KindP w F N s true now (.returned (.slice p n c)) w') := fun w' b => KindP.of (K.out.below b) (.inl z)
        clear MS z K
        go_wp2_with (go_at_call 24; refine MN.out.mono ?_; rintro e w1 ⟨rfl, l1⟩; replace FN := Lib.hid (FN.out _ (l1.alloc l1.size (.cells #[.int .u64 0, .int .u64 0, .int .i64 0] 55))); clear l1 MN c0 c1)
        go_ret
        exact FN.out
      · have z0 : 0 < m.length := by omega
        have MS := Lib.hid (MS z0)
        have Z0 := Lib.hid z0
        clear MN z z0
        obtain ⟨x, hx⟩ : ∃ x, gt m 0 = x := ⟨_, rfl⟩
        have HX := Lib.hid hx
        rw [hx] at MS
        clear hx
        by_cases d : now < x.t
        · have d1 : decide (now < x.t) = true := decide_eq_true d
          have FN : Hid (∀ w', Below wr.heap.size wr w' → KindP w F N s true now (.returned (.slice p n c)) w') := fun w' b => KindP.of (K.out.below b) (.inr (by rw [HX.out]; exact d))
          obtain ⟨xi, xs, xt⟩ := x
          unfold itV at MS
          dsimp only at MS d d1
          clear K HX
          go_wp2_with (go_at_call 24; refine MS.out.mono ?_; rintro e w1 ⟨rfl, l1⟩; replace FN := Lib.hid (FN.out _ (l1.alloc l1.size (.cells #[.int .u64 (xi : Nat), .int .u64 (xs : Nat), .int .i64 xt] 55))); clear l1 MS c0 c1)
          go_ret
          exact FN.out
        · have d1 : decide (now < x.t) = false := decide_eq_false d
          have d2 : x.t ≤ now := by omega
          have DD : Hid ((gt m 0).t ≤ now) := by unfold Hid; rw [HX.out]; exact d2
          have NB : Hid (n + 1 ≤ 256 ∧ tot - (n + 1) < tot - n) := by
            have := due_step (e := s.ev (gt m 0).id) Z0.out (K.out.fir.ok.evs (gt m 0).id).1 DD.out
            have := K.out.cnt
            have := TB.out
            unfold Hid
            omega
          have FO : Hid (∀ w', Below wr.heap.size wr w' → _) := fun w' b => (K.out.below b).step Z0.out DD.out HN.out
          rw [HX.out] at FO
          obtain ⟨f, hf⟩ : ∃ f, fireS s true now x = f := ⟨_, rfl⟩
          rw [hf] at FO
          obtain ⟨fi, ⟨fa, ft, fe⟩, fl, fm⟩ := f
          obtain ⟨xi, xs, xt⟩ := x
          unfold itV at MS FO
          unfold fdV sixF at FO
          dsimp only at MS d d1 d2 FO
          have BM : Hid (n + 1 ≤ maxLen) := by have := NB.out; unfold Hid maxLen; omega
          have BY : Hid ((n + 1) * 48 ≤ 140737488355328) := by have := NB.out; unfold Hid; omega
          have ONE : Hid (∀ u ∈ ([.int .u64 (fi : Nat), .bool fa, .int .i64 ft, .int .i64 fe, .int .i64 fl, .int .i64 fm] : List Value), u.oneCell' = true) := sixF_one ⟨fi, ⟨fa, ft, fe⟩, fl, fm⟩
          clear K HX hf DD Z0
          go_wp2_with (first
            | (go_at_call 24; refine MS.out.mono ?_; rintro e w1 ⟨rfl, l1⟩; replace FO := Lib.hid (FO.out _ (l1.alloc l1.size (.cells #[.int .u64 (xi : Nat), .int .u64 (xs : Nat), .int .i64 xt] 55))); clear l1 MS c0 c1)
            | (go_at_call 25; refine FO.out.mono ?_; rintro e w6 ⟨rfl, P6⟩; obtain ⟨OW, SZ, ST⟩ := P6 #[.int .u64 (fi : Nat), .bool fa, .int .i64 ft, .int .i64 fe, .int .i64 fl, .int .i64 fm]; have OW := Lib.hid OW; have SZ := Lib.hid SZ; have ST := Lib.hid ST; clear P6 FO)
            | (at_builtin; refine wpList_append_lies _ rfl _ _ 32 rfl w.heap.size 35 iF (.agg #[.int .u64 0, .bool false, .int .i64 0, .int .i64 0, .int .i64 0, .int .i64 0]) 6 48 Try.underlying32 hiF hz0 hz1 hz2 (by rfl) (by decide) (.slice p n c) n (cellsF (ds.map (fireS s true now))) rfl OW.out ⟨w6.heap.size, 0, none⟩ 1 1 [.int .u64 (fi : Nat), .bool fa, .int .i64 ft, .int .i64 fe, .int .i64 fl, .int .i64 fm] rfl rfl (World.news_of_block (heap_alloc_new w6 _)) ONE.out (by decide) BM.out BY.out SZ.out _ rfl ?_; intro gg cap w7 o7 g7 m7 lt7; have K7 := Lib.hid (ST.out gg cap w7 o7 g7 m7); clear o7 g7 m7 lt7 OW SZ ST))
          go_roundw
          case rel => exact ⟨_, _, _, _, _, rfl, K7.out⟩
          case measure => simp only [lenS]; exact NB.out.2
end Go.Proofs.Ytbfmmeapjfljbaa
