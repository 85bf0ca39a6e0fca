/- SmearKnown, the walk: the chapter's examples; ends; none. -/
import Derived.Test.YtmafjhggjpjgmaaSmJ
import Derived.Test.YtmafjhggjpjgmaaSmR
import Derived.Test.YtmafjhggjpjgmaaSmN
import Derived.Laws.MakeOwn
set_option maxRecDepth 100000
namespace Go.Proofs.Ytmafjhggjpjgmaa
open Go.ChangeShapes Go.WideShapes Go.ChangeAt Go.RowKit SmM

theorem back_nil {s t : Int} {b : Bool} (h : BackP [] s t b) : (s ≤ topI → b = true ∧ t = max s 0) ∧ (topI < s → b = false ∧ t = 0) := by
  have tn : ∀ z, 0 ≤ z → z ≤ topI → toI [] z = z := fun z h0 h1 => by
    unfold toI
    rw [near_of h0 h1]
    show z - (0 : Int) = z
    omega
  rcases h with ⟨rfl, t0, t1, t2, t3⟩ | ⟨rfl, rfl, t2⟩
  · rw [tn t t0 t1] at t2
    refine ⟨fun hs => ⟨rfl, ?_⟩, fun hs => absurd hs (by omega)⟩
    by_cases p : 0 < t
    · have := t3 p
      rw [tn (t - 1) (by omega) (by omega)] at this
      omega
    · omega
  · rw [tn topI (by unfold topI; omega) (Int.le_refl _)] at t2
    exact ⟨fun hs => absurd hs (by omega), fun _ => ⟨rfl, rfl⟩⟩
theorem newE_ok {l : List Lp} (h : OkL l) (n : l.length ≤ 32) : NewE l 0 := .inr ⟨n, .inl ⟨rfl, h⟩⟩
theorem newE_arg {l : List Lp} (h : ¬ OkL l) (n : l.length ≤ 32) : NewE l 1 := .inr ⟨n, .inr ⟨rfl, h⟩⟩
theorem one_ok {t k : Int} : OkL [⟨t, k⟩] ↔ dayI ≤ t ∧ t ≤ topI ∧ (k = 1 ∨ k = -1) :=
  ⟨fun h => h.1 ⟨t, k⟩ (List.mem_singleton.2 rfl), fun h => ⟨fun y hy => by obtain rfl := List.mem_singleton.1 hy; exact h, trivial⟩⟩
theorem two_ok {t k u j : Int} : OkL [⟨t, k⟩, ⟨u, j⟩] ↔ (dayI ≤ t ∧ t ≤ topI ∧ (k = 1 ∨ k = -1)) ∧ (dayI ≤ u ∧ u ≤ topI ∧ (j = 1 ∨ j = -1)) ∧ t + 2 * dayI ≤ u :=
  ⟨fun h => ⟨h.1 ⟨t, k⟩ (List.mem_cons_self ..), h.1 ⟨u, j⟩ (List.mem_cons_of_mem _ (List.mem_singleton.2 rfl)), h.2.1⟩, fun h => ⟨fun y hy => by
    rcases List.mem_cons.1 hy with rfl | hy
    · exact h.1
    · obtain rfl := List.mem_singleton.1 hy
      exact h.2.1, h.2.2, trivial⟩⟩
/-- What New tells of a literal. -/
theorem new_tells (C : SCode) {w : World} {p : Option Addr} {n c : Nat} {l : List Lp} {r : Int} (h : HoldsL w p n c l) (hi : ∀ y ∈ l, I64 y.t ∧ I64 y.k) (hr : NewE l r) :
    Calls Try.prog 11 #[.slice p n c] w fun e w9 => ∃ P, e = .returned (.tuple #[.pointer P, .int .i64 r]) ∧ Below w.heap.size w w9 := by
  refine (C.new h hi).mono fun e w9 h9 => ?_
  obtain ⟨b9, ⟨o, m, N, F, e9, -⟩ | ⟨r', ne, -, e9⟩⟩ := h9
  · obtain rfl := newE_one hr (newE_ok o (by rw [h.len]; exact m))
    exact ⟨_, e9, b9⟩
  · obtain rfl := newE_one hr ne
    exact ⟨_, e9, b9⟩
theorem kone15 (C : SCode) (w : World) (t k r : Int) (ht : I64 t) (hk : I64 k) (hr : NewE [⟨t, k⟩] r) :
    Calls Try.prog 24 #[.int .i64 t, .int .i64 k] w fun e w' => e = .returned (.int .i64 r) ∧ Below w.heap.size w w' := by
  have L0 := Lib.hid ((Below.refl w.heap.size w).alloc (Nat.le_refl _) (.cells #[.int .i64 t, .int .i64 k] 26))
  have N1 := Lib.hid (new_tells C (own_made (B := 0) (heap_alloc_new w (.cells #[.int .i64 t, .int .i64 k] 26)) (l := [⟨t, k⟩]) (n := 1) rfl rfl (by decide) (Nat.zero_le _)).holds (fun y hy => by obtain rfl := List.mem_singleton.1 hy; exact ⟨ht, hk⟩) hr)
  clear ht hk hr
  go_enter Try.func24, Try.ntmps24
  go_wp2_with fail
  refine N1.out.mono ?_; rintro e w1 ⟨P, rfl, b1⟩
  have L1 := Lib.hid (L0.out.trans (b1.mono L0.out.size))
  clear b1 N1
  go_wp2
  go_ret
  exact ⟨rfl, L1.out⟩
theorem ktwo15 (C : SCode) (w : World) (g u r : Int) (hu : 86400000000000 + g = u) (iu : I64 u) (hr : NewE [⟨86400000000000, 1⟩, ⟨u, -1⟩] r) :
    Calls Try.prog 25 #[.int .i64 g] w fun e w' => e = .returned (.int .i64 r) ∧ Below w.heap.size w w' := by
  have L0 := Lib.hid ((Below.refl w.heap.size w).alloc (Nat.le_refl _) (.cells #[.int .i64 86400000000000, .int .i64 1, .int .i64 u, .int .i64 (-1)] 26))
  have N1 := Lib.hid (new_tells C (own_made (B := 0) (heap_alloc_new w (.cells #[.int .i64 86400000000000, .int .i64 1, .int .i64 u, .int .i64 (-1)] 26)) (l := [⟨86400000000000, 1⟩, ⟨u, -1⟩]) (n := 2) rfl rfl (by decide) (Nat.zero_le _)).holds (fun y hy => by
    rcases List.mem_cons.1 hy with rfl | hy
    · exact ⟨by unfold I64; decide, by unfold I64; decide⟩
    · obtain rfl := List.mem_singleton.1 hy
      exact ⟨iu, show I64 (-1) by unfold I64; decide⟩) hr)
  have e1 : wrap64 u = u := by unfold I64 at iu; unfold wrap64; omega
  have e2 : IntKind.i64.wrap u = u := by unfold I64 at iu; rw [IntKind.wrap_i64]; omega
  clear iu hr
  go_enter Try.func25, Try.ntmps25
  go_wp2_with fail
  refine N1.out.mono ?_; rintro e w1 ⟨P, rfl, b1⟩
  have L1 := Lib.hid (L0.out.trans (b1.mono L0.out.size))
  clear b1 N1
  go_wp2
  go_ret
  exact ⟨rfl, L1.out⟩
def z33 : List Lp := List.replicate 33 ⟨0, 0⟩
theorem make33 : ∃ K : Array Value, K.toList = cellsL z33 ∧ ∀ w, (Instr.makeSlice 22 (.int .i64 33) (.int .i64 33)).run Try.prog w = .ok (.slice (some ⟨w.heap.size, 0, none⟩) 33 33) (w.alloc (.cells K 26)) := by
  obtain ⟨i, hi, h0, h1, h2⟩ := infoLp_of infoLp
  refine ⟨madeCells (Value.agg #[.int .i64 0, .int .i64 0]).cells 66, by kernel_rfl, fun w => ?_⟩
  have r := run_make (P := Try.prog) w 22 26 i _ Try.underlying22 hi h0 .i64 .i64 33 33 (by omega) (by omega) (by rw [h2]; decide) (by omega)
  rw [h1] at r
  exact r
theorem z33_in : ∀ y ∈ z33, I64 y.t ∧ I64 y.k := by
  intro y hy
  obtain rfl := List.eq_of_mem_replicate hy
  exact ⟨by unfold I64; decide, by unfold I64; decide⟩
set_option maxHeartbeats 8000000 in
theorem known15_walk (C : SCode) (w : World) : Calls Try.prog 9 #[] w fun e w' => e = .returned (.bool true) ∧ Below w.heap.size w w' := by
  obtain ⟨K, hK, mk⟩ := make33
  have L0 := Lib.hid ((Below.refl w.heap.size w).alloc (Nat.le_refl _) (.cells K 26))
  have N1 := Lib.hid (new_tells C (own_made (B := 0) (heap_alloc_new w (.cells K 26)) (l := z33) (n := 33) hK (by decide) (by decide) (Nat.zero_le _)).holds z33_in (r := 7) (.inl ⟨rfl, by decide⟩))
  have AW := Lib.hid (awake15 C)
  have BK : Hid (∀ w' s t b, Below w.heap.size w w' → I64 s → (∀ t' b', BackP [] s t' b' → b' = b ∧ t' = t) → Calls Try.prog 22 #[.pointer none, .int .i64 s] w' fun e w'' => e = .returned (.tuple #[.int .i64 t, .bool b]) ∧ Below w.heap.size w w'') := fun w' s t b k i h =>
    (C.back_none w' s i).mono fun e w'' ⟨⟨t', b', e1, hb⟩, b2⟩ => ⟨by rw [e1, (h t' b' hb).1, (h t' b' hb).2], k.trans (b2.mono k.size)⟩
  have K1 : Hid (∀ w' t k r, Below w.heap.size w w' → I64 t → I64 k → NewE [⟨t, k⟩] r → Calls Try.prog 24 #[.int .i64 t, .int .i64 k] w' fun e w'' => e = .returned (.int .i64 r) ∧ Below w.heap.size w w'') := fun w' t k r b i j h =>
    (kone15 C w' t k r i j h).mono fun e w'' ⟨a, q⟩ => ⟨a, b.trans (q.mono b.size)⟩
  have K2 : Hid (∀ w' g u r, Below w.heap.size w w' → 86400000000000 + g = u → I64 u → NewE [⟨86400000000000, 1⟩, ⟨u, -1⟩] r → Calls Try.prog 25 #[.int .i64 g] w' fun e w'' => e = .returned (.int .i64 r) ∧ Below w.heap.size w w'') := fun w' g u r b i j h =>
    (ktwo15 C w' g u r i j h).mono fun e w'' ⟨a, q⟩ => ⟨a, b.trans (q.mono b.size)⟩
  have TO : Hid (∀ w' t v, Below w.heap.size w w' → I64 t → nearI t = v → Calls Try.prog 17 #[.pointer none, .int .i64 t] w' fun e w'' => e = .returned (.int .i64 v) ∧ Below w.heap.size w w'') := fun w' t v b i h =>
    (C.to_none w' t i).mono fun e w'' ⟨a, q⟩ => ⟨by rw [a, h], b.trans (q.mono b.size)⟩
  clear hK
  go_enter Try.func9, Try.ntmps9
  go_wp2_with fail
  refine N1.out.mono ?_; rintro e w1 ⟨P, rfl, b1⟩
  have k1 := L0.out.trans (b1.mono L0.out.size)
  clear b1 N1 L0 mk
  go_wp2_with fail
  refine (BK.out _ 5 5 true k1 (by unfold I64; decide) fun t b h => by have := (back_nil h).1 (by decide); exact ⟨this.1, this.2⟩).mono ?_; rintro e w2 ⟨rfl, k2⟩
  go_wp2_with fail
  refine (BK.out _ (-5) 0 true k2 (by unfold I64; decide) fun t b h => by have := (back_nil h).1 (by decide); exact ⟨this.1, this.2⟩).mono ?_; rintro e w3 ⟨rfl, k3⟩
  go_wp2_with fail
  refine (BK.out _ 4611686018427387905 0 false k3 (by unfold I64; decide) fun t b h => by have := (back_nil h).2 (by decide); exact ⟨this.1, this.2⟩).mono ?_; rintro e w4 ⟨rfl, k4⟩
  clear k1 k2 k3
  go_wp2_with fail
  refine (C.within_none _ 5 (by unfold I64; decide)).mono ?_; rintro e w5 ⟨rfl, b5⟩
  have k5 := k4.trans (b5.mono k4.size)
  go_wp2_with fail
  refine (AW.out _).mono ?_; rintro e w6 ⟨rfl, b6⟩
  have k6 := k5.trans (b6.mono k5.size)
  clear b5 b6 k4 k5
  go_wp2_with fail
  refine (K1.out _ 86400000000000 1 0 k6 (by unfold I64; decide) (by unfold I64; decide) (newE_ok (one_ok.2 (by decide)) (by decide))).mono ?_; rintro e w7 ⟨rfl, k7⟩
  go_wp2_with fail
  refine (K1.out _ 86399999999999 1 1 k7 (by unfold I64; decide) (by unfold I64; decide) (newE_arg (fun h => absurd (one_ok.1 h) (by decide)) (by decide))).mono ?_; rintro e w8 ⟨rfl, k8⟩
  go_wp2_with fail
  refine (K1.out _ 86400000000000 0 1 k8 (by unfold I64; decide) (by unfold I64; decide) (newE_arg (fun h => absurd (one_ok.1 h) (by decide)) (by decide))).mono ?_; rintro e w9 ⟨rfl, k9⟩
  go_wp2_with fail
  refine (K1.out _ 86400000000000 2 1 k9 (by unfold I64; decide) (by unfold I64; decide) (newE_arg (fun h => absurd (one_ok.1 h) (by decide)) (by decide))).mono ?_; rintro e w10 ⟨rfl, k10⟩
  go_wp2_with fail
  refine (K1.out _ 4611686018427387904 (-1) 0 k10 (by unfold I64; decide) (by unfold I64; decide) (newE_ok (one_ok.2 (by decide)) (by decide))).mono ?_; rintro e w11 ⟨rfl, k11⟩
  clear k6 k7 k8 k9 k10
  go_wp2_with fail
  refine (K1.out _ 4611686018427387905 1 1 k11 (by unfold I64; decide) (by unfold I64; decide) (newE_arg (fun h => absurd (one_ok.1 h) (by decide)) (by decide))).mono ?_; rintro e w12 ⟨rfl, k12⟩
  go_wp2_with fail
  refine (K2.out _ 172800000000000 259200000000000 0 k12 (by decide) (by unfold I64; decide) (newE_ok (two_ok.2 (by decide)) (by decide))).mono ?_; rintro e w13 ⟨rfl, k13⟩
  go_wp2_with fail
  refine (K2.out _ 172799999999999 259199999999999 1 k13 (by decide) (by unfold I64; decide) (newE_arg (fun h => absurd (two_ok.1 h) (by decide)) (by decide))).mono ?_; rintro e w14 ⟨rfl, k14⟩
  clear k11 k12 k13 K1 K2
  go_wp2_with fail
  refine (TO.out _ 7 7 k14 (by unfold I64; decide) (by decide)).mono ?_; rintro e w15 ⟨rfl, k15⟩
  go_wp2_with fail
  refine (TO.out _ (-7) 0 k15 (by unfold I64; decide) (by decide)).mono ?_; rintro e w16 ⟨rfl, k16⟩
  go_wp2_with fail
  refine (TO.out _ 4611686018427387913 4611686018427387904 k16 (by unfold I64; decide) (by decide)).mono ?_; rintro e w17 ⟨rfl, k17⟩
  clear k14 k15 k16 TO
  go_wp2_with fail
  refine (C.taken_none _ 9 (by unfold I64; decide)).mono ?_; rintro e w18 ⟨rfl, b18⟩
  have k18 := k17.trans (b18.mono k17.size)
  go_wp2_with fail
  refine (C.list_none _).mono ?_; rintro e w19 ⟨⟨p, c, rfl⟩, b19⟩
  have L19 := Lib.hid (k18.trans (b19.mono k18.size))
  clear k17 b18 k18 b19
  go_wp2
  go_ret
  exact ⟨rfl, L19.out⟩
end Go.Proofs.Ytmafjhggjpjgmaa
