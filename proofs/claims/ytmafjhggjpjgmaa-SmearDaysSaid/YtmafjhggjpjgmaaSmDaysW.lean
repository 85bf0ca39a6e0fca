/- SmearDays, the walk: a leap's own day. -/
import Derived.Test.YtmafjhggjpjgmaaSmJ
import Derived.Test.YtmafjhggjpjgmaaSmP
import Derived.Test.YtmafjhggjpjgmaaSmH
set_option maxRecDepth 100000
namespace Go.Proofs.Ytmafjhggjpjgmaa
open Go.ChangeShapes Go.WideShapes Go.ChangeAt Go.RowKit SmM

theorem wr15 {x : Int} (h : I64 x) : wrap64 x = x ∧ IntKind.i64.wrap x = x := by
  unfold I64 at h
  rw [IntKind.wrap_i64]
  unfold wrap64
  omega
set_option maxHeartbeats 4000000 in
theorem days15_none (C : SCode) (w : World) (p : Option Addr) (n c : Nat) (gs : List Gp) (h : HoldsG w p n c gs) (hh : ∀ g ∈ gs, g.h < 65536) (a : Nat) (ha : a < 256) (he : mkL dayI (gs.take 32) = []) :
    Calls Try.prog 7 #[.slice p n c, .int .u8 (a : Nat)] w fun e w' => e = .returned (.bool true) ∧ Below w.heap.size w w' := by
  have MA := Lib.hid (made15 C w p n c gs h hh)
  have AW := Lib.hid (awake15 C)
  rw [he] at MA
  clear he h hh
  obtain ⟨z, hz⟩ : ∃ z, (a : Int) * 86400000000000 = z := ⟨_, rfl⟩
  have zi : I64 z := by unfold I64; omega
  have ai : I64 (a : Nat) := by unfold I64; omega
  have ZI := Lib.hid zi
  obtain ⟨e1, e2⟩ := wr15 zi
  obtain ⟨e3, e4⟩ := wr15 ai
  clear ha zi ai
  go_enter Try.func7, Try.ntmps7
  go_wp2_with fail
  refine MA.out.mono ?_; rintro e w1 ⟨N, F, p', m, c', rfl, t1, h1, b1⟩
  have T1 := Lib.hid t1
  have m0 : m = 0 := h1.len.symm
  subst m0
  have L1 := Lib.hid b1
  clear t1 b1 h1 MA
  go_wp2_with fail
  refine (AW.out w1).mono ?_; rintro e w2 ⟨rfl, k2⟩
  have WT : Hid (∀ w', Below w1.heap.size w1 w' → Calls Try.prog 15 #[.pointer (some ⟨N, 0, none⟩), .int .i64 z] w' fun e w'' => e = .returned (.tuple #[.int .i64 0, .bool false]) ∧ Below w1.heap.size w1 w'') := fun w' k =>
    (C.within z (C.below T1.out k) ZI.out).mono fun e w'' ⟨a, b⟩ => ⟨a.trans (with_none rfl), k.trans (b.mono k.size)⟩
  have TA : Hid (∀ w', Below w1.heap.size w1 w' → Calls Try.prog 19 #[.pointer (some ⟨N, 0, none⟩), .int .i64 z] w' fun e w'' => e = .returned (.int .i64 0) ∧ Below w1.heap.size w1 w'') := fun w' k =>
    (C.taken z (C.below T1.out k) ZI.out).mono fun e w'' ⟨a, b⟩ => ⟨a, k.trans (b.mono k.size)⟩
  go_wp2_with fail
  refine (WT.out _ k2).mono ?_; rintro e w3 ⟨rfl, k3⟩
  clear k2
  go_wp2_with fail
  refine (TA.out _ k3).mono ?_; rintro e w4 ⟨rfl, k4⟩
  have L4 := Lib.hid (L1.out.trans (k4.mono L1.out.size))
  clear k3 k4 WT TA
  go_wp2
  go_ret
  exact ⟨rfl, L4.out⟩

/-- What is asked of the leap at a place. -/
structure DayP (l : List Lp) (k : Nat) (f bg xk : Int) : Prop where
  tk : ∀ q : Nat, q ≤ 4 → takenI l (nearI (f + 21600000000000 * q)) - bg = (q : Int) * xk * 250000000
  bg : takenI l (nearI f) = bg
  ins : ∀ q : Nat, q ≤ 3 → withinI l (nearI (f + 21600000000000 * q)) = (k : Int)
  out : withinI l (nearI (f + 21600000000000 * (4 : Nat))) = -1
  ahead : withinI l (nearI (f - 1)) = -1
  last : withinI l (nearI (f + 86400000000000 - 1)) = (k : Int)
  f0 : 43200000000000 ≤ f
  f1 : f ≤ 1000000000000000000
theorem day_of {l : List Lp} (ok : OkL l) (fa : FarL l) {k : Nat} (hk : k < l.length) : ∃ bg, DayP l k ((gl l k).t - halfI) bg (gl l k).k := by
  have g := ok.2
  have x := fa _ (gl_mem hk)
  have nr : ∀ z, -1 ≤ z → z ≤ 86400000000000 → nearI ((gl l k).t - halfI + z) = (gl l k).t - halfI + z := fun z h0 h1 => near_of (by unfold halfI; unfold dayI at x; omega) (by unfold halfI topI; omega)
  have n0 := nr 0 (by omega) (by omega)
  rw [Int.add_zero] at n0
  have wn := fun {s} h0 h1 => within_near (s := s) g hk h0 h1
  refine ⟨takenI l ((gl l k).t - halfI), ?_, ?_, ?_, ?_, ?_, ?_, ?_, ?_⟩
  · intro q hq
    rw [nr _ (by omega) (by omega)]
    exact day_taken g hk x.2.2 q hq
  · rw [n0]
  · intro q hq
    rw [nr _ (by omega) (by omega)]
    exact (wn (by omega) (by unfold halfI; omega)).1 ⟨by omega, by unfold halfI; omega⟩
  · rw [nr _ (by omega) (by omega)]
    exact (wn (by omega) (by unfold halfI; omega)).2 (by unfold halfI; omega)
  · rw [show (gl l k).t - halfI - 1 = (gl l k).t - halfI + -1 by omega, nr _ (by omega) (by omega)]
    exact (wn (by omega) (by unfold halfI; omega)).2 (by omega)
  · rw [show (gl l k).t - halfI + 86400000000000 - 1 = (gl l k).t - halfI + 86399999999999 by omega, nr _ (by omega) (by omega)]
    exact (wn (by omega) (by unfold halfI; omega)).1 ⟨by omega, by unfold halfI; omega⟩
  · unfold halfI; unfold dayI at x; omega
  · unfold halfI; omega
set_option maxHeartbeats 4000000 in
theorem days15_some (C : SCode) (w : World) (p : Option Addr) (n c : Nat) (gs : List Gp) (h : HoldsG w p n c gs) (hh : ∀ g ∈ gs, g.h < 65536) (a : Nat) (ha : a < 256) (he : 0 < (mkL dayI (gs.take 32)).length) :
    Calls Try.prog 7 #[.slice p n c, .int .u8 (a : Nat)] w fun e w' => e = .returned (.bool true) ∧ Below w.heap.size w w' := by
  have MA := Lib.hid (made15 C w p n c gs h hh)
  have AW := Lib.hid (awake15 C)
  have l32 := List.length_take_le 32 gs
  have OK := Lib.hid (mk_ok l32)
  have FA := Lib.hid (mk_far l32)
  have ll : (mkL dayI (gs.take 32)).length ≤ 32 := by rw [mk_len]; exact l32
  generalize mkL dayI (gs.take 32) = l at *
  have LL := Lib.hid ll
  have kl : a % l.length < l.length := Nat.mod_lt _ he
  obtain ⟨k, hk⟩ : ∃ k, a % l.length = k := ⟨_, rfl⟩
  rw [hk] at kl
  have KL := Lib.hid kl
  obtain ⟨bg, DP⟩ := day_of OK.out FA.out kl
  have XI := FA.out _ (gl_mem kl)
  obtain ⟨x, hx⟩ : ∃ x, gl l k = x := ⟨_, rfl⟩
  have HX := Lib.hid hx
  rw [hx] at DP XI
  obtain ⟨xt, xk⟩ := x
  unfold halfI at DP
  dsimp only at DP XI
  obtain ⟨f, hf⟩ : ∃ f, xt - 43200000000000 = f := ⟨_, rfl⟩
  rw [hf] at DP
  have DD := Lib.hid DP
  have XK := Lib.hid XI.2.2
  have f0 := DP.f0
  have f1 := DP.f1
  have IF : Hid (I64 f) := by unfold Hid I64; omega
  have tb := taken_bound l (nearI f)
  rw [DP.bg] at tb
  have BB : Hid (-32000000000 ≤ bg ∧ bg ≤ 32000000000) := by unfold Hid; omega
  have FB := Lib.hid (And.intro f0 f1)
  obtain ⟨m, hm⟩ : ∃ m, l.length = m := ⟨_, rfl⟩
  have HM := Lib.hid hm
  rw [hm] at he ll hk
  have mp : (0 : Int) < (m : Int) := by omega
  have me : ((m : Int) == 0) = false := by rw [beq_eq_false_iff_ne]; omega
  have mn : ¬ (m : Int) = 0 := by omega
  have hr : ((a : Nat) : Int).tmod (m : Nat) = ((k : Nat) : Int) := by rw [Int.tmod_eq_emod_of_nonneg (by omega), ← hk]; rfl
  have ai : I64 (a : Nat) := by unfold I64; omega
  have ki : I64 (k : Nat) := by unfold I64; omega
  have AI := Lib.hid ai
  have KI := Lib.hid ki
  have k0 : (0 : Int) ≤ (k : Int) := by omega
  have km : (k : Int) < (m : Int) := by omega
  clear h hh l32 ll hk kl DP hx tb f0 f1 ai ki he hm ha XI
  go_enter Try.func7, Try.ntmps7
  go_wp2_with fail
  refine MA.out.mono ?_; rintro e w1 ⟨N, F, p', m', c', rfl, t1, h1, b1⟩
  have T1 := Lib.hid t1
  have m0 : m' = m := h1.len.symm.trans HM.out
  subst m0
  have H1 := Lib.hid h1
  obtain ⟨ap, rfl, c0, c1⟩ := h1.cell k (by have := KL.out; have := HM.out; omega)
  rw [HX.out] at c0 c1
  dsimp only at c0 c1
  have L1 := Lib.hid b1
  have CC : Hid (∀ w', Below w1.heap.size w1 w' → w'.cell? (ap.add (k * 2)) = some (.int .i64 xt) ∧ w'.cell? ⟨(ap.add (k * 2)).block, (ap.add (k * 2)).off + 1, none⟩ = some (.int .i64 xk)) := fun w' b =>
    ⟨(b.cell (World.block_lt_of_cell? _ _ c0)).trans c0, (b.cell (World.block_lt_of_cell? _ _ c1)).trans c1⟩
  clear t1 b1 h1 MA c0 c1 H1
  have TA : Hid (∀ w' z v, Below w1.heap.size w1 w' → I64 z → takenI l (nearI z) = v → Calls Try.prog 19 #[.pointer (some ⟨N, 0, none⟩), .int .i64 z] w' fun e w'' => e = .returned (.int .i64 v) ∧ Below w1.heap.size w1 w'') := fun w' t v k i h =>
    (C.taken t (C.below T1.out k) i).mono fun e w'' ⟨a, b⟩ => ⟨by rw [a, h], k.trans (b.mono k.size)⟩
  have WS : Hid (∀ w' z (j : Nat), Below w1.heap.size w1 w' → I64 z → withinI l (nearI z) = (j : Int) → Calls Try.prog 15 #[.pointer (some ⟨N, 0, none⟩), .int .i64 z] w' fun e w'' => e = .returned (.tuple #[.int .i64 (j : Nat), .bool true]) ∧ Below w1.heap.size w1 w'') := fun w' z j k i h =>
    (C.within z (C.below T1.out k) i).mono fun e w'' ⟨a, b⟩ => ⟨a.trans (with_some h), k.trans (b.mono k.size)⟩
  have WN : Hid (∀ w' z, Below w1.heap.size w1 w' → I64 z → withinI l (nearI z) = -1 → Calls Try.prog 15 #[.pointer (some ⟨N, 0, none⟩), .int .i64 z] w' fun e w'' => e = .returned (.tuple #[.int .i64 0, .bool false]) ∧ Below w1.heap.size w1 w'') := fun w' z k i h =>
    (C.within z (C.below T1.out k) i).mono fun e w'' ⟨a, b⟩ => ⟨a.trans (with_none h), k.trans (b.mono k.size)⟩
  clear T1
  go_wp2_with fail
  refine (AW.out w1).mono ?_; rintro e w2 ⟨rfl, k2⟩
  obtain ⟨c0, -⟩ := CC.out _ k2
  obtain ⟨ea1, ea2⟩ := wr15 AI.out
  obtain ⟨ek1, ek2⟩ := wr15 KI.out
  obtain ⟨ef1, ef2⟩ := wr15 IF.out
  go_wp2_with fail
  refine (TA.out _ f bg k2 IF.out DD.out.bg).mono ?_; rintro e w3 ⟨rfl, k3⟩
  have K3 := Lib.hid k3
  clear k2 k3 c0 ea1 ea2 ek1 ek2 ef1 ef2 hr hf me mn AI KI
  go_wp2_with fail
  go_loopw [65] (fun qq wr => ∃ q : Nat, qq = .int .i64 (q : Nat) ∧ Hid (q ≤ 5) ∧ Hid (Below w1.heap.size w1 wr)) (fun qq _ => 1000 - (intOf qq).toNat)
  case atStart => exact ⟨0, rfl, Nat.zero_le _, K3⟩
  case round =>
    clear K3 AW
    obtain ⟨q, rfl, Q, L⟩ := hrel
    have q0 : (0 : Int) ≤ (q : Int) := by omega
    by_cases y : q < 5
    · have y1 : (q : Int) < 5 := by omega
      have y2 : decide ((q : Int) < 5) = true := decide_eq_true y1
      have TK := DD.out.tk q (by omega)
      have fb := FB.out
      have bb := BB.out
      obtain ⟨kq, hkq⟩ : ∃ kq, (q : Int) * xk = kq := ⟨_, rfl⟩
      rw [hkq] at TK
      have kqb : -4 ≤ kq ∧ kq ≤ 4 := by rcases XK.out with e | e <;> rw [e] at hkq <;> omega
      obtain ⟨qd, hqd⟩ : ∃ qd, (q : Int) * 86400000000000 = qd := ⟨_, rfl⟩
      obtain ⟨qt, hqt⟩ : ∃ qt, 21600000000000 * (q : Int) = qt := ⟨_, rfl⟩
      have hqt2 : qd.tdiv 4 = qt := by rw [Int.tdiv_eq_ediv_of_nonneg (by omega)]; omega
      obtain ⟨s, hs⟩ : ∃ s, f + qt = s := ⟨_, rfl⟩
      rw [hqt, hs] at TK
      obtain ⟨T, hT⟩ : ∃ T, takenI l (nearI s) = T := ⟨_, rfl⟩
      rw [hT] at TK
      obtain ⟨kd, hkd⟩ : ∃ kd, kq * 250000000 = kd := ⟨_, rfl⟩
      rw [hkd] at TK
      obtain ⟨ks, hks⟩ : ∃ ks, kq * 1000000000 = ks := ⟨_, rfl⟩
      have hks2 : ks.tdiv 4 = kd := by rw [show ks = kd * 4 by omega, Int.mul_tdiv_cancel _ (by decide)]
      have I1 : Hid (I64 qd ∧ I64 qt ∧ I64 s ∧ I64 kq ∧ I64 ks ∧ I64 kd) := by unfold Hid I64; omega
      have HT := Lib.hid hT
      have K0 : Below w1.heap.size w1 wr.drew := L.out.drew
      have NX : Hid (q + 1 ≤ 5) := y
      have Y4 : Hid (q ≤ 4) := by unfold Hid; omega
      have SQ : Hid (s = f + 21600000000000 * (q : Int)) := by unfold Hid; omega
      obtain ⟨e1, e2⟩ := wr15 I1.out.1
      obtain ⟨e3, e4⟩ := wr15 I1.out.2.1
      obtain ⟨e5, e6⟩ := wr15 I1.out.2.2.1
      obtain ⟨e7, e8⟩ := wr15 I1.out.2.2.2.1
      obtain ⟨e9, e10⟩ := wr15 I1.out.2.2.2.2.1
      obtain ⟨e11, e12⟩ := wr15 I1.out.2.2.2.2.2
      clear fb bb kqb hqt hT hkd y Q L
      go_wp2_with fail
      refine wp_region_held_drew (S := fun w' => w'.cell? ⟨(ap.add (k * 2)).block, (ap.add (k * 2)).off + 1, none⟩ = some (.int .i64 xk)) (by kernel_rfl) ((CC.out _ K0).2) (fun hHeld => ?_)
      refine wpAnyH_take (i := 0) (v := ?_) (by (simp only [List.getElem?_toArray, List.getElem?_cons_zero]; exact rfl)) (by kernel_rfl) (by kernel_rfl) (by kernel_rfl) (by exact fun _ _ _ h => h) (Or.inl ⟨by rfl, ?_⟩) (by assumption) ?_
      rotate_left
      · (intro w hSw; (try dsimp only at hSw); first | (go_simp; done) | (go_simp; with_reducible rfl))
      try simp only [Act.put, List.setIfInBounds_toArray, List.set_cons_zero, List.set_cons_succ]
      refine wpAnyH_take (i := 1) (v := ?_) (by (simp only [List.getElem?_toArray, List.getElem?_cons_zero, List.getElem?_cons_succ]; exact rfl)) (by kernel_rfl) (by kernel_rfl) (by kernel_rfl) (by exact fun _ _ _ h => h) (Or.inl ⟨by rfl, ?_⟩) (by assumption) ?_
      rotate_left
      · (intro w hSw; (try dsimp only at hSw); first | (go_simp; done) | (go_simp; with_reducible rfl))
      try simp only [Act.put, List.setIfInBounds_toArray, List.set_cons_zero, List.set_cons_succ]
      refine wpAnyH_take (i := 2) (v := ?_) (by (simp only [List.getElem?_toArray, List.getElem?_cons_zero, List.getElem?_cons_succ]; exact rfl)) (by kernel_rfl) (by kernel_rfl) (by kernel_rfl) (by exact fun _ _ _ h => h) (Or.inl ⟨by rfl, ?_⟩) (by assumption) ?_
      rotate_left
      · (intro w hSw; (try dsimp only at hSw); first | (go_simp; done) | (go_simp; with_reducible rfl))
      try simp only [Act.put, List.setIfInBounds_toArray, List.set_cons_zero, List.set_cons_succ]
      refine wpAnyH_take (i := 3) (v := ?_) (by (simp only [List.getElem?_toArray, List.getElem?_cons_zero, List.getElem?_cons_succ]; exact rfl)) (by kernel_rfl) (by kernel_rfl) (by kernel_rfl) (by exact fun _ _ _ h => h) (Or.inl ⟨by rfl, ?_⟩) (by assumption) ?_
      rotate_left
      · (intro w hSw; (try dsimp only at hSw); first | (go_simp; done) | (go_simp; with_reducible rfl))
      try simp only [Act.put, List.setIfInBounds_toArray, List.set_cons_zero, List.set_cons_succ]
      refine wpAnyH_take (i := 4) (v := ?_) (by (simp only [List.getElem?_toArray, List.getElem?_cons_zero, List.getElem?_cons_succ]; exact rfl)) (by kernel_rfl) (by kernel_rfl) (by kernel_rfl) (by exact fun _ _ _ h => h) (Or.inl ⟨by rfl, ?_⟩) (by assumption) ?_
      rotate_left
      · (intro w hSw; (try dsimp only at hSw); first | (go_simp; done) | (go_simp; with_reducible rfl))
      try simp only [Act.put, List.setIfInBounds_toArray, List.set_cons_zero, List.set_cons_succ]
      refine wpAnyH_take (i := 5) (v := ?_) (by (simp only [List.getElem?_toArray, List.getElem?_cons_zero, List.getElem?_cons_succ]; exact rfl)) (by kernel_rfl) (by kernel_rfl) (by kernel_rfl) (by exact fun _ _ _ h => h) (Or.inl ⟨by rfl, ?_⟩) (by assumption) ?_
      rotate_left
      · (intro w hSw; (try dsimp only at hSw); first | (go_simp; done) | (go_simp; with_reducible rfl))
      try simp only [Act.put, List.setIfInBounds_toArray, List.set_cons_zero, List.set_cons_succ]
      refine wpAnyH_take (i := 7) (v := ?_) (by (simp only [List.getElem?_toArray, List.getElem?_cons_zero, List.getElem?_cons_succ]; exact rfl)) (by kernel_rfl) (by kernel_rfl) (by kernel_rfl) (by exact fun _ _ _ h => h) (Or.inl ⟨by rfl, ?_⟩) (by assumption) ?_
      rotate_left
      · (intro w hSw; (try dsimp only at hSw); first | (go_simp; done) | (go_simp; with_reducible rfl))
      try simp only [Act.put, List.setIfInBounds_toArray, List.set_cons_zero, List.set_cons_succ]
      refine wpAnyH_take (i := 9) (v := ?_) (by (simp only [List.getElem?_toArray, List.getElem?_cons_zero, List.getElem?_cons_succ]; exact rfl)) (by kernel_rfl) (by kernel_rfl) (by kernel_rfl) (by exact fun _ _ _ h => h) (Or.inl ⟨by rfl, ?_⟩) (by assumption) ?_
      rotate_left
      · (intro w hSw; (try dsimp only at hSw); first | (go_simp; done) | (go_simp; with_reducible rfl))
      try simp only [Act.put, List.setIfInBounds_toArray, List.set_cons_zero, List.set_cons_succ]
      refine wpAnyH_take (i := 10) (v := ?_) (by (simp only [List.getElem?_toArray, List.getElem?_cons_zero, List.getElem?_cons_succ]; exact rfl)) (by kernel_rfl) (by kernel_rfl) (by kernel_rfl) (by exact fun _ _ _ h => h) (Or.inl ⟨by rfl, ?_⟩) (by assumption) ?_
      rotate_left
      · (intro w hSw; (try dsimp only at hSw); first | (go_simp; done) | (go_simp; with_reducible rfl))
      try simp only [Act.put, List.setIfInBounds_toArray, List.set_cons_zero, List.set_cons_succ]
      refine wpAnyH_take (i := 11) (v := ?_) (by (simp only [List.getElem?_toArray, List.getElem?_cons_zero, List.getElem?_cons_succ]; exact rfl)) (by kernel_rfl) (by kernel_rfl) (by kernel_rfl) (by exact fun _ _ _ h => h) (Or.inl ⟨by rfl, ?_⟩) (by assumption) ?_
      rotate_left
      · (intro w hSw; (try dsimp only at hSw); first | (go_simp; done) | (go_simp; with_reducible rfl))
      try simp only [Act.put, List.setIfInBounds_toArray, List.set_cons_zero, List.set_cons_succ]
      refine wpAnyH_take (i := 12) (v := ?_) (by (simp only [List.getElem?_toArray, List.getElem?_cons_zero, List.getElem?_cons_succ]; exact rfl)) (by kernel_rfl) (by kernel_rfl) (by kernel_rfl) (by exact fun _ _ _ h => h) (Or.inl ⟨by rfl, ?_⟩) (by assumption) ?_
      rotate_left
      · (intro w hSw; (try dsimp only at hSw); first | (go_simp; done) | (go_simp; with_reducible rfl))
      try simp only [Act.put, List.setIfInBounds_toArray, List.set_cons_zero, List.set_cons_succ]
      refine wpAnyH_take (i := 13) (v := ?_) (by (simp only [List.getElem?_toArray, List.getElem?_cons_zero, List.getElem?_cons_succ]; exact rfl)) (by kernel_rfl) (by kernel_rfl) (by kernel_rfl) (by exact fun _ _ _ h => h) (Or.inl ⟨by rfl, ?_⟩) (by assumption) ?_
      rotate_left
      · (intro w hSw; (try dsimp only at hSw); first | (go_simp; done) | (go_simp; with_reducible rfl))
      try simp only [Act.put, List.setIfInBounds_toArray, List.set_cons_zero, List.set_cons_succ]
      refine wpAnyH_take (i := 14) (v := ?_) (by (simp only [List.getElem?_toArray, List.getElem?_cons_zero, List.getElem?_cons_succ]; exact rfl)) (by kernel_rfl) (by kernel_rfl) (by kernel_rfl) (by exact fun _ _ _ h => h) (Or.inl ⟨by rfl, ?_⟩) (by assumption) ?_
      rotate_left
      · (intro w hSw; (try dsimp only at hSw); first | (go_simp; done) | (go_simp; with_reducible rfl))
      try simp only [Act.put, List.setIfInBounds_toArray, List.set_cons_zero, List.set_cons_succ]
      refine wpAnyH_take (i := 15) (v := ?_) (by (simp only [List.getElem?_toArray, List.getElem?_cons_zero, List.getElem?_cons_succ]; exact rfl)) (by kernel_rfl) (by kernel_rfl) (by kernel_rfl) (by exact fun _ _ _ h => h) (Or.inl ⟨by rfl, ?_⟩) (by assumption) ?_
      rotate_left
      · (intro w hSw; (try dsimp only at hSw); first | (go_simp; done) | (go_simp; with_reducible rfl))
      try simp only [Act.put, List.setIfInBounds_toArray, List.set_cons_zero, List.set_cons_succ]
      refine wpAnyH_take (i := 16) (v := ?_) (by (simp only [List.getElem?_toArray, List.getElem?_cons_zero, List.getElem?_cons_succ]; exact rfl)) (by kernel_rfl) (by kernel_rfl) (by kernel_rfl) (by exact fun _ _ _ h => h) (Or.inl ⟨by rfl, ?_⟩) (by assumption) ?_
      rotate_left
      · (intro w hSw; (try dsimp only at hSw); first | (go_simp; done) | (go_simp; with_reducible rfl))
      try simp only [Act.put, List.setIfInBounds_toArray, List.set_cons_zero, List.set_cons_succ]
      refine wpAnyH_take (i := 17) (v := ?_) (by (simp only [List.getElem?_toArray, List.getElem?_cons_zero, List.getElem?_cons_succ]; exact rfl)) (by kernel_rfl) (by kernel_rfl) (by kernel_rfl) (by exact fun _ _ _ h => h) (Or.inl ⟨by rfl, ?_⟩) (by assumption) ?_
      rotate_left
      · (intro w hSw; (try dsimp only at hSw); first | (go_simp; done) | (go_simp; with_reducible rfl))
      try simp only [Act.put, List.setIfInBounds_toArray, List.set_cons_zero, List.set_cons_succ]
      refine wpAnyH_ready (rs := [6]) (by kernel_rfl) (by simp) ?_
      refine AllReadyH.cons (by (simp only [List.getElem?_toArray, List.getElem?_cons_zero, List.getElem?_cons_succ]; exact rfl)) (fun K hK => ?_) AllReadyH.nil
      go_simp
      go_at_call 19; refine (TA.out _ s T K0 I1.out.2.2.1 HT.out).mono ?_; rintro e w6 ⟨rfl, K6⟩
      go_wp2_with fail
      refine hK.out _ _ ((CC.out _ K6).2) (fun hHeld => ?_)
      clear hK K
      try simp only [Act.put, List.setIfInBounds_toArray, List.set_cons_zero, List.set_cons_succ]
      refine wpAnyH_take (i := 8) (v := ?_) (by (simp only [List.getElem?_toArray, List.getElem?_cons_zero, List.getElem?_cons_succ]; exact rfl)) (by kernel_rfl) (by kernel_rfl) (by kernel_rfl) (by exact fun _ _ _ h => h) (Or.inl ⟨by rfl, ?_⟩) (by assumption) ?_
      rotate_left
      · (intro w hSw; (try dsimp only at hSw); first | (go_simp; done) | (go_simp; with_reducible rfl))
      try simp only [Act.put, List.setIfInBounds_toArray, List.set_cons_zero, List.set_cons_succ]
      refine wpAnyH_take (i := 18) (v := ?_) (by (simp only [List.getElem?_toArray, List.getElem?_cons_zero, List.getElem?_cons_succ]; exact rfl)) (by kernel_rfl) (by kernel_rfl) (by kernel_rfl) (by exact fun _ _ _ h => h) (Or.inl ⟨by rfl, ?_⟩) (by assumption) ?_
      rotate_left
      · (intro w hSw; (try dsimp only at hSw); first | (go_simp; done) | (go_simp; with_reducible rfl))
      try simp only [Act.put, List.setIfInBounds_toArray, List.set_cons_zero, List.set_cons_succ]
      refine wpAnyH_done (by kernel_rfl) ?_ _
      clear e7 e8 e9 e10 e11 e12 hkq hks hks2 TK
      by_cases y5 : q < 4
      · have y6 : (q : Int) < 4 := by omega
        have y7 : decide ((q : Int) < 4) = true := decide_eq_true y6
        have WI := DD.out.ins q (by omega)
        rw [← SQ.out] at WI
        clear y5
        go_wp2_with fail
        refine (WS.out _ s k K6 I1.out.2.2.1 WI).mono ?_; rintro e w7 ⟨rfl, K7⟩
        have L7 := Lib.hid K7
        clear K6 K7 WI hqd hqt2 hs e1 e2 e3 e4 e5 e6
        go_wp2_with fail
        go_roundw
        case rel => exact ⟨q + 1, by go_num, NX, L7⟩
        case measure => simp [intOf]; omega
      · have y6 : (q : Int) = 4 := by have := Y4.out; omega
        have y7 : decide ((q : Int) < 4) = false := decide_eq_false (by omega)
        have y8 : ¬ (q : Int) < 4 := by omega
        have WI : withinI l (nearI s) = -1 := by
          have := DD.out.out
          rw [SQ.out, show (q : Int) = ((4 : Nat) : Int) by omega]
          exact this
        clear y5 y6
        go_wp2_with fail
        refine (WN.out _ s K6 I1.out.2.2.1 WI).mono ?_; rintro e w7 ⟨rfl, K7⟩
        have L7 := Lib.hid K7
        clear K6 K7 WI hqd hqt2 hs e1 e2 e3 e4 e5 e6
        go_wp2_with fail
        go_roundw
        case rel => exact ⟨q + 1, by go_num, NX, L7⟩
        case measure => simp [intOf]; omega
    · have y1 : (5 : Int) ≤ (q : Int) := by omega
      have y2 : decide ((q : Int) < 5) = false := decide_eq_false (by omega)
      obtain ⟨g1, hg1⟩ : ∃ g1, f - 1 = g1 := ⟨_, rfl⟩
      obtain ⟨g2, hg2⟩ : ∃ g2, f + 86400000000000 = g2 := ⟨_, rfl⟩
      obtain ⟨g3, hg3⟩ : ∃ g3, g2 - 1 = g3 := ⟨_, rfl⟩
      have W1 : withinI l (nearI g1) = -1 := by rw [← hg1]; exact DD.out.ahead
      have W2 : withinI l (nearI g3) = (k : Int) := by rw [← hg3, ← hg2]; exact DD.out.last
      have fb := FB.out
      have I1 : Hid (I64 g1 ∧ I64 g2 ∧ I64 g3) := by unfold Hid I64; omega
      obtain ⟨e1, e2⟩ := wr15 I1.out.1
      obtain ⟨e3, e4⟩ := wr15 I1.out.2.1
      obtain ⟨e5, e6⟩ := wr15 I1.out.2.2
      clear y Q fb
      go_wp2_with fail
      refine (WN.out _ g1 L.out I1.out.1 W1).mono ?_; rintro e w7 ⟨rfl, K7⟩
      clear W1
      go_wp2_with fail
      refine (WS.out _ g3 k K7 I1.out.2.2 W2).mono ?_; rintro e w8 ⟨rfl, K8⟩
      have L8 := Lib.hid (L1.out.trans (K8.mono L1.out.size))
      clear K7 K8 W2 e1 e2 e3 e4 e5 e6 hg1 hg2 hg3
      go_wp2
      go_ret
      exact ⟨rfl, L8.out⟩
theorem days15_walk (C : SCode) (w : World) (p : Option Addr) (n c : Nat) (gs : List Gp) (h : HoldsG w p n c gs) (hh : ∀ g ∈ gs, g.h < 65536) (a : Nat) (ha : a < 256) :
    Calls Try.prog 7 #[.slice p n c, .int .u8 (a : Nat)] w fun e w' => e = .returned (.bool true) ∧ Below w.heap.size w w' := by
  rcases Nat.eq_zero_or_pos (mkL dayI (gs.take 32)).length with e | e
  · exact days15_none C w p n c gs h hh a ha (List.length_eq_zero_iff.1 e)
  · exact days15_some C w p n c gs h hh a ha e
end Go.Proofs.Ytmafjhggjpjgmaa
