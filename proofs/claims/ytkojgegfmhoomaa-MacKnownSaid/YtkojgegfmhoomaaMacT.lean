/- Layer 6 (mac), the program's own tag. -/
import Derived.Test.YtkojgegfmhoomaaMacU
namespace Go.Proofs.Ytkojgegfmhoomaa
open Go.ChangeShapes Go.WideShapes Go.ChangeAt Go.RowKit OctM

/-- M bytes have been taken in. -/
structure TagRel (K : Nat) (w3 : World) (A B : Nat) (ds : List Nat) (M : Nat) (wr : World) : Prop where
  st : StP wr K (sipS A B (fullN ds (M / 8)))
  on : OnlyB K w3 wr
theorem tag_more {K : Nat} {w3 wr : World} {A B : Nat} {ds : List Nat} {M : Nat} (h : TagRel K w3 A B ds M wr) (g : ¬ (M + 1) % 8 = 0) : TagRel K w3 A B ds (M + 1) wr := ⟨by rw [fullN_more ds g]; exact h.st, h.on⟩
theorem tag_word {K : Nat} {w3 wr w' : World} {A B : Nat} {ds : List Nat} {M x : Nat} (h : TagRel K w3 A B ds M wr) (hM : M < ds.length) (g : (M + 1) % 8 = 0) (hx : x = partW ds M + ds.getD M 0 * 256 ^ (M % 8))
    (hs : StP w' K (takeS (sipS A B (fullN ds (M / 8))) x)) (ho : OnlyB K wr w') : TagRel K w3 A B ds (M + 1) w' := ⟨by rw [fullN_word ds hM g, sip_snoc, ← hx]; exact hs, h.on.trans ho⟩
theorem byt_get {ds : List Nat} (hy : Byt ds) {M : Nat} (h : M < ds.length) : ds.getD M 0 < 256 := by
  rw [List.getD_eq_getElem?_getD, List.getElem?_eq_getElem h]
  exact hy _ (List.getElem_mem _)

set_option maxRecDepth 100000 in
set_option maxHeartbeats 16000000 in
theorem ptag_any (w : World) (k : Ky) (p : Option Addr) (n c : Nat) (ps : List Prt) (hk : KeyOk k) (hp : HoldsP w p n c ps) (hy : ∀ q ∈ ps, Byt q.ds) (hn : n ≤ 1000) (ht : totalP ps ≤ 2000000) :
    Calls Try.prog 10 #[keyV k, .slice p n c] w fun e w' => e = .returned (.int .u64 (tagN k.a k.b (joinP ps) : Nat)) ∧ Below w.heap.size w w' := by
  obtain ⟨id, A, B⟩ := k
  have hKA : W64 A := hk.2.1
  have hKB : W64 B := hk.2.2
  obtain ⟨ds, hds⟩ : ∃ ds, ds = joinP ps := ⟨_, rfl⟩
  have BY : Byt ds := by rw [hds]; exact joinP_byt hy
  have LS := Lib.hid hp.lens
  have LN := Lib.hid hp.len
  have DT : ds.length ≤ 2000000 := by rw [hds, joinP_len LS.out]; exact ht
  have OKS : Hid (∀ M, M ≤ ds.length → (sipS A B (fullN ds (M / 8))).ok) := fun M hM => full_ok hKA hKB BY hM
  have GET : Hid (∀ (k : Nat) (q : Prt) (j : Nat), ps[k]? = some q → j < q.ds.length → ds.getD ((joinP (ps.take k)).length + j) 0 = q.ds.getD j 0 ∧ (joinP (ps.take k)).length + j < ds.length) := fun k q j h1 h2 => by rw [hds]; exact joinP_get h1 h2
  have NXP : Hid (∀ (k : Nat) (q : Prt), ps[k]? = some q → (joinP (ps.take (k + 1))).length = (joinP (ps.take k)).length + q.n) := fun k q h => by
    have e1 : ps.take (k + 1) = ps.take k ++ [q] := by
      obtain ⟨h1, rfl⟩ := List.getElem?_eq_some_iff.1 h
      rw [List.take_succ_eq_append_getElem h1]
    rw [e1, joinP_snoc, List.length_append, LS.out q (List.mem_of_getElem? h)]
  have ALL : Hid ((joinP (ps.take n)).length = ds.length) := by
    unfold Hid
    rw [List.take_of_length_le (by rw [LN.out]; exact Nat.le_refl _), hds]
  have BB : Hid (Byt ds) := BY
  have DL := Lib.hid DT
  have HP := Lib.hid hp
  have HN := Lib.hid hn
  have nb : (n : Int) ≤ 1000 := by omega
  have PB := Lib.hid (fun v => pbegin_any v ⟨id, A, B⟩ hk)
  have TG : Hid (tagN A B ds = endN (fourN (inC (takeS (sipS A B (fullN ds (ds.length / 8))) (lastN ds))))) := tagN_last A B ds
  have LW : Hid (W64 (lastN ds)) := lastN_lt BY
  have OL : Hid (bits .or .u64 (partW ds ds.length : Int) (IntKind.u64.wrap ((ds.length : Int) * 72057594037927936)) = ((lastN ds : Nat) : Int)) := or_last BY
  have FINV : Hid (tagN A B (joinP ps) = tagN A B ds) := by rw [hds]; rfl
  simp only
  rw [FINV.out]
  unfold keyV at *
  simp only at *
  clear hk hp hy hn ht hKA hKB hds BY DT FINV
  go_enter Try.func10, Try.ntmps10
  go_wp2_with fail
  refine (PB.out _).mono ?_; rintro e w1 ⟨rfl, l1⟩
  have LA : Hid (Below w.heap.size w w1) := ((Below.refl _ _).alloc (Nat.le_refl _) _).trans (l1.mono (by simp))
  clear l1
  have S0 : Hid (sipS A B (fullN ds (0 / 8)) = initS A B) := rfl
  generalize initS A B = s0 at *
  obtain ⟨a0, b0, c0, d0⟩ := s0
  unfold stV
  simp only
  obtain ⟨K, hK⟩ : ∃ K, K = w1.heap.size := ⟨_, rfl⟩
  have ST0 : Hid (StP (w1.alloc (.cells #[.int .u64 (a0 : Nat), .int .u64 (b0 : Nat), .int .u64 (c0 : Nat), .int .u64 (d0 : Nat)] 59)) K (sipS A B (fullN ds (0 / 8)))) := by
    unfold Hid
    rw [S0.out, hK]
    exact heap_alloc_new w1 _
  have LB : Hid (Below w.heap.size w (w1.alloc (.cells #[.int .u64 (a0 : Nat), .int .u64 (b0 : Nat), .int .u64 (c0 : Nat), .int .u64 (d0 : Nat)] 59))) := LA.out.alloc LA.out.size _
  have KW : Hid (w.heap.size ≤ K) := by unfold Hid; rw [hK]; exact LA.out.size
  clear S0 PB
  go_upto_region 2 with fail
  rw [← hK]
  clear hK LA
  generalize (w1.alloc (.cells #[.int .u64 (a0 : Nat), .int .u64 (b0 : Nat), .int .u64 (c0 : Nat), .int .u64 (d0 : Nat)] 59)) = w3 at *
  have PZ : Hid ((0 : Int) = (partW ds 0 : Nat)) := by unfold Hid; rw [partW_zero ds rfl]; rfl
  go_wp2_with fail
  go_loopw [6, 7, 16] (fun x y i wr => ∃ k M : Nat, x = .int .u64 (partW ds M : Nat) ∧ y = .int .i64 (M : Nat) ∧ i = .int .i64 k ∧ Hid (k ≤ n) ∧ Hid (M = (joinP (ps.take k)).length) ∧ Hid (TagRel K w3 A B ds M wr)) (fun _ _ i _ => 2000 - (intOf i).toNat)
  case atStart => exact ⟨0, 0, by rw [← PZ.out], rfl, rfl, Nat.zero_le _, rfl, ST0.out, OnlyB.refl _ _⟩
  case round =>
    obtain ⟨k, M, rfl, rfl, rfl, hk, hM, hR⟩ := hrel
    have kb : (k : Int) ≤ 1000 := by have := hk.out; have := HN.out; omega
    by_cases g : k < n
    · have g' : (k : Int) < (n : Int) := by omega
      have G : Hid (k + 1 ≤ n) := g
      have LR : Hid (Below w.heap.size w wr) := LB.out.trans (hR.out.on.low _ KW.out)
      obtain ⟨a, q, rfl, hq, c0, hh⟩ := (HP.out.below LR.out).at g
      have GQ := Lib.hid (fun j => GET.out k q j hq)
      have NQ := Lib.hid (NXP.out k q hq)
      have LQ := Lib.hid (LS.out q (List.mem_of_getElem? hq))
      obtain ⟨qp, qn, qc, qd⟩ := q
      simp only at *
      rw [← hM.out] at GQ NQ
      have HH := Lib.hid (hh.below (Below.refl _ _))
      have HHW : Hid (∀ wv, OnlyB K w3 wv → Holds wv qp qn qc (valsN .u8 qd)) := fun wv ho => by
        obtain ⟨a', q', ea, hq', _, hh'⟩ := (HP.out.below (LB.out.trans (ho.low _ KW.out))).at g
        rw [hq] at hq'
        injection hq' with hq'
        subst hq'
        exact hh'
      have QB : Hid (qn ≤ 2000000) := by
        unfold Hid
        have a1 := DL.out
        rcases Nat.eq_zero_or_pos qn with z | z
        · omega
        · have := (GQ.out (qn - 1) (by rw [LQ.out]; omega)).2
          omega
      have MB : Hid (M + qn ≤ ds.length) := by
        unfold Hid
        rcases Nat.eq_zero_or_pos qn with z | z
        · have e := joinP_len (ps := ps.take k) (fun x hx => LS.out x (List.mem_of_mem_take hx))
          have t := totalP_take ps k
          have e2 := joinP_len (ps := ps) LS.out
          have e3 : (joinP ps).length = ds.length := by have := ALL.out; rwa [List.take_of_length_le (by rw [LN.out]; exact Nat.le_refl _)] at this
          have := hM.out
          omega
        · have := (GQ.out (qn - 1) (by rw [LQ.out]; omega)).2
          omega
      have qb : (qn : Int) ≤ 2000000 := by have := QB.out; omega
      have R0 := Lib.hid hR.out
      have gk : Hid (decide (k < n) = true) := decide_eq_true g
      clear hk hM hR g hq hh
      go_wp2_with fail
      try simp only [gk.out]
      go_loopw [6, 7, 22] (fun x y j wv => ∃ i M' : Nat, x = .int .u64 (partW ds M' : Nat) ∧ y = .int .i64 (M' : Nat) ∧ j = .int .i64 i ∧ Hid (i ≤ qn) ∧ Hid (M' = M + i) ∧ Hid (TagRel K w3 A B ds M' wv)) (fun _ _ j _ => 3000000 - (intOf j).toNat)
      case atStart => exact ⟨0, M, rfl, rfl, rfl, Nat.zero_le _, rfl, R0.out⟩
      case round =>
        obtain ⟨i, M', rfl, rfl, rfl, hi, hM', hR⟩ := hrel
        have ib : (i : Int) ≤ 2000000 := by have := hi.out; have := QB.out; omega
        by_cases h : i < qn
        · have h' : (i : Int) < (qn : Int) := by omega
          have HI : Hid (i + 1 ≤ qn) := h
          obtain ⟨a2, ea2, cz⟩ := (HHW.out _ hR.out.on).atN h
          subst ea2
          have GG := GQ.out i (by rw [LQ.out]; exact h)
          rw [← hM'.out] at GG
          obtain ⟨b, hb⟩ : ∃ b, b = qd.getD i 0 := ⟨_, rfl⟩
          rw [← hb] at cz GG
          have bb : b < 256 := by rw [← GG.1]; exact byt_get BB.out GG.2
          obtain ⟨r, hr⟩ : ∃ r, r = M' % 8 := ⟨_, rfl⟩
          obtain ⟨S, hS⟩ : ∃ S, S = 8 * r := ⟨_, rfl⟩
          obtain ⟨x, hx⟩ : ∃ x, x = partW ds M' + b * 256 ^ (M' % 8) := ⟨_, rfl⟩
          have OR := or_join BB.out M' b bb S (by rw [hS, hr])
          rw [← hx] at OR
          have XW : W64 x := by rw [hx]; exact join_lt BB.out bb
          obtain ⟨y, hy⟩ : ∃ y, y = partW ds M' := ⟨_, rfl⟩
          obtain ⟨M1, hM1⟩ : ∃ M1, M1 = M' + 1 := ⟨_, rfl⟩
          obtain ⟨r1, hr1⟩ : ∃ r1, r1 = M1 % 8 := ⟨_, rfl⟩
          have mb : (M' : Int) ≤ 2000000 := by have := DL.out; have := GG.2; omega
          have m1b : (M1 : Int) ≤ 2000001 := by omega
          have e1 : (M' : Int).tmod 8 = (r : Int) := by rw [Int.tmod_eq_emod_of_nonneg (by omega)]; omega
          have e1' : (M' : Int) % 8 = (r : Int) := by omega
          have e2 : 8 * (r : Int) = (S : Int) := by omega
          have e3 : (M' : Int) + 1 = (M1 : Int) := by omega
          have e4 : (M1 : Int).tmod 8 = (r1 : Int) := by rw [Int.tmod_eq_emod_of_nonneg (by omega)]; omega
          have e4' : (M1 : Int) % 8 = (r1 : Int) := by omega
          have sb : (S : Int) < 64 := by omega
          have rb : (r : Int) < 8 := by omega
          have r1b : (r1 : Int) < 8 := by omega
          have wb : IntKind.u64.wrap (b : Int) = (b : Int) := by rw [IntKind.wrap_u64]; omega
          rw [← hy] at OR ⊢
          have EM : Hid (M1 = M + (i + 1)) := by unfold Hid; have := hM'.out; omega
          by_cases z : r1 = 0
          · have z8 : (M' + 1) % 8 = 0 := by omega
            have NX : Hid (∀ w', StP w' K (takeS (sipS A B (fullN ds (M' / 8))) x) → OnlyB K wr w' → TagRel K w3 A B ds M1 w') := fun w' h1 h2 => by
              rw [hM1]
              exact tag_word hR.out GG.2 z8 (by rw [hx, GG.1]) h1 h2
            have ST := Lib.hid hR.out.st
            have OK' := Lib.hid (OKS.out M' (by have := GG.2; omega))
            have XW' := Lib.hid XW
            have PZ1 : Hid ((0 : Int) = (partW ds M1 : Nat)) := by unfold Hid; rw [partW_zero ds (by rw [hM1]; exact z8)]; rfl
            subst z
            clear hi hM' hR h GG hb bb hr hS hx hy hM1 hr1 XW z8
            go_wp2_with fail
            refine (ptake_any _ K _ x OK'.out ST.out XW'.out).mono ?_; rintro e w' ⟨rfl, st, on⟩
            have NR := Lib.hid (NX.out _ st on)
            clear st on NX ST
            go_wp2
            go_roundw
            case rel => exact ⟨i + 1, M1, by rw [← PZ1.out], rfl, by go_num, HI, EM, NR⟩
            case measure => simp [intOf]; omega
          · have z8 : ¬ (M' + 1) % 8 = 0 := by omega
            have NR : Hid (TagRel K w3 A B ds M1 wr) := by unfold Hid; rw [hM1]; exact tag_more hR.out z8
            have PX : Hid (x = partW ds M1) := by
              unfold Hid
              rw [hx, hM1, ← GG.1]
              exact partW_more ds GG.2 z8
            have z1 : ((r1 : Int) == 0) = false := by simp; omega
            have z2 : ¬ (r1 : Int) = 0 := by omega
            clear hi hM' hR h GG hb bb hr hS hx hy hM1 hr1 XW z8 z
            go_wp2
            go_roundw
            case rel => exact ⟨i + 1, M1, by rw [← PX.out], rfl, by go_num, HI, EM, NR⟩
            case measure => simp [intOf]; omega
        · have h' : (qn : Int) ≤ (i : Int) := by omega
          have EM : Hid (M' = (joinP (ps.take (k + 1))).length) := by
            unfold Hid
            rw [NQ.out, hM'.out]
            have := hi.out
            omega
          have NR := Lib.hid hR.out
          clear hi hM' hR h
          go_wp2
          go_roundw
          case rel => exact ⟨k + 1, M', rfl, rfl, by go_num, G, EM, NR⟩
          case measure => simp [intOf]; omega
    · have g' : (n : Int) ≤ (k : Int) := by omega
      have EM : M = ds.length := by
        have e : k = n := by have := hk.out; omega
        rw [hM.out, e, ALL.out]
      subst EM
      obtain ⟨L, hL⟩ : ∃ L, L = ds.length := ⟨_, rfl⟩
      obtain ⟨y, hy⟩ : ∃ y, y = partW ds ds.length := ⟨_, rfl⟩
      obtain ⟨x, hx⟩ : ∃ x, x = lastN ds := ⟨_, rfl⟩
      have OL' := OL.out
      rw [← hy, ← hx, ← hL] at OL'
      have ST := Lib.hid hR.out.st
      have OK' := Lib.hid (OKS.out ds.length (Nat.le_refl _))
      have LR : Hid (Below w.heap.size w wr) := LB.out.trans (hR.out.on.low _ KW.out)
      have XW : Hid (W64 x) := by unfold Hid; rw [hx]; exact LW.out
      have TG' : Hid (tagN A B ds = endN (fourN (inC (takeS (sipS A B (fullN ds (ds.length / 8))) x)))) := by unfold Hid; rw [TG.out, hx]
      have lb : (L : Int) ≤ 2000000 := by have := DL.out; omega
      have wl : IntKind.u64.wrap (L : Int) = (L : Int) := by rw [IntKind.wrap_u64]; omega
      rw [← hy, ← hL]
      clear hk hM hR g hy hx hL OL
      go_wp2_with fail
      refine (ptake_any _ K _ x OK'.out ST.out XW.out).mono ?_; rintro e w5 ⟨rfl, st, on⟩
      have ok5 := take_ok OK'.out XW.out
      have L5 : Hid (Below w.heap.size w w5) := LR.out.trans (on.low _ KW.out)
      have PE := Lib.hid (pend_any w5 K _ ok5 st _ rfl)
      rw [← TG'.out] at PE
      clear st on ok5 LR
      go_wp2_with fail
      refine PE.out.mono ?_; rintro e w6 ⟨rfl, on⟩
      have L6 : Hid (Below w.heap.size w w6) := L5.out.trans (on.low _ KW.out)
      clear on PE
      go_wp2
      go_ret
      exact ⟨rfl, L6.out⟩

set_option maxRecDepth 100000 in
theorem pright_any (w : World) (k : Ky) (t : Nat) (p : Option Addr) (n c : Nat) (ps : List Prt) (hk : KeyOk k) (hp : HoldsP w p n c ps) (hy : ∀ q ∈ ps, Byt q.ds) (hn : n ≤ 1000) (ht : totalP ps ≤ 2000000) :
    Calls Try.prog 11 #[keyV k, .int .u64 (t : Nat), .slice p n c] w fun e w' => e = .returned (.bool (decide (tagN k.a k.b (joinP ps) = t))) ∧ Below w.heap.size w w' := by
  obtain ⟨id, A, B⟩ := k
  obtain ⟨v, hv⟩ : ∃ v, v = tagN A B (joinP ps) := ⟨_, rfl⟩
  have L1 : Hid (Below w.heap.size w (w.alloc (.cells #[.int .u32 (id : Nat), .int .u64 (A : Nat), .int .u64 (B : Nat)] 25))) := (Below.refl _ _).alloc (Nat.le_refl _) _
  have PT := Lib.hid (ptag_any _ ⟨id, A, B⟩ p n c ps hk (hp.below L1.out) hy hn ht)
  simp only at *
  rw [← hv] at PT ⊢
  have EQ : Hid (((v : Int) == (t : Int)) = decide (v = t)) := by
    unfold Hid
    rw [Bool.eq_iff_iff]
    simp only [beq_iff_eq, decide_eq_true_eq]
    omega
  unfold keyV at *
  simp only at *
  clear hk hp hy hn ht hv
  go_enter Try.func11, Try.ntmps11
  go_wp2_with fail
  refine PT.out.mono ?_; rintro e w1 ⟨rfl, l1⟩
  have L2 := Lib.hid (L1.out.trans (l1.mono L1.out.size))
  clear l1
  go_wp2
  go_ret
  exact ⟨by rw [← EQ.out]; rfl, L2.out⟩

/-- All that the laws ask of the program's tags. -/
theorem tag_code : TagCode := ⟨fun w k p n c ps hk hp hy hn ht => ptag_any w k p n c ps hk hp hy hn ht, fun w k t p n c ps hk _ hp hy hn ht => pright_any w k t p n c ps hk hp hy hn ht⟩
end Go.Proofs.Ytkojgegfmhoomaa
