/- LeapMost, the walk, work ahead: over LCode (by tools/genlpmost.py). -/
import Derived.Test.YtpfbdpoileepoaaLpF
import Derived.Test.YtpfbdpoileepoaaLpO
import Derived.Test.YtpfbdpoileepoaaAppendS
import Derived.BigRegion
import Derived.Deep.RegionHeld3
import Derived.Deep.DeepCutAuto
import Derived.Deep.CutBlock
import Derived.Deep.CutRange
set_option maxRecDepth 100000
namespace Go.Proofs.Ytpfbdpoileepoaa
open Go.ChangeShapes Go.WideShapes Go.ChangeAt Go.RowKit SmM

theorem infoU8 : (Try.prog.info? 5).map (fun i => (i.zero, i.size, i.bytes)) = some (some (.int .u8 0), 1, 1) := by kernel_rfl
theorem slice_from {w : World} {p : Option Addr} {n c k : Nat} (hk : k ≤ n) : (sliceB (.slice p n c) (some (.int .i64 (k : Int))) none none).run Try.prog w = .ok (.slice (if c = k then p else p.map (·.add (k * 1))) (n - k) (c - k)) w := by
  have h1 : (k : Int) ≤ (n : Int) := by omega
  unfold sliceB
  simp only [Instr.sliceAt]
  rw [Sem.run_bind, run_underlying Try.underlying42]
  simp [Instr.slice, Instr.sliceBounds, run_underlying Try.underlying42, Instr.sliceBound, asIntOf, go_sem, hk]
theorem i64_small {k : Nat} (h : k ≤ 1000) : I64 ((k : Nat) : Int) := by unfold I64; omega
theorem sure_step {G : List Nat} {i : Nat} (h : i < G.length) : sureN (G.take (i + 1)) = sureN (G.take i) + if G.getD i 0 < 3 then 1 else 0 := by
  rw [List.take_succ_eq_append_getElem h, sure_app, List.getD_eq_getElem?_getD, List.getElem?_eq_getElem h]
  unfold sureN
  rw [List.countP_singleton]
  simp
theorem said_step {G : List Nat} {i a : Nat} (h : i < G.length) : saidN (G.take (i + 1)) a = saidN (G.take i) a + if G.getD i 0 = a then 1 else 0 := by
  rw [List.take_succ_eq_append_getElem h, said_app, List.getD_eq_getElem?_getD, List.getElem?_eq_getElem h]
  unfold saidN
  rw [List.countP_singleton]
  simp
theorem vals_turned (G : List Nat) (k : Nat) : valsN .u8 [3] ++ (valsN .u8 (G.drop k) ++ (valsN .u8 (G.take k) ++ [.int .u8 3, .int .u8 3, .int .u8 3, .int .u8 3])) = valsN .u8 ([3] ++ G.drop k ++ G.take k ++ [3, 3, 3, 3]) := by
  rw [valsN_append, valsN_append, valsN_append, List.append_assoc, List.append_assoc]; rfl
theorem i64_twice {S : Nat} (h : S ≤ 60) : I64 (2 * ((S : Nat) : Int)) := by unfold I64; omega
theorem two_u8 {w : World} (v : Value) (ty : TypeId) : ∀ j u, ([v] : List Value)[j]? = some u → (w.alloc (.cells #[v] ty)).cell? ((⟨w.heap.size, 0, none⟩ : Addr).add j) = some u := World.news_of_block (heap_alloc_new w (.cells #[v] ty))
attribute [local go_sem ↓] sliceB_eq
set_option maxHeartbeats 8000000 in
theorem most16_walk (C : LCode) (w : World) (p : Option Addr) (n c : Nat) (l : List Nat) (h : Holds w p n c (valsN .u8 l)) (hd : ∀ d ∈ l, d < 256) (at_ : Nat) (hat : at_ < 256) :
    Calls Try.prog 7 #[.slice p n c, .int .u8 (at_ : Nat)] w fun r w' => r = .returned (.bool true) ∧ Below w.heap.size w w' := by
  have nb : (n : Int) ≤ 9223372036854775807 := by have := h.cap; have := h.max; unfold maxLen at this; omega
  have ln : l.length = n := by have := h.len; rwa [valsN_len] at this
  have AW := Lib.hid (alive16 C)
  have HD := Lib.hid h
  have LN := Lib.hid ln
  have HAT := Lib.hid hat
  have HH : Hid (∀ i, i < n → l.getD i 0 < 256) := fun i hi => by
    rw [List.getD_eq_getElem?_getD, List.getElem?_eq_getElem (by omega)]
    exact hd _ (List.getElem_mem _)
  obtain ⟨V, hV⟩ : ∃ V : List Nat, l.map (· % 4) = V := ⟨_, rfl⟩
  have TKN : Hid (∀ i, i < n → V.take (i + 1) = V.take i ++ [l.getD i 0 % 4]) := fun i hi => by
    rw [← hV, List.take_succ_eq_append_getElem (by rw [List.length_map]; omega), List.getElem_map, List.getD_eq_getElem?_getD, List.getElem?_eq_getElem (by omega)]
    rfl
  have VN : Hid (V.length = n) := by unfold Hid; rw [← hV, List.length_map]; exact ln
  have V4 : Hid (∀ d ∈ V, d < 256) := fun d hx => by
    rw [← hV] at hx
    obtain ⟨y, -, rfl⟩ := List.mem_map.1 hx
    have := Nat.mod_lt y (show 0 < 4 by decide)
    omega
  obtain ⟨iU, hiU, hu0, hu1, hu2⟩ : ∃ i, Try.prog.info? 5 = some i ∧ i.zero = some (.int .u8 0) ∧ i.size = 1 ∧ i.bytes = 1 := by
    obtain ⟨i, hi, h⟩ := Option.map_eq_some_iff.1 infoU8
    simp only [Prod.mk.injEq] at h
    exact ⟨i, hi, h.1, h.2.1, h.2.2⟩
  clear h hd ln hat hV
  go_enter Try.func7, Try.ntmps7
  go_upto_block 0 with fail
  go_cut [5, 6] from 18 to 35 (fun vs _ wx => ∃ (p3 : Option Addr) (m c3 : Nat), vs = .slice p3 m c3 ∧ Hid (m = min n 60 ∧ wx.ownsRow w.heap.size 5 1 (.slice p3 m c3) m (valsN .u8 (V.take 60))) ∧ Hid (Below w.heap.size w wx))
  case first =>
    go_wp2_with fail
    go_loopw [5, 6] (fun vs ii wr => ∃ (p3 : Option Addr) (c3 i : Nat), vs = .slice p3 i c3 ∧ ii = .int .i64 (i : Nat) ∧ Hid (i ≤ n ∧ i ≤ 60) ∧ Hid (wr.ownsRow w.heap.size 5 1 (.slice p3 i c3) i (valsN .u8 (V.take i))) ∧ Hid (Below w.heap.size w wr)) (fun _ ii _ => 1000 - (intOf ii).toNat)
    case atStart => exact ⟨none, 0, 0, rfl, rfl, ⟨Nat.zero_le _, Nat.zero_le _⟩, by rw [List.take_zero]; exact ⟨rfl, .inl ⟨rfl, rfl⟩⟩, Below.refl _ _⟩
    case round =>
      obtain ⟨p3, c3, i, rfl, rfl, I, O, L⟩ := hrel
      have i0 : (0 : Int) ≤ (i : Int) := by omega
      have i60 : (i : Int) ≤ 60 := by have := I.out.2; omega
      by_cases z : i < n ∧ i < 60
      · obtain ⟨z, z'⟩ := z
        have z1 : (i : Int) < (n : Int) := by omega
        have z2 : decide ((i : Int) < (n : Int)) = true := decide_eq_true z1
        have z3 : decide ((i : Int) < 60) = true := decide_eq_true (by omega)
        obtain ⟨ap, rfl, cz⟩ := (HD.out.below L.out).atN z
        have GH := HH.out i z
        have TN := TKN.out i z
        obtain ⟨d, hd⟩ : ∃ d, l.getD i 0 = d := ⟨_, rfl⟩
        rw [hd] at cz GH TN
        obtain ⟨r, hr⟩ : ∃ r : Nat, d % 4 = r := ⟨_, rfl⟩
        rw [hr] at TN
        have tr : ((d : Nat) : Int).tmod 4 = ((r : Nat) : Int) := by rw [Int.tmod_eq_emod_of_nonneg (by omega)]; omega
        have u1 : IntKind.u8.wrap ((r : Nat) : Int) = ((r : Nat) : Int) := by rw [IntKind.wrap_u8]; omega
        have NX : Hid ((i + 1 ≤ n ∧ i + 1 ≤ 60) ∧ V.take (i + 1) = V.take i ++ [r]) := ⟨by omega, TN⟩
        have BM : Hid (i + 1 ≤ maxLen) := by unfold Hid maxLen; omega
        have BY : Hid ((i + 1) * 1 ≤ 140737488355328) := by unfold Hid; omega
        clear z z' I GH TN hd hr
        go_wp2_with (at_builtin; refine wpList_append_own _ rfl _ _ 42 rfl w.heap.size 5 iU (.int .u8 0) 1 1 Try.underlying42 hiU hu0 hu1 hu2 rfl (by decide) _ _ _ rfl (World.ownsRow.alloc O.out _) ⟨wr.heap.size, 0, none⟩ 1 1 [.int .u8 (r : Nat)] rfl rfl (two_u8 _ _) (valsN_one .u8 [r]) BM.out BY.out (L.out.alloc L.out.size _).size ?_)
        intro v w3 o g m
        have L3 : Hid (Below w.heap.size w w3) := (L.out.alloc L.out.size _).grown g (L.out.alloc L.out.size _).size (fun j hj => (World.ownsRow.lt O.out j hj).1)
        have O3 : Hid (w3.ownsRow w.heap.size 5 1 v (i + 1) (valsN .u8 (V.take (i + 1)))) := by
          rw [NX.out.2, valsN_append]
          exact o
        clear o g m O L tr u1
        obtain ⟨p4, c4, rfl⟩ := own_slice O3.out
        go_wp2_with fail
        go_roundw
        case rel => exact ⟨p4, c4, i + 1, rfl, by go_num, NX.out.1, O3, L3⟩
        case measure => simp [intOf]; omega
      · have e : V.take i = V.take 60 := by
          by_cases q : i < n
          · have : i = 60 := by have := I.out; omega
            rw [this]
          · rw [List.take_of_length_le (by rw [VN.out]; omega), List.take_of_length_le (by rw [VN.out]; have := I.out; omega)]
        have O' : Hid (i = min n 60 ∧ wr.ownsRow w.heap.size 5 1 (.slice p3 i c3) i (valsN .u8 (V.take 60))) := ⟨by have := I.out; omega, by have := O.out; rwa [e] at this⟩
        by_cases q : i < n
        · have z1 : (i : Int) < (n : Int) := by omega
          have z2 : decide ((i : Int) < (n : Int)) = true := decide_eq_true z1
          have z3 : decide ((i : Int) < 60) = false := decide_eq_false (by omega)
          have z4 : ¬ (i : Int) < 60 := by omega
          clear z q I O e
          go_wp2_with fail
          go_meet
          exact ⟨p3, i, c3, rfl, O', L⟩
        · have z1 : (n : Int) ≤ (i : Int) := by omega
          have z2 : decide ((i : Int) < (n : Int)) = false := decide_eq_false (by omega)
          clear z q I O e
          go_wp2_with fail
          go_meet
          exact ⟨p3, i, c3, rfl, O', L⟩
  obtain ⟨p3, m, c3, rfl, O, L⟩ := hcut
  obtain ⟨G, hG⟩ : ∃ G, V.take 60 = G := ⟨_, rfl⟩
  have G4 : Hid (∀ d ∈ G, d < 256) := fun d hx => V4.out d (by rw [← hG] at hx; exact List.mem_of_mem_take hx)
  have M60 : Hid (m ≤ 60) := by have := O.out.1; unfold Hid; omega
  have O1 : Hid (wc.ownsRow w.heap.size 5 1 (.slice p3 m c3) m (valsN .u8 G)) := by have := O.out.2; rwa [hG] at this
  clear O V4 VN TKN hG HH HD LN
  have GM : Hid (G.length = m) := by
    have := O1.out.1
    rw [valsN_len] at this
    unfold Hid
    omega
  have HV : Hid (Holds wc p3 m c3 (valsN .u8 G)) := by
    obtain ⟨p', c', e, hh⟩ := own_holds O1.out
    injection e with e1 e2 e3
    subst e1 e3
    exact hh
  have VO := Lib.hid (C.vote HV.out G4.out (by have := M60.out; omega))
  have VI := Lib.hid (vote_inv G)
  have VT := Lib.hid (vote_turned G)
  have VM := Lib.hid (vote_more (l := G))
  obtain ⟨VV, hVV⟩ : ∃ VV, voteN G = VV := ⟨_, rfl⟩
  obtain ⟨va, vg⟩ := VV
  rw [hVV] at VO VI VM
  simp only [hVV] at VT
  dsimp only at VO VI VM
  have m60 : (m : Int) ≤ 60 := by have := M60.out; omega
  have m0 : (0 : Int) ≤ (m : Int) := by omega
  have mc : m ≤ c3 := HV.out.cap
  have MC := Lib.hid mc
  clear hVV mc
  go_wp2_with fail
  refine VO.out.mono ?_; rintro r5 w5 ⟨rfl, b5⟩
  have L5 := Lib.hid (L.out.trans (b5.mono L.out.size))
  have O5 := Lib.hid (own_keep O1.out b5)
  have H5 := Lib.hid (HV.out.below b5)
  clear b5 VO O1 HV L
  go_upto_if 43 with fail
  go_cut [9] from 43 to 48 (fun kk wx => ∃ k : Nat, kk = .int .i64 (k : Nat) ∧ Hid (k ≤ m) ∧ wx = w5)
  case first =>
    by_cases g : 0 < m
    · have g1 : (0 : Int) < (m : Int) := by omega
      have g2 : decide ((0 : Int) < (m : Int)) = true := decide_eq_true g1
      have gn : ¬ (m : Int) = 0 := by omega
      have gm : ¬ m = 0 := by omega
      obtain ⟨k, hk⟩ : ∃ k, at_ % m = k := ⟨_, rfl⟩
      have km : k < m := by rw [← hk]; exact Nat.mod_lt _ g
      have tr : ((at_ : Nat) : Int).tmod ((m : Nat) : Int) = ((k : Nat) : Int) := by rw [Int.tmod_eq_emod_of_nonneg (by omega), ← hk]; rfl
      obtain ⟨e1, e2⟩ := wr16 (x := ((at_ : Nat) : Int)) (i64_small (Nat.le_trans (Nat.le_of_lt HAT.out) (by decide)))
      obtain ⟨e3, e4⟩ := wr16 (x := ((k : Nat) : Int)) (i64_small (Nat.le_trans (Nat.le_of_lt km) (Nat.le_trans M60.out (by decide))))
      have KM : Hid (k ≤ m) := Nat.le_of_lt km
      clear hk km g
      go_wp2_with fail
      go_meet
      exact ⟨k, rfl, KM, rfl⟩
    · have g2 : decide ((0 : Int) < (m : Int)) = false := decide_eq_false (by omega)
      have g3 : ¬ (0 : Int) < (m : Int) := by omega
      clear g
      go_wp2_with fail
      go_meet
      exact ⟨0, rfl, Nat.zero_le _, rfl⟩
  obtain ⟨k, rfl, KM, hw⟩ := hcut
  subst hw
  obtain ⟨w5, rfl⟩ : ∃ w5, w5 = wc := ⟨_, rfl⟩
  have MB := M60
  have SF1 : ∀ w : World, (sliceB (.slice p3 m c3) (some (.int .i64 (k : Int))) none none).run Try.prog w = .ok (.slice (if c3 = k then p3 else p3.map (·.add (k * 1))) (m - k) (c3 - k)) w := fun w => slice_from KM.out
  have SF2 : ∀ w : World, (sliceB (.slice p3 m c3) none (some (.int .i64 (k : Int))) none).run Try.prog w = .ok (.slice p3 k c3) w := fun w => slice_to (by have := KM.out; have := MC.out; omega)
  have A5 : Below w5.heap.size w5 (w5.drew.alloc (.cells #[.int .u8 3] 5)) := (Below.refl w5.heap.size w5).drew.alloc (Nat.le_refl _) _
  have KA := Lib.hid A5
  have SA : Hid (w5.heap.size ≤ (w5.drew.alloc (.cells #[.int .u8 3] 5)).heap.size) := A5.size
  have OA : Hid ((w5.drew.alloc (.cells #[.int .u8 3] 5)).ownsRow w5.heap.size 5 1 (.slice (some ⟨w5.drew.heap.size, 0, none⟩) 1 1) 1 (valsN .u8 [3])) := own_of_blk (heap_alloc_new w5.drew (.cells #[.int .u8 3] 5)) rfl (by decide) (Nat.le_refl _)
  have PB : Hid (Holds (w5.drew.alloc (.cells #[.int .u8 3] 5)) (if c3 = k then p3 else p3.map (·.add (k * 1))) (m - k) (c3 - k) (valsN .u8 (G.drop k))) := by
    have q := (H5.out.below A5).piece k m KM.out (Nat.le_refl _)
    have e : ((valsN .u8 G).drop k).take (m - k) = valsN .u8 (G.drop k) := by
      unfold valsN
      rw [← List.map_drop, List.take_of_length_le (by rw [List.length_map, List.length_drop, GM.out]; exact Nat.le_refl _)]
    rw [e] at q
    exact q
  have PC : Hid (Holds w5 p3 k c3 (valsN .u8 (G.take k))) := by
    refine ⟨by rw [valsN_len, List.length_take, GM.out]; have := KM.out; omega, by have := KM.out; have := MC.out; omega, H5.out.max, H5.out.bare, fun i u hu => ?_⟩
    have hi : i < k := by
      have := (List.getElem?_eq_some_iff.1 hu).1
      rw [valsN_len, List.length_take] at this
      omega
    refine H5.out.cell i u ?_
    rw [← hu]
    unfold valsN
    rw [List.map_take, List.getElem?_take, if_pos hi]
  obtain ⟨p2, hp2⟩ : ∃ q, (if c3 = k then p3 else p3.map (·.add (k * 1))) = q := ⟨_, rfl⟩
  rw [hp2] at SF1 PB
  clear A5 hp2
  go_wp2_with fail
  refine wp_region_held_drew (S := fun _ => True) (by kernel_rfl) trivial (fun hHeld => ?_)
  refine wpAnyH_take (i := 1) (v := ?_) (by (simp only [List.getElem?_toArray, List.getElem?_cons_zero, List.getElem?_cons_succ]; exact rfl)) (by kernel_rfl) (by kernel_rfl) (by kernel_rfl) (by exact fun _ _ _ h => h) (Or.inl ⟨by rfl, ?_⟩) (by assumption) ?_
  rotate_left
  · (intro w hSw; (try dsimp only at hSw); first | (go_simp; done) | (go_simp; with_reducible rfl))
  try simp only [Act.put, List.setIfInBounds_toArray, List.set_cons_zero, List.set_cons_succ]
  refine wpAnyH_take (i := 2) (v := ?_) (by (simp only [List.getElem?_toArray, List.getElem?_cons_zero, List.getElem?_cons_succ]; exact rfl)) (by kernel_rfl) (by kernel_rfl) (by kernel_rfl) (by exact fun _ _ _ h => h) (Or.inl ⟨by rfl, ?_⟩) (by assumption) ?_
  rotate_left
  · (intro w hSw; (try dsimp only at hSw); first | (go_simp; done) | (go_simp; with_reducible rfl))
  try simp only [Act.put, List.setIfInBounds_toArray, List.set_cons_zero, List.set_cons_succ]
  refine wpAnyH_take (i := 3) (v := ?_) (by (simp only [List.getElem?_toArray, List.getElem?_cons_zero, List.getElem?_cons_succ]; exact rfl)) (by kernel_rfl) (by kernel_rfl) (by kernel_rfl) (by exact fun _ _ _ h => h) (Or.inl ⟨by rfl, ?_⟩) (by assumption) ?_
  rotate_left
  · (intro w hSw; (try dsimp only at hSw); first | (go_simp; done) | (go_simp; with_reducible rfl))
  try simp only [Act.put, List.setIfInBounds_toArray, List.set_cons_zero, List.set_cons_succ]
  refine wpAnyH_take (i := 5) (v := ?_) (by (simp only [List.getElem?_toArray, List.getElem?_cons_zero, List.getElem?_cons_succ]; exact rfl)) (by kernel_rfl) (by kernel_rfl) (by kernel_rfl) (by exact fun _ _ _ h => h) (Or.inl ⟨by rfl, ?_⟩) (by assumption) ?_
  rotate_left
  · (intro w hSw; (try dsimp only at hSw); first | (go_simp; done) | (go_simp; with_reducible rfl))
  try simp only [Act.put, List.setIfInBounds_toArray, List.set_cons_zero, List.set_cons_succ]
  refine wpAnyH_take (i := 6) (v := ?_) (by (simp only [List.getElem?_toArray, List.getElem?_cons_zero, List.getElem?_cons_succ]; exact rfl)) (by kernel_rfl) (by kernel_rfl) (by kernel_rfl) (by exact fun _ _ _ h => h) (Or.inl ⟨by rfl, ?_⟩) (by assumption) ?_
  rotate_left
  · (intro w hSw; (try dsimp only at hSw); first | (go_simp; done) | (go_simp; with_reducible rfl))
  try simp only [Act.put, List.setIfInBounds_toArray, List.set_cons_zero, List.set_cons_succ]
  refine wpAnyH_take (i := 7) (v := ?_) (by (simp only [List.getElem?_toArray, List.getElem?_cons_zero, List.getElem?_cons_succ]; exact rfl)) (by kernel_rfl) (by kernel_rfl) (by kernel_rfl) (by exact fun _ _ _ h => h) (Or.inl ⟨by rfl, ?_⟩) (by assumption) ?_
  rotate_left
  · (intro w hSw; (try dsimp only at hSw); first | (go_simp; done) | (go_simp; with_reducible rfl))
  try simp only [Act.put, List.setIfInBounds_toArray, List.set_cons_zero, List.set_cons_succ]
  refine wpAnyH_ready (rs := [0]) (by kernel_rfl) (by simp) ?_
  refine AllReadyH.cons (by (simp only [List.getElem?_toArray, List.getElem?_cons_zero]; exact rfl)) (fun K hK => ?_) AllReadyH.nil
  go_simp
  refine hK.out _ _ (trivial) (fun hHeld => ?_)
  clear hK K
  try simp only [Act.put, List.setIfInBounds_toArray, List.set_cons_zero, List.set_cons_succ]
  refine wpAnyH_ready (rs := [4]) (by kernel_rfl) (by simp) ?_
  refine AllReadyH.cons (by (simp only [List.getElem?_toArray, List.getElem?_cons_zero, List.getElem?_cons_succ]; exact rfl)) (fun K hK => ?_) AllReadyH.nil
  refine step_append_more _ (by rfl) _ _ _ (by rfl) w5.heap.size 5 iU (.int .u8 0) 1 Try.underlying42 hiU hu0 hu1 hu2 (by rfl) (.slice (some ⟨w5.drew.heap.size, 0, none⟩) 1 1) 1 (valsN .u8 [3]) (by rfl) OA.out _ _ _ _ (by rfl) PB.out (valsN_one _ _) (by have := MB.out; unfold maxLen; omega) (by have := MB.out; omega) SA.out ?_
  intro v6 w6 o6 g6 _
  have k6 := KA.out.grown g6 SA.out (fun j hj => (World.ownsRow.lt OA.out j hj).1)
  have OB := Lib.hid o6
  have KB := Lib.hid k6
  clear o6 g6 k6
  obtain ⟨pb, cb, rfl⟩ := own_slice OB.out
  refine hK.out _ _ (trivial) (fun hHeld => ?_)
  clear hK K
  try simp only [Act.put, List.setIfInBounds_toArray, List.set_cons_zero, List.set_cons_succ]
  refine wpAnyH_ready (rs := [8]) (by kernel_rfl) (by simp) ?_
  refine AllReadyH.cons (by (simp only [List.getElem?_toArray, List.getElem?_cons_zero, List.getElem?_cons_succ]; exact rfl)) (fun K hK => ?_) AllReadyH.nil
  refine step_append_more _ (by rfl) _ _ _ (by rfl) w5.heap.size 5 iU (.int .u8 0) 1 Try.underlying42 hiU hu0 hu1 hu2 (by rfl) _ _ _ (by rfl) OB.out _ _ _ _ (by rfl) (PC.out.below KB.out) (valsN_one _ _) (by have := MB.out; have := KM.out; unfold maxLen; omega) (by have := MB.out; have := KM.out; omega) KB.out.size ?_
  intro v7 w7 o7 g7 _
  have k7 := KB.out.grown g7 KB.out.size (fun j hj => (World.ownsRow.lt OB.out j hj).1)
  have OC := Lib.hid o7
  have KC := Lib.hid k7
  clear o7 g7 k7 OB KB
  obtain ⟨pc, cc, rfl⟩ := own_slice OC.out
  refine hK.out _ _ (trivial) (fun hHeld => ?_)
  clear hK K
  try simp only [Act.put, List.setIfInBounds_toArray, List.set_cons_zero, List.set_cons_succ]
  refine wpAnyH_take (i := 9) (v := ?_) (by (simp only [List.getElem?_toArray, List.getElem?_cons_zero, List.getElem?_cons_succ]; exact rfl)) (by kernel_rfl) (by kernel_rfl) (by kernel_rfl) (by exact fun _ _ _ h => h) (Or.inl ⟨by rfl, ?_⟩) (by assumption) ?_
  rotate_left
  · (intro w hSw; (try dsimp only at hSw); first | (go_simp; done) | (go_simp; with_reducible rfl))
  try simp only [Act.put, List.setIfInBounds_toArray, List.set_cons_zero, List.set_cons_succ]
  refine wpAnyH_done (by kernel_rfl) ?_ _
  have CN : Hid (1 + (m - k) + k + 4 ≤ maxLen) := by have := MB.out; have := KM.out; unfold Hid maxLen; omega
  have CY : Hid ((1 + (m - k) + k + 4) * 1 ≤ 140737488355328) := by have := MB.out; have := KM.out; unfold Hid; omega
  clear PB PC OA SA KA SF1 SF2
  go_wp2_with (at_builtin; refine wpList_append_own _ rfl _ _ 42 rfl w5.heap.size 5 iU (.int .u8 0) 1 1 Try.underlying42 hiU hu0 hu1 hu2 rfl (by decide) _ _ _ rfl (World.ownsRow.alloc OC.out _) ⟨w7.heap.size, 0, none⟩ 4 4 [.int .u8 3, .int .u8 3, .int .u8 3, .int .u8 3] rfl rfl (World.news_of_block (heap_alloc_new _ (.cells #[.int .u8 3, .int .u8 3, .int .u8 3, .int .u8 3] _))) (valsN_one .u8 [3, 3, 3, 3]) CN.out CY.out (KC.out.alloc KC.out.size _).size ?_)
  intro v8 w8 o8 g8 m8
  have K8 : Hid (Below w5.heap.size w5 w8) := (KC.out.alloc KC.out.size _).grown g8 (KC.out.alloc KC.out.size _).size (fun j hj => (World.ownsRow.lt OC.out j hj).1)
  rw [vals_turned] at o8
  obtain ⟨p8, c8, rfl, h8⟩ := own_holds o8
  have VO2 := C.vote h8 (fun d hx => by
    rcases List.mem_append.1 hx with hx | hx
    · rcases List.mem_append.1 hx with hx | hx
      · rcases List.mem_append.1 hx with hx | hx
        · obtain rfl := List.mem_singleton.1 hx; decide
        · exact G4.out d (List.mem_of_mem_drop hx)
      · exact G4.out d (List.mem_of_mem_take hx)
    · simp at hx; omega) (by have := MB.out; have := KM.out; omega)
  rw [VT.out k] at VO2
  dsimp only at VO2
  have VP := Lib.hid VO2
  clear VO2 o8 g8 m8 h8 OC KC CN CY VT
  go_wp2_with fail
  refine VP.out.mono ?_; rintro r9 w9 ⟨rfl, b9⟩
  have K9 : Hid (Below w5.heap.size w5 w9) := K8.out.trans (b9.mono K8.out.size)
  have L9 := Lib.hid (L5.out.trans (K9.out.mono L5.out.size))
  have O9 := Lib.hid (own_keep O5.out K9.out)
  have H9 := Lib.hid (H5.out.below K9.out)
  clear b9 VP K8 K9 O5 H5 L5
  go_upto_region 12 with fail
  go_cut [80] from 65 to 79 (fun tt wx => tt = .bool false ∧ w9 = wx)
  case first =>
    rcases VI.out with ⟨rfl, -⟩ | ⟨rfl, rfl⟩
    · go_wp2_with fail
      go_meet
      exact ⟨rfl, rfl⟩
    · go_wp2_with fail
      go_meet
      exact ⟨rfl, rfl⟩
  obtain ⟨rfl, rfl⟩ := hcut
  go_wp2_with fail
  go_loopw [13, 14, 15] (fun ss aa ii wr => ∃ i S A : Nat, ss = .int .i64 (S : Nat) ∧ aa = .int .i64 (A : Nat) ∧ ii = .int .i64 (i : Nat) ∧ Hid (i ≤ m ∧ S = saidN (G.take i) va ∧ A = sureN (G.take i) ∧ S ≤ i ∧ A ≤ i) ∧ w9 = wr) (fun _ _ ii _ => 1000 - (intOf ii).toNat)
  case atStart => exact ⟨0, 0, 0, rfl, rfl, rfl, ⟨Nat.zero_le _, by rw [List.take_zero]; rfl, by rw [List.take_zero]; rfl, Nat.le_refl _, Nat.le_refl _⟩, rfl⟩
  case round =>
    obtain ⟨i, S, A, rfl, rfl, rfl, I, rfl⟩ := hrel
    have i0 : (0 : Int) ≤ (i : Int) := by omega
    have i60 : (i : Int) ≤ 60 := by have := I.out.1; omega
    have s0 : (0 : Int) ≤ (S : Int) := by omega
    have s60 : (S : Int) ≤ 60 := by have := I.out.2.2.2.1; omega
    have a0 : (0 : Int) ≤ (A : Int) := by omega
    have a60 : (A : Int) ≤ 60 := by have := I.out.2.2.2.2; omega
    by_cases z : i < m
    · have z1 : (i : Int) < (m : Int) := by omega
      have z2 : decide ((i : Int) < (m : Int)) = true := decide_eq_true z1
      obtain ⟨ap, rfl, cz⟩ := H9.out.atN z
      have e1 := sure_step (G := G) (i := i) (by rw [GM.out]; exact z)
      have e2 := said_step (G := G) (i := i) (a := va) (by rw [GM.out]; exact z)
      have G1 : G.getD i 0 < 256 := by
        rw [List.getD_eq_getElem?_getD, List.getElem?_eq_getElem (by rw [GM.out]; exact z)]
        exact G4.out _ (List.getElem_mem _)
      obtain ⟨d, hd⟩ : ∃ d, G.getD i 0 = d := ⟨_, rfl⟩
      rw [hd] at cz e1 e2 G1
      clear hd
      have iS := I.out.2.2.2.1
      have iA := I.out.2.2.2.2
      by_cases q1 : d < 3
      · by_cases q2 : d = va
        · have c1 : decide (((d : Nat) : Int) < 3) = true := decide_eq_true (by omega)
          have c2 : decide (((d : Nat) : Int) = ((va : Nat) : Int)) = true := decide_eq_true (by omega)
          have c3 : ((d : Nat) : Int) < 3 := by omega
          have c4 : ((d : Nat) : Int) = ((va : Nat) : Int) := by omega
          have NX : Hid (i + 1 ≤ m ∧ S + 1 = saidN (G.take (i + 1)) va ∧ A + 1 = sureN (G.take (i + 1)) ∧ S + 1 ≤ i + 1 ∧ A + 1 ≤ i + 1) := ⟨by omega, by rw [e2]; simp [q2]; exact I.out.2.1, by rw [e1]; simp [q1]; exact I.out.2.2.1, by omega, by omega⟩
          clear q1 q2 e1 e2 I z
          go_wp2_with fail
          go_roundw
          case rel => exact ⟨i + 1, S + 1, A + 1, by go_num, by go_num, by go_num, NX, trivial⟩
          case measure => simp [intOf]; omega
        · have c1 : decide (((d : Nat) : Int) < 3) = true := decide_eq_true (by omega)
          have c2 : decide (((d : Nat) : Int) = ((va : Nat) : Int)) = false := decide_eq_false (by omega)
          have c3 : ((d : Nat) : Int) < 3 := by omega
          have c4 : ¬ ((d : Nat) : Int) = ((va : Nat) : Int) := by omega
          have NX : Hid (i + 1 ≤ m ∧ S = saidN (G.take (i + 1)) va ∧ A + 1 = sureN (G.take (i + 1)) ∧ S ≤ i + 1 ∧ A + 1 ≤ i + 1) := ⟨by omega, by rw [e2]; simp [q2]; exact I.out.2.1, by rw [e1]; simp [q1]; exact I.out.2.2.1, by omega, by omega⟩
          clear q1 q2 e1 e2 I z
          go_wp2_with fail
          go_roundw
          case rel => exact ⟨i + 1, S, A + 1, by go_num, by go_num, by go_num, NX, trivial⟩
          case measure => simp [intOf]; omega
      · by_cases q2 : d = va
        · have c1 : decide (((d : Nat) : Int) < 3) = false := decide_eq_false (by omega)
          have c2 : decide (((d : Nat) : Int) = ((va : Nat) : Int)) = true := decide_eq_true (by omega)
          have c3 : ¬ ((d : Nat) : Int) < 3 := by omega
          have c4 : ((d : Nat) : Int) = ((va : Nat) : Int) := by omega
          have NX : Hid (i + 1 ≤ m ∧ S + 1 = saidN (G.take (i + 1)) va ∧ A = sureN (G.take (i + 1)) ∧ S + 1 ≤ i + 1 ∧ A ≤ i + 1) := ⟨by omega, by rw [e2]; simp [q2]; exact I.out.2.1, by rw [e1]; simp [q1]; exact I.out.2.2.1, by omega, by omega⟩
          clear q1 q2 e1 e2 I z
          go_wp2_with fail
          go_roundw
          case rel => exact ⟨i + 1, S + 1, A, by go_num, by go_num, by go_num, NX, trivial⟩
          case measure => simp [intOf]; omega
        · have c1 : decide (((d : Nat) : Int) < 3) = false := decide_eq_false (by omega)
          have c2 : decide (((d : Nat) : Int) = ((va : Nat) : Int)) = false := decide_eq_false (by omega)
          have c3 : ¬ ((d : Nat) : Int) < 3 := by omega
          have c4 : ¬ ((d : Nat) : Int) = ((va : Nat) : Int) := by omega
          have NX : Hid (i + 1 ≤ m ∧ S = saidN (G.take (i + 1)) va ∧ A = sureN (G.take (i + 1)) ∧ S ≤ i + 1 ∧ A ≤ i + 1) := ⟨by omega, by rw [e2]; simp [q2]; exact I.out.2.1, by rw [e1]; simp [q1]; exact I.out.2.2.1, by omega, by omega⟩
          clear q1 q2 e1 e2 I z
          go_wp2_with fail
          go_roundw
          case rel => exact ⟨i + 1, S, A, by go_num, by go_num, by go_num, NX, trivial⟩
          case measure => simp [intOf]; omega
    · have z1 : (m : Int) ≤ (i : Int) := by omega
      have z2 : decide ((i : Int) < (m : Int)) = false := decide_eq_false (by omega)
      have SS : Hid (S = saidN G va ∧ A = sureN G) := by
        have := I.out
        have e : G.take i = G := List.take_of_length_le (by rw [GM.out]; omega)
        rw [e] at this
        exact ⟨this.2.1, this.2.2.1⟩
      have S60 : S ≤ 60 := by omega
      have EB : Hid (m + 1 ≤ maxLen) := by unfold Hid maxLen; omega
      have EY : Hid ((m + 1) * 1 ≤ 140737488355328) := by unfold Hid; omega
      have VB : Hid (va < 256) := by
        rcases VI.out with ⟨-, h, -⟩ | ⟨-, h⟩
        · unfold Hid; omega
        · unfold Hid; omega
      obtain ⟨m1, m2⟩ := wr16 (x := 2 * ((S : Nat) : Int)) (i64_twice S60)
      clear z I S60
      go_wp2_with (at_builtin; refine wpList_append_own _ rfl _ _ 42 rfl w.heap.size 5 iU (.int .u8 0) 1 1 Try.underlying42 hiU hu0 hu1 hu2 rfl (by decide) _ _ _ rfl (World.ownsRow.alloc O9.out _) ⟨w9.heap.size, 0, none⟩ 1 1 [.int .u8 (va : Nat)] rfl rfl (two_u8 _ _) (valsN_one .u8 [va]) EB.out EY.out (L9.out.alloc L9.out.size _).size ?_)
      intro v3 w3 o3 g3 _
      have L3 : Hid (Below w.heap.size w w3) := (L9.out.alloc L9.out.size _).grown g3 (L9.out.alloc L9.out.size _).size (fun j hj => (World.ownsRow.lt O9.out j hj).1)
      have o4 : w3.ownsRow w.heap.size 5 1 v3 (m + 1) (valsN .u8 (G ++ [va])) := by
        rw [valsN_append]
        exact o3
      obtain ⟨p4, c4, rfl, h4⟩ := own_holds o4
      have VQ := Lib.hid (C.vote h4 (fun d hx => by
        rcases List.mem_append.1 hx with hx | hx
        · exact G4.out d hx
        · obtain rfl := List.mem_singleton.1 hx; exact VB.out) (by have := MB.out; omega))
      clear o3 g3 o4 h4 O9 H9 L9
      rcases VI.out with ⟨rfl, -, y, -⟩ | ⟨rfl, rfl⟩
      · have ya : ((A : Nat) : Int) < 2 * ((S : Nat) : Int) := by rw [SS.out.1, SS.out.2]; omega
        have yd : decide (((A : Nat) : Int) < 2 * ((S : Nat) : Int)) = true := decide_eq_true ya
        rw [VM.out rfl] at VQ
        dsimp only at VQ
        clear y VI SS
        go_wp2_with fail
        refine VQ.out.mono ?_; rintro r5 w5 ⟨rfl, b5⟩
        have L5 := Lib.hid (L3.out.trans (b5.mono L3.out.size))
        clear b5 VQ L3
        go_wp2_with fail
        refine (AW.out _).mono ?_; rintro e w6 ⟨rfl, b6⟩
        have L6 := Lib.hid (L5.out.trans (b6.mono L5.out.size))
        clear b6
        go_wp2
        go_ret
        exact ⟨rfl, L6.out⟩
      · obtain ⟨⟨x, y⟩, hv⟩ : ∃ v, voteN (G ++ [0]) = v := ⟨_, rfl⟩
        rw [hv] at VQ
        dsimp only at VQ
        clear VI SS VM hv
        go_wp2_with fail
        refine VQ.out.mono ?_; rintro r5 w5 ⟨rfl, b5⟩
        have L5 := Lib.hid (L3.out.trans (b5.mono L3.out.size))
        clear b5 VQ L3
        go_wp2_with fail
        refine (AW.out _).mono ?_; rintro e w6 ⟨rfl, b6⟩
        have L6 := Lib.hid (L5.out.trans (b6.mono L5.out.size))
        clear b6
        go_wp2
        go_ret
        exact ⟨rfl, L6.out⟩
end Go.Proofs.Ytpfbdpoileepoaa
