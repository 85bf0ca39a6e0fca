/- Layer 5 (ext): the document's own Parse. -/
import Derived.Test.YteclcefeipjoeaaExtI
import Derived.Deep.RegionHeld3
import Derived.Deep.AppendLies
namespace Go.Proofs.Yteclcefeipjoeaa
open Go.ChangeShapes Go.WideShapes Go.ChangeAt Go.RowKit OctM

set_option maxRecDepth 100000 in
set_option maxHeartbeats 16000000 in
theorem rparse5_any (w : World) (p : Option Addr) (n c : Nat) (ds : List Nat) (hd : Holds w p n c (valsN .u8 ds)) (hy : Byt ds) (hn : n ≤ 100000) :
    Calls Try.prog 22 #[.slice p n c] w (ParR w (parX ds)) := by
  obtain ⟨iX, hi, hz0, hz1, hz2⟩ := info_of infoX
  have P0 := Lib.hid (ParRel.start hd hy)
  obtain ⟨all, hall⟩ : ∃ all, parX ds = all := ⟨_, rfl⟩
  rw [hall] at P0
  rw [hall]
  have HN := Lib.hid hn
  clear hd hy hall hn
  go_enter Try.func22, Try.ntmps22
  go_wp2_with fail
  go_loopw [0, 5] (fun b v wr => ∃ p n c r fs left, b = .slice p n c ∧ Hid (n ≤ 100000) ∧ Hid (ParRel w wr v p n c r fs left all)) (fun b _ _ => lenV b)
  case atStart => exact ⟨p, n, c, _, _, _, rfl, HN, P0⟩
  case round =>
    obtain ⟨p, n, c, r, fs, left, rfl, hN, h⟩ := hrel
    have ln := h.out.len
    have nb : (n : Int) ≤ 100000 := by have := hN.out; omega
    by_cases d : doneX left
    · have d' := d
      unfold doneX at d'
      rw [ln] at d'
      have RO := Lib.hid (rown_any wr p n c left (h.out.holds.below h.out.low) (by omega))
      have FIN : Hid (∀ e w', OwnPost wr n left e w' → ∃ q dd, e = .returned (.slice q n dd) ∧ ParR w all (.returned (.tuple #[u5, .slice q n dd, .int .i64 0])) w') := fun e w' ho => by
        obtain ⟨v, rfl, o, l⟩ := ho.out
        obtain ⟨q, dd, rfl, nw⟩ := own_new o
        exact ⟨q, dd, rfl, h.out.done d l nw⟩
      clear h d ln hN
      rcases d' with rfl | rfl
      · go_wp2_with fail
        refine RO.out.mono ?_; intro e w2 ho
        obtain ⟨q, dd, rfl, fin⟩ := FIN.out e w2 ho
        have F := Lib.hid fin
        clear fin ho
        go_wp2
        go_ret3
        exact F.out
      · go_wp2_with fail
        refine RO.out.mono ?_; intro e w2 ho
        obtain ⟨q, dd, rfl, fin⟩ := FIN.out e w2 ho
        have F := Lib.hid fin
        clear fin ho
        go_wp2
        go_ret3
        exact F.out
    · have d' := d
      unfold doneX at d'
      rw [ln] at d'
      have t1 : ((n : Int) != 0) = true := by simp; omega
      have t2 : ((n : Int) != 12) = true := by simp; omega
      have t1' : ((n : Int) == 0) = false := by simp; omega
      have t2' : ((n : Int) == 12) = false := by simp; omega
      have t3 : ¬ (n : Int) = 0 := by omega
      have t4 : ¬ (n : Int) = 12 := by omega
      have t5 : ¬ n = 0 := by omega
      have t6 : ¬ n = 12 := by omega
      by_cases s16 : n < 16
      · have FIN := Lib.hid (h.out.bad d (errX_short (by rw [ln]; exact s16)) (by decide) (Below.refl _ _))
        have s1 : decide ((n : Int) < 16) = true := by simp; omega
        have s2 : decide (n < 16) = true := by simp; omega
        clear h d d' ln hN s16
        go_wp2
        go_ret3
        exact FIN.out
      have s1 : decide ((n : Int) < 16) = false := by simp; omega
      have s2 : decide (n < 16) = false := by simp; omega
      have L16 : 16 ≤ left.length := by omega
      have i0 : (0 : Int) < (n : Int) := by omega
      have i0' : 0 < n := by omega
      have i1 : (1 : Int) < (n : Int) := by omega
      have i2 : (2 : Int) < (n : Int) := by omega
      have i3 : (3 : Int) < (n : Int) := by omega
      have HW := Lib.hid (fun w' (b : Below w.heap.size w w') => h.out.holds.below b)
      obtain ⟨a, rfl, -⟩ := h.out.holds.atN (i := 0) (by omega)
      obtain ⟨b0, hb0⟩ : ∃ b, b = left.getD 0 0 := ⟨_, rfl⟩
      obtain ⟨b1, hb1⟩ : ∃ b, b = left.getD 1 0 := ⟨_, rfl⟩
      obtain ⟨b2, hb2⟩ : ∃ b, b = left.getD 2 0 := ⟨_, rfl⟩
      obtain ⟨b3, hb3⟩ : ∃ b, b = left.getD 3 0 := ⟨_, rfl⟩
      have by' : ∀ i, left.getD i 0 < 256 := fun i => by
        rw [List.getD_eq_getElem?_getD]
        by_cases g : i < left.length
        · rw [List.getElem?_eq_getElem g]; exact h.out.byt _ (List.getElem_mem _)
        · rw [List.getElem?_eq_none (by omega)]; exact (by decide : 0 < 256)
      have y0 : b0 < 256 := hb0 ▸ by' 0
      have y1 : b1 < 256 := hb1 ▸ by' 1
      have y2 : b2 < 256 := hb2 ▸ by' 2
      have y3 : b3 < 256 := hb3 ▸ by' 3
      have CE := Lib.hid (fun (w' : World) (b : Below w.heap.size w w') => show w'.cell? a = some (.int .u8 (b0 : Nat)) ∧ w'.cell? ⟨a.block, a.off + 1, none⟩ = some (.int .u8 (b1 : Nat)) ∧ w'.cell? ⟨a.block, a.off + 2, none⟩ = some (.int .u8 (b2 : Nat)) ∧ w'.cell? ⟨a.block, a.off + 3, none⟩ = some (.int .u8 (b3 : Nat)) by
        refine ⟨?_, ?_, ?_, ?_⟩
        · obtain ⟨a', e, hc⟩ := (HW.out w' b).atN (i := 0) (by omega)
          cases e
          rw [hb0]
          exact hc
        · obtain ⟨a', e, hc⟩ := (HW.out w' b).atN (i := 1) (by omega)
          cases e
          rw [hb1]
          exact hc
        · obtain ⟨a', e, hc⟩ := (HW.out w' b).atN (i := 2) (by omega)
          cases e
          rw [hb2]
          exact hc
        · obtain ⟨a', e, hc⟩ := (HW.out w' b).atN (i := 3) (by omega)
          cases e
          rw [hb3]
          exact hc)
      obtain ⟨c0, c1, c2, c3⟩ := CE.out wr h.out.low
      obtain ⟨q, hq⟩ : ∃ q, q = b2 * 256 := ⟨_, rfl⟩
      obtain ⟨s, hs⟩ : ∃ s, s = q + b3 := ⟨_, rfl⟩
      obtain ⟨z, hz⟩ : ∃ z, z = (s : Int) - 4 := ⟨_, rfl⟩
      have lx : lenX left = s := by unfold lenX; rw [← hb2, ← hb3, hs, hq]
      have e1 : (b2 : Int) * 256 = (q : Int) := by omega
      have e2 : (q : Int) + (b3 : Int) = (s : Int) := by omega
      have e3 : (s : Int) - 4 = z := by omega
      have w1 : IntKind.i64.wrap (q : Int) = (q : Int) := by rw [IntKind.wrap_i64]; omega
      have w2 : IntKind.i64.wrap (s : Int) = (s : Int) := by rw [IntKind.wrap_i64]; omega
      have w3 : IntKind.i64.wrap z = z := by rw [IntKind.wrap_i64]; omega
      have w4 : IntKind.i64.wrap (b2 : Int) = (b2 : Int) := by rw [IntKind.wrap_i64]; omega
      have w5 : IntKind.i64.wrap (b3 : Int) = (b3 : Int) := by rw [IntKind.wrap_i64]; omega
      have RL := Lib.hid (fun w => rlong5_int w z (by unfold I64; omega))
      have lz : longZ z ↔ longN (lenX left - 4) := by rw [lx]; unfold longZ longN; omega
      by_cases nlo : ¬ longZ z
      · have lo := nlo
        rw [decide_eq_false lo] at RL
        have FIN := Lib.hid (fun j => h.out.bad d (errX_form L16 (fun g => lo (lz.2 g))) (by decide) (below_drewN (Below.refl _ _) j))
        clear h d d' ln hN s16 L16 by' y0 y1 y2 y3 hq hs hz lx lz lo nlo hb0 hb1 hb2 hb3
        go_wp2_with fail
        go_quiet (fail)
        go_wp2_with fail
        refine (RL.out _).mono ?_; rintro e w' ⟨rfl, rfl⟩
        go_wp2
        go_ret3
        exact FIN.out _
      have lo : longZ z := Decidable.not_not.1 nlo
      clear nlo
      rw [decide_eq_true lo] at RL
      have lN := lz.1 lo
      obtain ⟨m, rfl⟩ : ∃ m : Nat, z = (m : Int) := ⟨z.toNat, by unfold longZ at lo; omega⟩
      have e4 : (m : Int) + 4 = (s : Int) := by omega
      have w6 : IntKind.i64.wrap ((m : Int) + 4) = (s : Int) := by rw [IntKind.wrap_i64]; omega
      by_cases more : n < s
      · have FIN := Lib.hid (fun j => h.out.bad d (errX_more L16 lN (by rw [ln, lx]; exact more)) (by decide) (below_drewN (Below.refl _ _) j))
        have g1 : decide ((n : Int) < (s : Int)) = true := by simp; omega
        have g2 : decide (n < s) = true := by simp; omega
        clear h d d' ln hN s16 L16 by' y0 y1 y2 y3 hq hs hz lx lz lo hb0 hb1 hb2 hb3 lN more
        go_wp2_with fail
        go_quiet (fail)
        go_wp2_with fail
        refine (RL.out _).mono ?_; rintro e w' ⟨rfl, rfl⟩
        go_wp2
        go_ret3
        exact FIN.out _
      have g1 : decide ((n : Int) < (s : Int)) = false := by simp; omega
      have g2 : decide (n < s) = false := by simp; omega
      have eX := errX_ok L16 lN (by rw [ln, lx]; omega)
      obtain ⟨p', c', rfl⟩ := h.out.slice
      obtain ⟨k, hk⟩ : ∃ k, k = fs.length := ⟨_, rfl⟩
      rcases r with _ | r
      · have FIN := Lib.hid (fun j => h.out.full d eX (below_drewN (Below.refl _ _) j))
        have k8 : fs.length = 8 := by have := h.out.count; omega
        rw [k8]
        clear h d d' ln hN s16 L16 by' y0 y1 y2 y3 hq hs hz lx lz lo hb0 hb1 hb2 hb3 lN more eX hk k8
        go_wp2_with fail
        go_quiet (fail)
        go_wp2_with fail
        refine (RL.out _).mono ?_; rintro e w' ⟨rfl, rfl⟩
        go_wp2
        go_ret3
        exact FIN.out _
      have k7 : fs.length < 8 := by have := h.out.count; omega
      obtain ⟨t, ht⟩ : ∃ t, t = tyX left := ⟨_, rfl⟩
      obtain ⟨q0, hq0⟩ : ∃ q, q = b0 * 256 := ⟨_, rfl⟩
      have te : t = q0 + b1 := by rw [ht]; unfold tyX; rw [← hb0, ← hb1, hq0]
      obtain ⟨D, hD⟩ : ∃ D, D = (left.drop 4).take (s - 4) := ⟨_, rfl⟩
      have fx : fldX left = (t, D) := by unfold fldX; rw [lx, ← hD, ← ht]
      have sm : s - 4 = m := by omega
      have cn := h.out.holds.cap
      have c4 : ¬ c = 4 := by omega
      have c4' : (c = 4) = False := eq_false c4
      have sc : (s : Int) ≤ (c : Int) := by omega
      have s4 : (4 : Int) ≤ (s : Int) := by omega
      have u1 : (b0 : Int) * 256 = (q0 : Int) := by omega
      have u2 : (q0 : Int) + (b1 : Int) = (t : Int) := by omega
      have v1 : IntKind.u16.wrap (q0 : Int) = (q0 : Int) := by rw [IntKind.wrap_u16]; omega
      have v2 : IntKind.u16.wrap (t : Int) = (t : Int) := by rw [IntKind.wrap_u16]; omega
      have v3 : IntKind.u16.wrap (b0 : Int) = (b0 : Int) := by rw [IntKind.wrap_u16]; omega
      have v4 : IntKind.u16.wrap (b1 : Int) = (b1 : Int) := by rw [IntKind.wrap_u16]; omega
      have k1 : decide (8 ≤ (fs.length : Int)) = false := by simp; omega
      have k2 : decide (8 ≤ fs.length) = false := by simp; omega
      have k3 : (fs.length : Int) < 8 := by omega
      have PC := Lib.hid (fun w' (b : Below w.heap.size w w') => show Holds w' (some ⟨a.block, a.off + 4, none⟩) m (c - 4) (valsN .u8 D) by
        have h := (HW.out w' b).piece 4 s (by omega) (by omega)
        rw [if_neg c4, sm] at h
        unfold valsN at h ⊢
        rw [hD, sm, List.map_take, List.map_drop]
        exact h)
      have RO := Lib.hid (fun w' (b : Below w.heap.size w w') => rown_any w' _ m (c - 4) D (PC.out w' b) (by omega))
      have BM : Hid (fs.length + 1 ≤ maxLen) := by unfold Hid maxLen; omega
      have BY : Hid ((fs.length + 1) * 32 ≤ 140737488355328) := by unfold Hid; omega
      obtain ⟨pq, hpq⟩ : ∃ pq : Option Addr, (if c = s then some a else some (a.add s)) = pq := ⟨_, rfl⟩
      have NXT := Lib.hid (fun (wm w3 : World) (g cap : Nat) (p1 : Option Addr) (c1 : Nat) b nw o gr mv => show ∃ r fs' left', Hid (ParRel w w3 (.slice (some ⟨g, 0, none⟩) (fs.length + 1) cap) pq (n - s) (c - s) r fs' left' all) by
        have x := h.out.next (wm := wm) (w3 := w3) (g := g) (cap := cap) (s := s) (f := ⟨t, p1, m, c1, D⟩) d eX lx fx b nw o gr mv
        rw [Nat.mul_one, Option.map_some, hpq] at x
        exact ⟨_, _, _, x⟩)
      have LM : Hid (n - s < n) := by unfold Hid; omega
      have LM' : Hid (n - s ≤ 100000) := by unfold Hid; omega
      have OW := Lib.hid h.out.own
      have LOW := Lib.hid h.out.low
      have sn : (s : Int) ≤ (n : Int) := by omega
      have cN : (n : Int) ≤ (c : Int) := by omega
      have LN : (lenV (.slice (some a) n c)) = n := rfl
      clear h d d' ln s16 L16 by' y0 y1 y2 y3 hq hs hz lx lz lo hb0 hb1 hb2 hb3 lN more eX k7 ht hq0 te hD fx cn hk
      go_wp2_with fail
      go_quiet (fail)
      go_wp2_with fail
      refine (RL.out _).mono ?_; rintro e w' ⟨rfl, rfl⟩
      go_wp2_with fail
      have HR0 : Below wr.heap.size wr (wr.drewN nq).drew := (below_drewN (Below.refl _ _) nq).drew
      have HB0 : Below w.heap.size w (wr.drewN nq).drew := LOW.out.trans (HR0.mono LOW.out.size)
      have SK := Lib.hid (fun w' (b : Below w.heap.size w w') => show w'.cell? a = some (.int .u8 (b0 : Nat)) ∧ w'.cell? ⟨a.block, a.off + 1, none⟩ = some (.int .u8 (b1 : Nat)) from ⟨(CE.out w' b).1, (CE.out w' b).2.1⟩)
      have ONE : Hid (∀ p1 c1, ∀ u ∈ ([.int .u16 (t : Nat), .slice p1 m c1] : List Value), u.oneCell' = true) := by
        intro p1 c1 u hu
        simp only [List.mem_cons, List.not_mem_nil, or_false] at hu
        rcases hu with rfl | rfl <;> rfl
      clear c0 c1 c2 c3
      go_region_held3 (fun w' => w'.cell? a = some (.int .u8 (b0 : Nat)) ∧ w'.cell? ⟨a.block, a.off + 1, none⟩ = some (.int .u8 (b1 : Nat)))
        (first | exact SK.out _ HB0 | exact SK.out _ (HB0.alloc HB0.size _))
        (first
          | (go_at_call 15; refine (RO.out _ HB0).mono ?_; intro e w1 ho; obtain ⟨v1, rfl, o1, l1⟩ := ho.out; obtain ⟨p1, c1', rfl, n1⟩ := own_new o1; have n2 := n1.low HR0.size; have HR0 := HR0.trans (l1.mono HR0.size); have HB0 := LOW.out.trans (HR0.mono LOW.out.size); clear ho o1 n1 l1)
          | (refine step_append_lies _ (by rfl) _ _ _ (by rfl) w.heap.size 44 iX (.agg #[.int .u16 0, .slice none 0 0]) 2 32 Try.underlying22 hi hz0 hz1 hz2 rfl (by omega) (.slice p' fs.length c') fs.length (cellsX fs) (by rfl) (own_keep OW.out (HR0.alloc HR0.size _)) ⟨w1.heap.size, 0, none⟩ 1 1 [.int .u16 (t : Nat), .slice p1 m c1'] (by rfl) (by rfl) (World.news_of_block (heap_alloc_new w1 _)) (ONE.out _ _) (by omega) BM.out BY.out ((HB0.alloc HB0.size _).size) _ rfl ?_; intro gg cap w3 o3 g3 m3 lt3; have HB0 := (HB0.alloc HB0.size _).grown g3 ((HB0.alloc HB0.size _).size) (fun j hj => (World.ownsRow.lt OW.out j hj).1)))
      obtain ⟨r3, fs3, left3, N3⟩ := NXT.out _ w3 gg cap p1 c1' (HR0.alloc HR0.size _) (n2.below ((Below.refl _ _).alloc (Nat.le_refl _) _)) o3 g3 m3
      clear o3 g3 m3 lt3 n2
      go_wp2
      go_roundw
      case rel => exact ⟨pq, n - s, c - s, r3, fs3, left3, by go_num, LM', N3⟩
      case measure => exact LM.out
end Go.Proofs.Yteclcefeipjoeaa
