/- Layer 5 (ext), the program's Parse. -/
import Derived.Test.YteclcefeipjoeaaExtK
import Derived.ScopeJumps
import Derived.WalkMore
import Derived.Deep.RegionHeld3
import Derived.Deep.AppendLies
namespace Go.Proofs.Yteclcefeipjoeaa
open Go.ChangeShapes Go.WideShapes Go.ChangeAt Go.RowKit OctM

theorem jump_mono {l : Nat} {J J' : Act → World → Prop} {Q : Exit → Act → World → Prop} (h : ∀ a w, J a w → J' a w) : ∀ e a w, Exit.jump l J Q e a w → Exit.jump l J' Q e a w := fun e a w g => by
  cases e with
  | goto l' => exact ⟨g.1, h _ _ g.2⟩
  | _ => exact g
/-- A scope that jumps back to one label: the way ahead of the label may use what holds behind it. -/
theorem wp_scope_back {P : Program} {a : Act} {w : World} {Q : Exit → Act → World → Prop} {c rest : Code} (l : Nat) (J : Act → World → Prop) (μ : Act → World → Nat) (hf : findLabel c l = some (Code.skip.seq rest))
    (pass : ∀ a w, J a w → rest.wp P (Exit.jump l (fun a' w' => J a' w' ∧ μ a' w' < μ a w) Q) a w)
    (first : (∀ a w, J a w → rest.wp P (Exit.jump l J Q) a w) → c.wp P (Exit.jump l J Q) a w) : (Code.scope c).wp P Q a w :=
  wp_scope_jumps l J μ hf (first fun a w hJ => Code.wp_mono (jump_mono fun _ _ h => h.1) (pass a w hJ)) fun a w hJ => wp_seq (wp_skip (pass a w hJ))

set_option maxRecDepth 100000 in
set_option maxHeartbeats 16000000 in
theorem pparse5_any (w : World) (p : Option Addr) (n c : Nat) (ds : List Nat) (hd : Holds w p n c (valsN .u8 ds)) (hy : Byt ds) (hn : n ≤ 10000) :
    Calls Try.prog 21 #[.slice p n c] w (ParR w (parX ds)) := by
  obtain ⟨iX, hi, hz0, hz1, hz2⟩ := info_of infoX
  have P0 := Lib.hid (ParRel.start hd hy)
  obtain ⟨all, hall⟩ : ∃ all, parX ds = all := ⟨_, rfl⟩
  rw [hall] at P0
  rw [hall]
  have HN := Lib.hid hn
  clear hd hy hall hn
  go_enter Try.func21, Try.ntmps21
  go_wp2
  refine wp_scope_back 0 (fun a' wr => ∃ (u1 v5 v6 u7 u8 u9 u10 u11 u12 u13 u14 u15 u16 u17 u18 u19 u20 u21 u22 u23 u24 u25 u26 u27 u28 u29 u30 u31 u32 u33 u34 u35 u36 u37 u38 u39 u40 u41 : Value) (p' : Option Addr) (n' c' r : Nat) (fs : List Fld) (left : List Nat), a' = { tmps := #[.slice p n c, u1, .slice none 0 0, .slice none 0 0, .int .i64 0, v5, v6, u7, u8, u9, u10, u11, u12, u13, u14, u15, u16, u17, u18, u19, u20, u21, u22, u23, u24, u25, u26, u27, u28, u29, u30, u31, u32, u33, u34, u35, u36, u37, u38, u39, u40, u41], defers := [] } ∧ v6 = .slice p' n' c' ∧ Hid (n' ≤ 10000) ∧ Hid (ParRel w wr v5 p' n' c' r fs left all)) (fun a' _ => lenV (a'.tmps.getD 6 undef)) rfl ?_ ?_
  case refine_2 =>
    intro REST
    replace REST := Lib.hid REST
    go_wp2
    go_step3
    rename_i K hK
    exact hK _ _ (REST.out _ _ ⟨_, _, _, _, _, _, _, _, _, _, _, _, _, _, _, _, _, _, _, _, _, _, _, _, _, _, _, _, _, _, _, _, _, _, _, _, _, _, p, n, c, 8, [], _, rfl, rfl, HN, P0⟩)
  rintro a' wr ⟨u1, v5, v6, u7, u8, u9, u10, u11, u12, u13, u14, u15, u16, u17, u18, u19, u20, u21, u22, u23, u24, u25, u26, u27, u28, u29, u30, u31, u32, u33, u34, u35, u36, u37, u38, u39, u40, u41, p', n', c', r, fs, left, rfl, rfl, hN, h⟩
  have ln := h.out.len
  have nb : (n' : Int) ≤ 10000 := by have := hN.out; omega
  by_cases d : doneX left
  · have d' := d
    unfold doneX at d'
    rw [ln] at d'
    have RO := Lib.hid (pclone_any wr p' n' c' left (h.out.holds.below h.out.low) (by omega))
    have FIN : Hid (∀ q dd w', New wr.heap.size w' q n' dd (valsN .u8 left) → Below wr.heap.size wr w' → ParR w all (.returned (.tuple #[v5, .slice q n' dd, .int .i64 0])) w') := fun q dd w' nw l => h.out.done d l nw
    clear h d ln hN
    rcases d' with rfl | rfl
    · go_wp2_with fail
      refine RO.out.mono ?_; rintro e w2 ⟨q, dd, rfl, nw, l⟩
      have F := Lib.hid (FIN.out _ _ _ nw l)
      clear nw l
      go_wp2
      (try simp only [Exit.jump])
      go_ret3
      exact F.out
    · go_wp2_with fail
      refine RO.out.mono ?_; rintro e w2 ⟨q, dd, rfl, nw, l⟩
      have F := Lib.hid (FIN.out _ _ _ nw l)
      clear nw l
      go_wp2
      (try simp only [Exit.jump])
      go_ret3
      exact F.out
  have d' := d
  unfold doneX at d'
  rw [ln] at d'
  have t1 : ((n' : Int) != 0) = true := by simp; omega
  have t2 : ((n' : Int) != 12) = true := by simp; omega
  have t1' : ((n' : Int) == 0) = false := by simp; omega
  have t2' : ((n' : Int) == 12) = false := by simp; omega
  have t3 : ¬ (n' : Int) = 0 := by omega
  have t4 : ¬ (n' : Int) = 12 := by omega
  have t5 : ¬ n' = 0 := by omega
  have t6 : ¬ n' = 12 := by omega
  have PM := pmeasure_any wr p' n' c' left (h.out.holds.below h.out.low) h.out.byt hN.out
  by_cases ne0 : ¬ errX left = 0
  · have e0 := ne0
    obtain ⟨x, hx⟩ : ∃ x, errX left = x := ⟨_, rfl⟩
    rw [hx] at PM e0
    have e1 : ((x : Int) != 0) = true := by simp; omega
    have e2 : ((x : Int) == 0) = false := by simp; omega
    have e3 : ¬ (x : Int) = 0 := by omega
    have e4 : ¬ x = 0 := e0
    have FIN := Lib.hid (fun w' => h.out.bad (w' := w') d hx e0)
    generalize meaV left = mv at *
    replace PM := Lib.hid PM
    clear h d d' ln hN hx e0 ne0
    go_wp2_with fail
    refine PM.out.mono ?_; rintro e w2 ⟨rfl, l⟩
    have F := Lib.hid (FIN.out _ l)
    clear l
    go_wp2
    (try simp only [Exit.jump])
    go_ret3
    exact F.out
  have e0 : errX left = 0 := Decidable.not_not.1 ne0
  clear ne0
  obtain ⟨s, hs⟩ : ∃ s, lenX left = s := ⟨_, rfl⟩
  unfold meaV at PM
  rw [if_pos e0, e0, hs] at PM
  replace PM := Lib.hid PM
  obtain ⟨L16, lN, hle⟩ := errX_zero e0
  rw [hs] at lN hle
  obtain ⟨p5, c5, rfl⟩ := h.out.slice
  rcases r with _ | r
  · have FIN := Lib.hid (fun w' => h.out.full (w' := w') d e0)
    have k8 : fs.length = 8 := by have := h.out.count; omega
    rw [k8]
    clear h d d' ln hN e0 hs L16 lN hle k8
    go_wp2_with fail
    refine PM.out.mono ?_; rintro e w2 ⟨rfl, l⟩
    have F := Lib.hid (FIN.out _ l)
    clear l
    go_wp2
    (try simp only [Exit.jump])
    go_ret3
    exact F.out
  have k7 : fs.length < 8 := by have := h.out.count; omega
  have lN' := lN
  unfold longN at lN'
  obtain ⟨m, hm⟩ : ∃ m, s = m + 4 := ⟨s - 4, by omega⟩
  obtain ⟨a, rfl, -⟩ := h.out.holds.atN (i := 0) (by omega)
  have cn := h.out.holds.cap
  obtain ⟨t, ht⟩ : ∃ t, t = tyX left := ⟨_, rfl⟩
  obtain ⟨D, hD⟩ : ∃ D, D = (left.drop 4).take m := ⟨_, rfl⟩
  have fx : fldX left = (t, D) := by unfold fldX; rw [hs, ht, hD, hm, Nat.add_sub_cancel]
  have RD := Lib.hid (fun w' (b : Below w.heap.size w w') => show Calls Try.prog 37 #[.slice (some a) s c'] w' (FldR w' t D m) by
    have h := pread5_any w' (some a) s c' m (left.take s) (holdsN_take (h.out.holds.below b) (by omega)) (byt_take h.out.byt _) (by omega) hm
    have et : tyX (left.take s) = t := by
      obtain ⟨b0, b1, b2, b3, q, rfl⟩ := four_of (bs := left) (by omega)
      rw [ht, hm]
      rfl
    have ed : (left.take s).drop 4 = D := by rw [hD, hm, List.drop_take, Nat.add_sub_cancel]
    rwa [et, ed] at h)
  have sc : (s : Int) ≤ (c' : Int) := by omega
  have sn : (s : Int) ≤ (n' : Int) := by omega
  have s0 : (0 : Int) ≤ (s : Int) := by omega
  have cN : (n' : Int) ≤ (c' : Int) := by omega
  have k1 : ((fs.length : Int) == 8) = false := by simp; omega
  have k1' : ((fs.length : Int) != 8) = true := by simp; omega
  have k2 : ¬ (fs.length : Int) = 8 := by omega
  have k3 : ¬ fs.length = 8 := by omega
  have BM : Hid (fs.length + 1 ≤ maxLen) := by unfold Hid maxLen; omega
  have BY : Hid ((fs.length + 1) * 32 ≤ 140737488355328) := by unfold Hid; omega
  obtain ⟨pq, hpq⟩ : ∃ pq : Option Addr, (if c' = s then some a else some (a.add s)) = pq := ⟨_, rfl⟩
  have NXT := Lib.hid (fun (wm w3 : World) (g cap : Nat) (p1 : Option Addr) (c1 : Nat) b nw o gr mv => show ∃ r fs' left', Hid (ParRel w w3 (.slice (some ⟨g, 0, none⟩) (fs.length + 1) cap) pq (n' - s) (c' - s) r fs' left' all) by
    have x := h.out.next (wm := wm) (w3 := w3) (g := g) (cap := cap) (s := s) (f := ⟨t, p1, m, c1, D⟩) d e0 hs fx b nw o gr mv
    rw [Nat.mul_one, Option.map_some, hpq] at x
    exact ⟨_, _, _, x⟩)
  have LM : Hid (n' - s < n') := by unfold Hid; omega
  have LM' : Hid (n' - s ≤ 10000) := by unfold Hid; have := hN.out; omega
  have OW := Lib.hid h.out.own
  have LOW := Lib.hid h.out.low
  have ONE : Hid (∀ p1 c1, ∀ u ∈ ([.int .u16 (t : Nat), .slice p1 m c1] : List Value), u.oneCell' = true) := by
    intro p1 c1 u hu
    simp only [List.mem_cons, List.not_mem_nil, or_false] at hu
    rcases hu with rfl | rfl <;> rfl
  clear h d d' ln hN e0 hs L16 lN hle k7 lN' hm cn ht hD fx
  go_wp2_with fail
  refine PM.out.mono ?_; rintro e w2 ⟨rfl, l⟩
  have HR2 := Lib.hid l
  have HB2 : Hid (Below w.heap.size w w2) := LOW.out.trans (l.mono LOW.out.size)
  clear l
  go_wp2_with fail
  refine (RD.out _ HB2.out).mono ?_; rintro e w3 ⟨p1, c1, rfl, nw, l⟩
  have HR3 := Lib.hid (HR2.out.trans (l.mono HR2.out.size))
  have HB3 : Hid (Below w.heap.size w w3) := LOW.out.trans (HR3.out.mono LOW.out.size)
  have NW := Lib.hid (nw.low HR2.out.size)
  clear l nw
  go_wp2_with (at_builtin; (refine wpList_append_lies _ rfl _ _ _ rfl w.heap.size 44 iX (.agg #[.int .u16 0, .slice none 0 0]) 2 32 Try.underlying22 hi hz0 hz1 hz2 rfl (by omega) (.slice p5 fs.length c5) fs.length (cellsX fs) rfl (own_keep OW.out (HR3.out.alloc HR3.out.size _)) ⟨w3.heap.size, 0, none⟩ 1 1 [.int .u16 (t : Nat), .slice p1 m c1] rfl rfl (World.news_of_block (heap_alloc_new w3 _)) (ONE.out _ _) (by omega) BM.out BY.out ((HB3.out.alloc HB3.out.size _).size) _ rfl ?_))
  intro gg cap w4 o4 g4 m4 lt4
  obtain ⟨r4, fs4, left4, N4⟩ := NXT.out _ w4 gg cap p1 c1 (HR3.out.alloc HR3.out.size _) (NW.out.below ((Below.refl _ _).alloc (Nat.le_refl _) _)) o4 g4 (by rw [World.size_alloc]; exact m4)
  clear o4 g4 m4 lt4
  go_wp2
  go_step3
  refine ⟨rfl, ⟨_, _, _, _, _, _, _, _, _, _, _, _, _, _, _, _, _, _, _, _, _, _, _, _, _, _, _, _, _, _, _, _, _, _, _, _, _, _, pq, n' - s, c' - s, r4, fs4, left4, rfl, by go_num, LM', N4⟩, ?_⟩
  exact LM.out
end Go.Proofs.Yteclcefeipjoeaa
