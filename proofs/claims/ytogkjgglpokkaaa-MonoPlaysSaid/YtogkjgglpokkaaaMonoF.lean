/- Layer 11 (mono): the document's own clock: by how much it goes on. -/
import Derived.Test.YtogkjgglpokkaaaMonoM
import Derived.Test.YtogkjgglpokkaaaBigS
import Derived.Test.YtogkjgglpokkaaaTurn
import Derived.Test.YtogkjgglpokkaaaSlice
import Derived.LoopTactic
import Derived.BigQuiet
import Derived.Deep.RegionHeld3
import Derived.Deep.RegionWith
import Derived.Deep.DeepCutAuto
set_option maxRecDepth 100000
namespace Go.Proofs.Ytogkjgglpokkaaa
open Go.ChangeShapes Go.WideShapes Go.ChangeAt Go.RowKit MonoM BigM

/-- In a block lies the document's own clock. -/
def RClk (w : World) (M : Nat) (x : Mo) : Prop := w.heap[M]? = some (.cells #[.int .i64 x.raw, .int .i64 x.mono, .int .i64 x.rate, .int .i64 x.rest, .bool x.full] 27 (0, 0))
theorem RClk.lt {w : World} {M : Nat} {x : Mo} (c : RClk w M x) : M < w.heap.size := by
  unfold RClk at c
  exact (Array.getElem?_eq_some_iff.1 c).1
theorem RClk.below {w w' : World} {M : Nat} {x : Mo} (c : RClk w M x) (b : Below w.heap.size w w') : RClk w' M x := by
  have := c.lt
  unfold RClk at c ⊢
  rw [b.block M this]
  exact c
theorem RClk.cells {w : World} {M : Nat} {raw mono rate rest : Int} {full : Bool} (c : RClk w M ⟨raw, mono, rate, rest, full⟩) : w.heap[M]? = some (.cells #[.int .i64 raw, .int .i64 mono, .int .i64 rate, .int .i64 rest, .bool full] 27 (0, 0)) := c
theorem Turn.rclk {N M : Nat} {x : Mo} {w w' : World} (t : Turn N w w') (c : RClk w M x) (ne : M ≠ N) : RClk w' M x := by
  have := c.lt
  unfold RClk at c ⊢
  rw [t.keep M ne this]
  exact c

/-- A whole number told, over what lay there in a world ahead. -/
def BigK (V w' : World) (t : Int) (L : Nat) (e : Ending) (w'' : World) : Prop := ∃ x, e = .returned x ∧ BigZ w'' x t L ∧ Below V.heap.size V w'' ∧ (∀ (M : Nat) (o : Obj), w'.heap[M]? = some o → w''.heap[M]? = some o) ∧ Below w'.heap.size w' w''
theorem BigT.k {V w' : World} {t : Int} {L : Nat} {e : Ending} {w'' : World} (l : Below V.heap.size V w') (h : BigT w' t L e w'') : BigK V w' t L e w'' := by
  obtain ⟨x, a, g, b⟩ := h
  exact ⟨x, a, g, l.trans (b.mono l.size), fun M o h => (b.block M (Array.getElem?_eq_some_iff.1 h).1).trans h, b⟩
theorem BigZ.slice {w : World} {x : Value} {t : Int} {L : Nat} (h : BigZ w x t L) : ∃ p k c, x = .agg #[.bool (decide (t < 0)), .slice p k c] := BigIs.slice h
theorem BigZ.set {w : World} {x : Value} {t : Int} {L N o : Nat} {cs : Array Value} {T : TypeId} {fr : Nat × Nat} (h : BigZ w x t L) (hN : w.heap[N]? = some (.cells cs T fr)) (hT : T ≠ 71) (u : Value) : BigZ (w.setCell ⟨N, o, none⟩ u) x t L := BigIs.set h hN hT u
theorem two_set {w : World} {N : Nat} {a b : Value} {T : TypeId} (h : w.heap[N]? = some (.cells #[a, b] T (0, 0))) (x y : Value) : ((w.setCell ⟨N, 0, none⟩ x).setCell ⟨N, 1, none⟩ y).heap[N]? = some (.cells #[x, y] T (0, 0)) :=
  blk_set (blk_set h)

theorem braw_below {w w' : World} {x : Value} {m : Bool} {n L : Nat} (h : BigRaw w x m n L) (hb : Below w.heap.size w w') : BigRaw w' x m n L := by
  obtain ⟨v, ds, h1, h2, h3⟩ := h.out
  exact ⟨v, ds, h1, own_below h2 hb, h3⟩

set_option maxHeartbeats 8000000 in
theorem rfurther11_any (w : World) (M : Nat) (x : Mo) (d : Int) (c : RClk w M x) (ok : x.Ok) (h0 : 0 ≤ d) (h1 : d ≤ 1125899906842624) :
    Calls Try.prog 25 #[.pointer (some ⟨M, 0, none⟩), .int .i64 d] w fun e w' => e = .returned (.tuple #[.int .i64 (d + x.q d), .int .i64 ((d * x.rate + x.rest) % 1000000000)]) ∧ Below w.heap.size w w' := by
  have m := mul_rate h0 ok.s0 ok.s1
  obtain ⟨r0, r1, m0, m1, s0, s1, e0, e1⟩ := ok
  obtain ⟨raw, mono, rate, rest, full⟩ := x
  unfold Mo.q
  dsimp only at *
  obtain ⟨p, hp⟩ : ∃ p, d * rate = p := ⟨_, rfl⟩
  rw [hp] at m ⊢
  obtain ⟨n, hn⟩ : ∃ n, p + rest = n := ⟨_, rfl⟩
  rw [hn]
  have OD : Hid (∀ w', Below w.heap.size w w' → Calls Try.prog 31 #[.int .i64 d] w' (BigK w w' d 4)) := fun w' l => (ofz_any w' d ⟨by omega, by omega⟩).mono fun e w'' h => h.k l
  have OR : Hid (∀ w', Below w.heap.size w w' → Calls Try.prog 31 #[.int .i64 rate] w' (BigK w w' rate 4)) := fun w' l => (ofz_any w' rate ⟨by omega, by omega⟩).mono fun e w'' h => h.k l
  have OS : Hid (∀ w', Below w.heap.size w w' → Calls Try.prog 31 #[.int .i64 rest] w' (BigK w w' rest 4)) := fun w' l => (ofz_any w' rest ⟨by omega, by omega⟩).mono fun e w'' h => h.k l
  have OB : Hid (∀ w', Calls Try.prog 31 #[.int .i64 1000000000] w' (BigT w' 1000000000 4)) := fun w' => ofz_any w' 1000000000 ⟨by decide, by decide⟩
  have TM : Hid (∀ w' x1 x2, Below w.heap.size w w' → BigZ w' x1 d 4 → BigZ w' x2 rate 4 → Calls Try.prog 30 #[x1, x2] w' (BigK w w' p 14)) := fun w' x1 x2 l g1 g2 => by
    have h := timesz_any w' x1 x2 d rate 4 4 g1 g2 (by decide) (by decide)
    rw [hp] at h
    exact h.mono fun e w'' h => h.k l
  have PL : Hid (∀ w' x1 x2, Below w.heap.size w w' → BigZ w' x1 p 14 → BigZ w' x2 rest 4 → Calls Try.prog 29 #[x1, x2] w' (BigK w w' n 15)) := fun w' x1 x2 l g1 g2 => by
    have h := plusz_any w' x1 x2 p rest 14 4 g1 g2 (by decide) (by decide)
    rw [hn] at h
    exact h.mono fun e w'' h => h.k l
  have KM : Hid (∀ w', Below w.heap.size w w' → w'.cell? ⟨M, 2, none⟩ = some (.int .i64 rate) ∧ w'.cell? ⟨M, 3, none⟩ = some (.int .i64 rest)) := fun w' b => by
    have e := (c.below b).cells
    exact ⟨blk_cell e, blk_cell e⟩
  have HB0 : Below w.heap.size w w := Below.refl _ _
  have NB : Hid (-562949953421312000000 ≤ n ∧ n ≤ 562949954421312000000) := ⟨by omega, by omega⟩
  have DB : Hid (0 ≤ d ∧ d ≤ 1125899906842624) := ⟨h0, h1⟩
  clear c m m0 m1 r0 r1 s0 s1 e0 e1 hp hn h0 h1
  go_enter Try.func25, Try.ntmps25
  go_upto_region 1 with (fail)
  go_cut [6] (fun o wx => ∃ N p k c, o = .pointer (some ⟨N, 0, none⟩) ∧ Hid (wx.heap[N]? = some (.cells #[.bool (decide (n < 0)), .slice p k c] 59 (0, 0)) ∧ BigZ wx (.agg #[.bool (decide (n < 0)), .slice p k c]) n 15 ∧ Below w.heap.size w wx))
  case first =>
    go_wp2_with fail
    go_region_held3 (fun w' => w'.cell? ⟨M, 2, none⟩ = some (.int .i64 rate) ∧ w'.cell? ⟨M, 3, none⟩ = some (.int .i64 rest))
      (first | exact KM.out _ HB0 | exact KM.out _ HB0.drew | exact KM.out _ (HB0.alloc HB0.size _) | exact KM.out _ (HB0.alloc HB0.size _).drew | exact KM.out _ ((HB0.setCell (Nat.le_refl _) _).setCell (Nat.le_refl _) _) | exact KM.out _ ((HB0.setCell HS1 _).setCell HS1 _) | exact KM.out _ ((HB0.setCell HS2 _).setCell HS2 _) | exact KM.out _ ((HB0.setCell HS3 _).setCell HS3 _) | exact KM.out _ ((HB0.setCell HS4 _).setCell HS4 _))
      (first
        | (go_at_call_of 31 d; refine (OD.out _ (by first | exact HB0 | exact HB0.drew | exact HB0.alloc HB0.size _ | exact (HB0.alloc HB0.size _).drew)).mono ?_; rintro e w1 ⟨x1, rfl, g1, HB0, kp, l1⟩; have HS1 := HB0.size; (try (first | have KA := kp _ _ KA | have KA : w1.heap[w.heap.size]? = some (.cells #[.bool false, .slice none 0 0] 59 (0, 0)) := kp _ _ (heap_alloc_new _ _))))
        | (go_at_call_of 31 rate; refine (OR.out _ (by first | exact HB0 | exact HB0.drew | exact HB0.alloc HB0.size _ | exact (HB0.alloc HB0.size _).drew)).mono ?_; rintro e w2 ⟨x2, rfl, g2, HB0, kp, l2⟩; have HS2 := HB0.size; (try (first | have KA := kp _ _ KA | have KA : w2.heap[w1.heap.size]? = some (.cells #[.bool false, .slice none 0 0] 59 (0, 0)) := kp _ _ (heap_alloc_new _ _))); have g1 : BigZ w2 x1 d 4 := by first | exact g1.below l2 | exact (g1.below (Below.refl _ _).drew).below l2 | exact (g1.below ((Below.refl _ _).alloc (Nat.le_refl _) _)).below l2 | exact (g1.below ((Below.refl _ _).alloc (Nat.le_refl _) _).drew).below l2)
        | (go_at_call 30; refine (TM.out _ x1 x2 (by first | exact HB0 | exact HB0.drew | exact HB0.alloc HB0.size _ | exact (HB0.alloc HB0.size _).drew) (by first | exact g1 | exact g1.below (Below.refl _ _).drew | exact g1.below ((Below.refl _ _).alloc (Nat.le_refl _) _) | exact g1.below ((Below.refl _ _).alloc (Nat.le_refl _) _).drew) (by first | exact g2 | exact g2.below (Below.refl _ _).drew | exact g2.below ((Below.refl _ _).alloc (Nat.le_refl _) _) | exact g2.below ((Below.refl _ _).alloc (Nat.le_refl _) _).drew)).mono ?_; rintro e w3 ⟨x3, rfl, g3, HB0, kp, l3⟩; have HS3 := HB0.size; (try (first | have KA := kp _ _ KA | have KA : w3.heap[w2.heap.size]? = some (.cells #[.bool false, .slice none 0 0] 59 (0, 0)) := kp _ _ (heap_alloc_new _ _))))
        | (go_at_call_of 31 rest; refine (OS.out _ (by first | exact HB0 | exact HB0.drew | exact HB0.alloc HB0.size _ | exact (HB0.alloc HB0.size _).drew)).mono ?_; rintro e w4 ⟨x4, rfl, g4, HB0, kp, l4⟩; have HS4 := HB0.size; (try (first | have KA := kp _ _ KA | have KA : w4.heap[w3.heap.size]? = some (.cells #[.bool false, .slice none 0 0] 59 (0, 0)) := kp _ _ (heap_alloc_new _ _))); have g3 : BigZ w4 x3 p 14 := by first | exact g3.below l4 | exact (g3.below (Below.refl _ _).drew).below l4 | exact (g3.below ((Below.refl _ _).alloc (Nat.le_refl _) _)).below l4 | exact (g3.below ((Below.refl _ _).alloc (Nat.le_refl _) _).drew).below l4)
        | (go_at_call 29; refine (PL.out _ x3 x4 (by first | exact HB0 | exact HB0.drew | exact HB0.alloc HB0.size _ | exact (HB0.alloc HB0.size _).drew) (by first | exact g3 | exact g3.below (Below.refl _ _).drew | exact g3.below ((Below.refl _ _).alloc (Nat.le_refl _) _) | exact g3.below ((Below.refl _ _).alloc (Nat.le_refl _) _).drew) (by first | exact g4 | exact g4.below (Below.refl _ _).drew | exact g4.below ((Below.refl _ _).alloc (Nat.le_refl _) _) | exact g4.below ((Below.refl _ _).alloc (Nat.le_refl _) _).drew)).mono ?_; rintro e w5 ⟨x5, rfl, g5, HB0, kp, l5⟩; have HS5 := HB0.size; (try (first | have KA := kp _ _ KA | have KA : w5.heap[w4.heap.size]? = some (.cells #[.bool false, .slice none 0 0] 59 (0, 0)) := kp _ _ (heap_alloc_new _ _))); obtain ⟨p5, k5, c5, rfl⟩ := g5.slice; try (have F0 := blk_free (o := 0) KA; have F1 := blk_free (o := 1) KA; have C0 := blk_cell (o := 0) KA; have C1 := blk_cell (o := 1) KA)))
    all_goals
      go_wp2_with fail
      go_meet
      first
        | exact ⟨_, p5, k5, c5, rfl, heap_alloc_new _ _, g5.below ((Below.refl _ _).alloc (Nat.le_refl _) _), HB0.alloc HB0.size _⟩
        | exact ⟨_, p5, k5, c5, rfl, two_set KA _ _, (g5.set KA (by decide) _).set (set_block KA) (by decide) _, (HB0.setCell (Nat.le_refl _) _).setCell (Nat.le_refl _) _⟩
        | exact ⟨_, p5, k5, c5, rfl, two_set KA _ _, (g5.set KA (by decide) _).set (set_block KA) (by decide) _, (HB0.setCell HS1 _).setCell HS1 _⟩
        | exact ⟨_, p5, k5, c5, rfl, two_set KA _ _, (g5.set KA (by decide) _).set (set_block KA) (by decide) _, (HB0.setCell HS2 _).setCell HS2 _⟩
        | exact ⟨_, p5, k5, c5, rfl, two_set KA _ _, (g5.set KA (by decide) _).set (set_block KA) (by decide) _, (HB0.setCell HS3 _).setCell HS3 _⟩
        | exact ⟨_, p5, k5, c5, rfl, two_set KA _ _, (g5.set KA (by decide) _).set (set_block KA) (by decide) _, (HB0.setCell HS4 _).setCell HS4 _⟩
  case rest =>
  obtain ⟨N, p5, k5, c5, rfl, H⟩ := hcut
  obtain ⟨s, hs⟩ : ∃ s, decide (n < 0) = s := ⟨_, rfl⟩
  obtain ⟨z, hz⟩ : ∃ z, n.natAbs = z := ⟨_, rfl⟩
  obtain ⟨a, ha⟩ : ∃ a, z / 1000000000 = a := ⟨_, rfl⟩
  obtain ⟨b, hb⟩ : ∃ b, z % 1000000000 = b := ⟨_, rfl⟩
  have GZ : Hid (BigIs wc (.agg #[.bool s, .slice p5 k5 c5]) s z 15) := by
    have g := H.out.2.1
    unfold BigZ at g
    rw [hs, hz] at g
    exact g
  have KN : Hid (∀ w', Below wc.heap.size wc w' → w'.cell? ⟨N, 1, none⟩ = some (.slice p5 k5 c5) ∧ w'.cell? ⟨N, 0, none⟩ = some (.bool s)) := fun w' b => by
    have e := (b.block _ (Array.getElem?_eq_some_iff.1 H.out.1).1).trans H.out.1
    rw [hs] at e
    exact ⟨blk_cell e, blk_cell e⟩
  have OBB : Hid (∀ w', Below wc.heap.size wc w' → Calls Try.prog 31 #[.int .i64 1000000000] w' fun e w'' => ∃ p k c, e = .returned (.agg #[.bool false, .slice p k c]) ∧ BigIs w'' (.agg #[.bool false, .slice p k c]) false 1000000000 4 ∧ Below wc.heap.size wc w'') := fun w' l => by
    refine (OB.out w').mono ?_
    rintro e w'' ⟨x, rfl, g, l'⟩
    obtain ⟨p', k', c', rfl⟩ := g.slice
    exact ⟨p', k', c', rfl, g, l.trans (l'.mono l.size)⟩
  have OVV : Hid (∀ w' p2 k2 c2, Below wc.heap.size wc w' → BigIs w' (.agg #[.bool false, .slice p2 k2 c2]) false 1000000000 4 → Calls Try.prog 32 #[.slice p5 k5 c5, .slice p2 k2 c2] w' fun e w'' => ∃ p k c p' k' c', e = .returned (.tuple #[.slice p k c, .slice p' k' c']) ∧ BigRaw w'' (.agg #[.bool false, .slice p k c]) false a 15 ∧ BigRaw w'' (.agg #[.bool false, .slice p' k' c']) false b 4 ∧ Below wc.heap.size wc w'') := fun w' p2 k2 c2 l g => by
    refine (overz_any w' p5 k5 c5 p2 k2 c2 s false z 1000000000 15 4 (GZ.out.below l) g (by decide) (by decide) (by decide) a b ha hb).mono ?_
    rintro e w'' ⟨p, k, c, p', k', c', rfl, g1, g2, l'⟩
    exact ⟨p, k, c, p', k', c', rfl, g1, g2, l.trans (l'.mono l.size)⟩
  have fb := fun (m : Bool) (p : Option Addr) (k c : Nat) (w : World) => field_big m p k c w
  have LW := Lib.hid H.out.2.2
  have HB1 : Below wc.heap.size wc wc := Below.refl _ _
  have AB : Hid (a ≤ 600000000000 ∧ b < 1000000000 ∧ ((s = false ∧ d + (a : Int) = d + n / 1000000000 ∧ (b : Int) = n % 1000000000) ∨ (s = true ∧ b = 0 ∧ d - (a : Int) = d + n / 1000000000 ∧ 0 = n % 1000000000) ∨ (s = true ∧ b ≠ 0 ∧ d - (a : Int) - 1 = d + n / 1000000000 ∧ 1000000000 - (b : Int) = n % 1000000000))) := by
    have nb := NB.out
    refine ⟨by omega, by omega, ?_⟩
    cases s
    · have : ¬ n < 0 := by simpa using hs
      left; exact ⟨rfl, by omega, by omega⟩
    · have : n < 0 := by simpa using hs
      right
      by_cases b0 : b = 0
      · left; exact ⟨rfl, b0, by omega, by omega⟩
      · right; exact ⟨rfl, b0, by omega, by omega⟩
  clear H OB OD OR OS TM PL KM HB0 ha hb hs hz GZ NB
  go_wp2_with fail
  go_region_held3 (fun w' => w'.cell? ⟨N, 1, none⟩ = some (.slice p5 k5 c5))
    (first | exact (KN.out _ HB1).1 | exact (KN.out _ HB1.drew).1)
    (first
      | (go_at_call 31; refine (OBB.out _ (by first | exact HB1 | exact HB1.drew)).mono ?_; rintro e w6 ⟨p6, k6, c6, rfl, g6, HB1⟩; replace g6 := Lib.hid g6)
      | (go_at_call 32; refine (OVV.out _ p6 k6 c6 (by first | exact HB1 | exact HB1.drew) g6.out).mono ?_; rintro e w7 ⟨p7, k7, c7, p8, k8, c8, rfl, g7, g8, HB1⟩; replace g7 := Lib.hid g7; replace g8 := Lib.hid g8))
  all_goals
    have L7 := Lib.hid HB1
    clear HB1 OBB OVV
    go_wp2_with fail
    refine (Int_any w7 _ false a 15 g7.out (by decide)).mono ?_; rintro e w8 ⟨q, ok, rfl, y1, y2, l8⟩
    have L8 := Lib.hid (L7.out.trans (l8.mono L7.out.size))
    have sgq : sg false a = (a : Int) := rfl
    rw [sgq] at y1 y2
    obtain rfl : ok = true := by
      cases ok
      · exact absurd (show I64 (a : Int) from ⟨by omega, by have := AB.out.1; omega⟩) (y2 rfl)
      · rfl
    obtain rfl : q = (a : Int) := (y1 rfl).2
    have G8 : Hid (BigRaw w8 (.agg #[.bool false, .slice p8 k8 c8]) false b 4) := braw_below g8.out l8
    clear y1 y2 l8 g7 g8 L7 sgq
    go_wp2_with fail
    refine (Int_any w8 _ false b 4 G8.out (by decide)).mono ?_; rintro e w9 ⟨q, ok, rfl, y1, y2, l9⟩
    have L9 := Lib.hid (L8.out.trans (l9.mono L8.out.size))
    have sgq : sg false b = (b : Int) := rfl
    rw [sgq] at y1 y2
    obtain rfl : ok = true := by
      cases ok
      · exact absurd (show I64 (b : Int) from ⟨by omega, by have := AB.out.2.1; omega⟩) (y2 rfl)
      · rfl
    obtain rfl : q = (b : Int) := (y1 rfl).2
    have C0 := (KN.out _ L9.out).2
    have FIN : Hid (Below w.heap.size w w9) := LW.out.trans (L9.out.mono LW.out.size)
    obtain ⟨u1, h1⟩ : ∃ u, d + (a : Int) = u := ⟨_, rfl⟩
    obtain ⟨u2, h2⟩ : ∃ u, d - (a : Int) = u := ⟨_, rfl⟩
    obtain ⟨u3, h3⟩ : ∃ u, u2 - 1 = u := ⟨_, rfl⟩
    obtain ⟨u4, h4⟩ : ∃ u, 1000000000 - (b : Int) = u := ⟨_, rfl⟩
    have aa := AB.out.1
    have bb := AB.out.2.1
    have dd := DB.out
    have v1 : wrap64 u1 = u1 := by unfold wrap64; omega
    have v2 : wrap64 u2 = u2 := by unfold wrap64; omega
    have v3 : wrap64 u3 = u3 := by unfold wrap64; omega
    have v4 : wrap64 u4 = u4 := by unfold wrap64; omega
    have x1 : IntKind.i64.wrap u1 = u1 := by rw [IntKind.wrap_i64]; omega
    have x2 : IntKind.i64.wrap u2 = u2 := by rw [IntKind.wrap_i64]; omega
    have x3 : IntKind.i64.wrap u3 = u3 := by rw [IntKind.wrap_i64]; omega
    have x4 : IntKind.i64.wrap u4 = u4 := by rw [IntKind.wrap_i64]; omega
    have AC : Hid ((s = false ∧ u1 = d + n / 1000000000 ∧ (b : Int) = n % 1000000000) ∨ (s = true ∧ b = 0 ∧ u2 = d + n / 1000000000 ∧ 0 = n % 1000000000) ∨ (s = true ∧ b ≠ 0 ∧ u3 = d + n / 1000000000 ∧ u4 = n % 1000000000)) := by
      have h := AB.out.2.2
      rw [h1, h2, h3, h4] at h
      exact h
    clear y1 y2 l9 G8 L8 sgq AB KN LW aa bb dd DB L9
    rcases AC.out with ⟨rfl, e1, e2⟩ | ⟨rfl, rfl, e1, e2⟩ | ⟨rfl, b0, e1, e2⟩
    · have E1 := Lib.hid e1
      have E2 := Lib.hid e2
      clear e1 e2 AC
      go_wp2
      go_ret2
      exact ⟨ret_pair E1.out E2.out, FIN.out⟩
    · have E1 := Lib.hid e1
      have E2 := Lib.hid e2
      clear e1 e2 AC
      go_wp2
      go_ret2
      exact ⟨ret_pair E1.out E2.out, FIN.out⟩
    · have E1 := Lib.hid e1
      have E2 := Lib.hid e2
      have bz : ((b : Int) == 0) = false := by rw [beq_eq_false_iff_ne]; omega
      have bz2 : ¬ (b : Int) = 0 := by omega
      clear e1 e2 AC
      go_wp2
      go_ret2
      exact ⟨ret_pair E1.out E2.out, FIN.out⟩
end Go.Proofs.Ytogkjgglpokkaaa
