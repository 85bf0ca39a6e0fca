/- MacTags: the walk. -/
import Derived.Test.YtkojgegfmhoomaaMacT
import Derived.Test.YtkojgegfmhoomaaFrameK
import Derived.Deep.RegionHeld3
namespace Go.Proofs.Ytkojgegfmhoomaa
open Go.ChangeShapes Go.WideShapes Go.ChangeAt Go.RowKit OctM

set_option maxRecDepth 100000 in
set_option maxHeartbeats 8000000 in
theorem tags6_core (w : World) (k : Ky) (x : Nat) (p : Option Addr) (n c m : Nat) (ps : List Prt) (hk : KeyOk k) (EM : min (n : Int) 30 = (m : Int)) (mc : (m : Int) ≤ (c : Int)) (m2 : m ≤ 30) (hp : HoldsP w p m c ps) (hy : ∀ q ∈ ps, Byt q.ds) (ht : totalP ps ≤ 2000000) :
    Calls Try.prog 3 #[keyV k, .slice p n c, .int .u64 (x : Nat)] w fun e w' => e = .returned (.bool true) ∧ Below w.heap.size w w' := by
  obtain ⟨T, hT⟩ : ∃ T, T = tagN k.a k.b (joinP ps) := ⟨_, rfl⟩
  obtain ⟨B, hB⟩ : ∃ B, B = decide (T = x) := ⟨_, rfl⟩
  have LJ := joinP_len hp.lens
  have EI : (if (30 : Int) < (n : Int) then (30 : Int) else (n : Int)) = (m : Int) := by split <;> omega
  have tt : ((T : Int) == (T : Int)) = true := beq_self_eq_true _
  have tx : ((x : Int) == (T : Int)) = B := by
    rw [hB, Bool.eq_iff_iff]
    simp only [beq_iff_eq, decide_eq_true_eq]
    omega
  have bb : (B == B) = true := beq_self_eq_true _
  have RJ : Hid (∀ w', Below w.heap.size w w' → Calls Try.prog 9 #[.slice p m c] w' (JoinP w' (joinP ps))) := fun w' hb => rjoin6_any w' p m c ps (hp.below hb) (by omega) ht
  have RT : Hid (∀ w' p' c', Holds w' p' (joinP ps).length c' (valsN .u8 (joinP ps)) → Calls Try.prog 8 #[.agg #[.int .u32 (k.id : Nat), .int .u64 (k.a : Nat), .int .u64 (k.b : Nat)], .slice p' (joinP ps).length c'] w' fun e w'' => e = .returned (.int .u64 (T : Nat)) ∧ Below w'.heap.size w' w'') := fun w' p' c' h => by
    rw [hT]
    exact rtag6_any w' _ k.a k.b hk.2.1 hk.2.2 p' _ c' (joinP ps) h (joinP_byt hy) (by omega)
  have PT : Hid (∀ w', Below w.heap.size w w' → Calls Try.prog 10 #[.agg #[.int .u32 (k.id : Nat), .int .u64 (k.a : Nat), .int .u64 (k.b : Nat)], .slice p m c] w' fun e w'' => e = .returned (.int .u64 (T : Nat)) ∧ Below w'.heap.size w' w'') := fun w' hb => by
    rw [hT]
    exact ptag_any w' k p m c ps hk (hp.below hb) hy (by omega) ht
  have PR : Hid (∀ w' t b, decide (T = t) = b → Below w.heap.size w w' → Calls Try.prog 11 #[.agg #[.int .u32 (k.id : Nat), .int .u64 (k.a : Nat), .int .u64 (k.b : Nat)], .int .u64 (t : Nat), .slice p m c] w' fun e w'' => e = .returned (.bool b) ∧ Below w'.heap.size w' w'') := fun w' t b e hb => by
    rw [← e, hT]
    exact pright_any w' k t p m c ps hk (hp.below hb) hy (by omega) ht
  have R1 : Hid (decide (T = T) = true) := decide_eq_true rfl
  have R2 : Hid (decide (T = x) = B) := hB.symm
  unfold keyV
  have L1 : Below w.heap.size w (w.alloc (.cells #[.int .u32 (k.id : Nat), .int .u64 (k.a : Nat), .int .u64 (k.b : Nat)] 25)) := (Below.refl _ _).alloc (Nat.le_refl _) _
  have HB := heap_alloc_new w (.cells #[.int .u32 (k.id : Nat), .int .u64 (k.a : Nat), .int .u64 (k.b : Nat)] 25)
  have HP := Lib.hid hp
  clear hT hB LJ hk hy ht hp
  go_enter Try.func3, Try.ntmps3
  go_upto_region 1 with (fail)
  generalize w.alloc (.cells #[.int .u32 (k.id : Nat), .int .u64 (k.a : Nat), .int .u64 (k.b : Nat)] 25) = W at *
  have SZ : Hid (w.heap.size < W.heap.size) := (Array.getElem?_eq_some_iff.1 HB).1
  have K0 : Hid (∀ w', Below w.heap.size w w' ∧ Below W.heap.size W w' → w'.cell? ⟨w.heap.size, 0, none⟩ = some (.int .u32 (k.id : Nat)) ∧ w'.cell? ⟨w.heap.size, 1, none⟩ = some (.int .u64 (k.a : Nat)) ∧ w'.cell? ⟨w.heap.size, 2, none⟩ = some (.int .u64 (k.b : Nat))) := fun w' hb => by
    have c0 := blk_cell (o := 0) HB
    have c1 := blk_cell (o := 1) HB
    have c2 := blk_cell (o := 2) HB
    exact ⟨(hb.2.cell (World.block_lt_of_cell? W _ c0)).trans c0, (hb.2.cell (World.block_lt_of_cell? W _ c1)).trans c1, (hb.2.cell (World.block_lt_of_cell? W _ c2)).trans c2⟩
  have NXT : Hid (∀ w' w'', Below w.heap.size w w' ∧ Below W.heap.size W w' → Below w'.heap.size w' w'' → Below w.heap.size w w'' ∧ Below W.heap.size W w'') := fun w' w'' h l => ⟨h.1.trans (l.mono h.1.size), h.2.trans (l.mono h.2.size)⟩
  have HB0 : Below w.heap.size w W ∧ Below W.heap.size W W := ⟨L1, Below.refl _ _⟩
  have DR : Hid (∀ w', Below w.heap.size w w' ∧ Below W.heap.size W w' → Below w.heap.size w w'.drew ∧ Below W.heap.size W w'.drew) := fun w' h => ⟨h.1.drew, h.2.drew⟩
  clear L1 HB HP
  go_upto_region 2 with (fail)
  go_region_held3 (fun w' => w'.cell? ⟨w.heap.size, 0, none⟩ = some (.int .u32 (k.id : Nat)) ∧ w'.cell? ⟨w.heap.size, 1, none⟩ = some (.int .u64 (k.a : Nat)) ∧ w'.cell? ⟨w.heap.size, 2, none⟩ = some (.int .u64 (k.b : Nat)))
    (first | exact K0.out _ HB0 | exact K0.out _ (DR.out _ HB0))
    (first
      | (go_at_call 9; refine (RJ.out _ (DR.out _ HB0).1).mono ?_; rintro e w4 ⟨v4, rfl, o4, l4⟩; have HB0 := NXT.out _ _ (DR.out _ HB0) l4; obtain ⟨p4, c4, rfl, h4⟩ := own_holds o4; clear o4 l4)
      | (go_at_call 8; refine (RT.out _ _ _ h4).mono ?_; rintro e w5 ⟨rfl, l5⟩; have HB0 := NXT.out _ _ HB0 l5; clear l5 h4))
  obtain ⟨C0, C1, C2⟩ := K0.out _ HB0
  go_wp2_with fail
  refine (PT.out _ HB0.1).mono ?_; rintro e w6 ⟨rfl, l6⟩
  have HB1 := NXT.out _ _ HB0 l6
  obtain ⟨C0, C1, C2⟩ := K0.out _ HB1
  clear l6
  go_wp2_with fail
  refine (PR.out _ _ true (decide_eq_true rfl) HB1.1).mono ?_; rintro e w7 ⟨rfl, l7⟩
  have HB2 := NXT.out _ _ HB1 l7
  obtain ⟨C0, C1, C2⟩ := K0.out _ HB2
  clear l7
  go_wp2_with fail
  refine (PR.out _ _ B R2.out HB2.1).mono ?_; rintro e w8 ⟨rfl, l8⟩
  have HB3 := NXT.out _ _ HB2 l8
  clear l8
  go_wp2_with fail
  refine (wakes6_any tag_code _).mono ?_; rintro e w9 ⟨rfl, l9⟩
  have HB4 := NXT.out _ _ HB3 l9
  clear l9
  go_wp2
  go_ret
  exact ⟨rfl, HB4.1⟩

theorem tags6_any (w : World) (k : Ky) (x : Nat) (p : Option Addr) (n c : Nat) (ps : List Prt) (hk : KeyOk k) (hp : HoldsP w p n c ps) (hy : ∀ q ∈ ps, Byt q.ds) (ht : totalP ps ≤ 2000000) :
    Calls Try.prog 3 #[keyV k, .slice p n c, .int .u64 (x : Nat)] w fun e w' => e = .returned (.bool true) ∧ Below w.heap.size w w' := by
  have cp := hp.cap
  exact tags6_core w k x p n c (min n 30) (ps.take (min n 30)) hk (by omega) (by omega) (by omega) (hp.front (by omega)) (fun q hq => hy q (List.mem_of_mem_take hq)) (Nat.le_trans (totalP_take ps _) ht)
end Go.Proofs.Ytkojgegfmhoomaa
