/- MacKnown: the walk. -/
import Derived.Test.YtkojgegfmhoomaaMacTablesM
import Derived.Test.YtkojgegfmhoomaaMacPartsW
import Derived.Deep.DeepCutAuto
namespace Go.Proofs.Ytkojgegfmhoomaa
open Go.ChangeShapes Go.WideShapes Go.ChangeAt Go.RowKit Go.Maps OctM

instance (k : Ky) : Decidable (KeyOk k) := by unfold KeyOk; exact inferInstance
theorem not_twice {ks : List Ky} (h : (ks.map (·.id)).Nodup) : ¬ twiceK ks := fun ⟨i, j, k, l, hj, hk, hl, e⟩ => by
  rw [List.nodup_iff_pairwise_ne, List.pairwise_iff_getElem] at h
  obtain ⟨h1, rfl⟩ := List.getElem?_eq_some_iff.1 hk
  obtain ⟨h2, rfl⟩ := List.getElem?_eq_some_iff.1 hl
  have := h j i (by rw [List.length_map]; exact h2) (by rw [List.length_map]; exact h1) hj
  rw [List.getElem_map, List.getElem_map] at this
  exact this e
theorem not_zero {ks : List Ky} (h : ∀ k ∈ ks, k.id ≠ 0) : ¬ zeroK ks := fun ⟨k, hk, e⟩ => h k hk e
theorem pnew_ok {w w' : World} {ks : List Ky} {e : Ending} (h : PNewR w ks e w') (z : ¬ zeroK ks) (t : ¬ twiceK ks) (l : ks.length ≤ 16) : PTab w ks e w' := by
  rcases h with ⟨n, -⟩ | ⟨-, n, -⟩ | ⟨-, -, n, -⟩ | ⟨-, -, -, h⟩
  · exact absurd n z
  · exact absurd n t
  · omega
  · exact h
theorem pnew_full {w w' : World} {ks : List Ky} {e : Ending} (h : PNewR w ks e w') (z : ¬ zeroK ks) (t : ¬ twiceK ks) (l : 16 < ks.length) : e = .returned (.tuple #[.pointer none, .int .i64 7]) ∧ Below w.heap.size w w' := by
  rcases h with ⟨n, -⟩ | ⟨-, n, -⟩ | ⟨-, -, -, h⟩ | ⟨-, -, n, -⟩
  · exact absurd n z
  · exact absurd n t
  · exact h
  · omega
theorem pnew_there {w w' : World} {ks : List Ky} {e : Ending} (h : PNewR w ks e w') (z : ¬ zeroK ks) (t : twiceK ks) : e = .returned (.tuple #[.pointer none, .int .i64 9]) ∧ Below w.heap.size w w' := by
  rcases h with ⟨n, -⟩ | ⟨-, -, h⟩ | ⟨-, n, -⟩ | ⟨-, n, -⟩
  · exact absurd n z
  · exact h
  all_goals exact absurd t n
theorem pnew_arg {w w' : World} {ks : List Ky} {e : Ending} (h : PNewR w ks e w') (z : zeroK ks) : e = .returned (.tuple #[.pointer none, .int .i64 1]) ∧ Below w.heap.size w w' := by
  rcases h with ⟨-, h⟩ | ⟨n, -⟩ | ⟨n, -⟩ | ⟨n, -⟩
  · exact h
  all_goals exact absurd z n
/-- A literal's block of keys. -/
theorem litK {w : World} {N n : Nat} {cs : Array Value} {T : TypeId} (ks : List Ky) (h : w.heap[N]? = some (.cells cs T (0, 0))) (hc : cs.toList = cellsK ks) (hn : ks.length = n) (hm : n ≤ maxLen) : HoldsK w (some ⟨N, 0, none⟩) n n ks := by
  refine ⟨hn, Nat.le_refl _, hm, (fun e => by cases e), fun i k hk => ⟨_, rfl, ?_⟩⟩
  obtain ⟨c1, c2, c3⟩ := cellsK_get ks i k hk
  have hadd : ∀ j, (⟨N, 0, none⟩ : Addr).add j = ⟨N, j, none⟩ := fun j => by unfold Addr.add; split <;> simp_all
  rw [hadd, hadd, hadd, blk_cell h, blk_cell h, blk_cell h, ← Array.getElem?_toList, ← Array.getElem?_toList, ← Array.getElem?_toList, hc]
  exact ⟨c1, c2, c3⟩
/-- The keys 1, 2, .. -/
def listK (q : Nat) : List Ky := (List.range q).map fun i => ⟨i + 1, i + 1, 0⟩
theorem listK_next (q : Nat) : listK (q + 1) = listK q ++ [⟨q + 1, q + 1, 0⟩] := by unfold listK; rw [List.range_succ, List.map_append]; rfl
theorem listK_ok (q : Nat) (h : q ≤ 100) : ∀ k ∈ listK q, KeyOk k := fun k hk => by
  unfold listK at hk
  obtain ⟨i, hi, rfl⟩ := List.mem_map.1 hk
  have := List.mem_range.1 hi
  exact ⟨by simp only; omega, by simp only; omega, by simp only; omega⟩
theorem holdsK_none (w : World) : HoldsK w none 0 0 [] := ⟨rfl, Nat.le_refl _, Nat.zero_le _, fun _ => rfl, fun i q hq => by simp at hq⟩
theorem tabAt_of {w w' : World} {T b n : Nat} {D : DataW Unit} {ks : List Ky} (h1 : w.heap[T]? = some (.cells #[.map (some b)] 68 (0, 0))) (h2 : w.ownsMap Try.prog 22 keyR b n D) (h3 : TabD D ks) (nt : ¬ twiceK ks)
    (o : ∀ i, i < w.heap.size → (i = T ∨ i = b) → w'.heap[i]? = w.heap[i]?) : TabAt w' T ks := by
  have l := h2.lt
  obtain ⟨es, clock, hes, r⟩ := h2
  exact ⟨⟨b, n, D, by rw [o T (Array.getElem?_eq_some_iff.1 h1).1 (.inl rfl)]; exact h1, ⟨es, clock, by rw [o b l (.inr rfl)]; exact hes, r⟩, h3⟩, nt⟩

set_option maxRecDepth 100000 in
set_option maxHeartbeats 16000000 in
theorem known6_walk (w : World) : Calls Try.prog 7 #[] w fun e w' => e = .returned (.bool true) ∧ Below w.heap.size w w' := by
  go_enter Try.func7, Try.ntmps7
  go_wp2_with fail
  refine (pfind_none w 1).mono ?_; rintro e w1 ⟨rfl, l1⟩
  rw [show findK [] 1 = none from rfl]
  simp only [Option.getD_none, Option.isSome_none]
  rw [show keyV ⟨0, 0, 0⟩ = .agg #[.int .u32 0, .int .u64 0, .int .u64 0] from rfl]
  have L1 : Hid (Below w.heap.size w (w1.alloc (.cells #[.int .u32 0, .int .u64 0, .int .u64 0] 25))) := l1.alloc l1.size _
  clear l1
  go_upto_region 3 with (fail)
  generalize w1.alloc (.cells #[.int .u32 0, .int .u64 0, .int .u64 0] 25) = wA at *
  have OW0 : Hid (wA.ownsRow w.heap.size 25 3 (.slice none 0 0) 0 (cellsK (listK 0))) := World.ownsRow_nil _ _ _ _
  go_wp2_with fail
  go_loopw [4, 5] (fun v i wr => ∃ q : Nat, i = .int .u32 ((q + 1 : Nat) : Int) ∧ Hid (q ≤ 16) ∧ Hid (wr.ownsRow w.heap.size 25 3 v q (cellsK (listK q))) ∧ Hid (Below w.heap.size w wr)) (fun _ i _ => 100 - (intOf i).toNat)
  case atStart => exact ⟨0, rfl, Nat.zero_le _, OW0, L1⟩
  case round =>
    obtain ⟨q, rfl, hq, own, low⟩ := hrel
    obtain ⟨r, hr⟩ : ∃ r, r = q + 1 := ⟨_, rfl⟩
    rw [← hr]
    have qb : (q : Int) ≤ 16 := by have := hq.out; omega
    have rb : (r : Int) ≤ 17 := by omega
    by_cases h : q < 16
    · have h' : (r : Int) ≤ 16 := by omega
      have HQ : Hid (q + 1 ≤ 16) := h
      have w64 : IntKind.u64.wrap (r : Int) = (r : Int) := by rw [IntKind.wrap_u64]; omega
      have A1 : Hid (Below w.heap.size w (wr.alloc (.cells #[.int .u32 (r : Nat), .int .u64 (r : Nat), .int .u64 0] 25))) := low.out.alloc low.out.size _
      have OW : Hid ((wr.alloc (.cells #[.int .u32 (r : Nat), .int .u64 (r : Nat), .int .u64 0] 25)).ownsRow w.heap.size 25 3 u4 q (cellsK (listK q))) := World.ownsRow.alloc own.out _
      have HH : Hid (HoldsK (wr.alloc (.cells #[.int .u32 (r : Nat), .int .u64 (r : Nat), .int .u64 0] 25)) (some ⟨wr.heap.size, 0, none⟩) 1 1 [⟨r, r, 0⟩]) := litK [⟨r, r, 0⟩] (heap_alloc_new wr _) rfl rfl (by decide)
      have BM : Hid (q + 1 ≤ 100000) := by unfold Hid; omega
      have NX : Hid (listK (q + 1) = listK q ++ [⟨r, r, 0⟩]) := by unfold Hid; rw [listK_next, hr]
      have R1 : Hid ((r : Int) + 1 = ((q + 1 + 1 : Nat) : Int)) := by unfold Hid; omega
      clear hq own low h hr
      go_wp2_with (at_builtin; refine append_keys rfl _ _ rfl w.heap.size _ q (listK q) rfl OW.out (some ⟨wr.heap.size, 0, none⟩) 1 1 [⟨r, r, 0⟩] rfl HH.out BM.out A1.out.size ?_)
      intro v3 w3 o3 g3
      rw [← NX.out] at o3
      have O3 := Lib.hid o3
      have L3 : Hid (Below w.heap.size w w3) := A1.out.grown g3 A1.out.size (fun j hj => (World.ownsRow.lt OW.out j hj).1)
      clear o3 g3 OW HH A1 BM NX
      go_wp2
      go_roundw
      case rel => exact ⟨q + 1, by first | rw [R1.out] | go_num, HQ, O3, L3⟩
      case measure => simp [intOf]; omega
    · have h' : ¬ (r : Int) ≤ 16 := by have := hq.out; omega
      obtain rfl : q = 16 := by have := hq.out; omega
      subst hr
      have OWN := Lib.hid own.out
      have LOW := Lib.hid low.out
      clear hq own low h qb rb OW0 L1
      rename World => wB
      obtain ⟨-, p1, c1, rfl, hk1, -⟩ := ownK OWN.out
      have HK1 := Lib.hid hk1
      clear hk1
      have N0 : ¬ zeroK (listK 16) := not_zero (by decide)
      have NT : ¬ twiceK (listK 16) := not_twice (by decide)
      go_wp2_with fail
      refine (pnew_any wB p1 16 c1 (listK 16) HK1.out (listK_ok 16 (by decide)) (by decide)).mono ?_; intro e1 w2 r1
      obtain ⟨T, b, nD, D, rfl, hT, hD, tD, bT, bb, l2⟩ := pnew_ok r1 N0 NT (by decide)
      have L2 : Hid (Below w.heap.size w w2) := LOW.out.trans (l2.mono LOW.out.size)
      have OW : Hid ((w2.alloc (.cells #[.int .u32 99, .int .u64 0, .int .u64 0] 25)).ownsRow w.heap.size 25 3 (.slice p1 16 c1) 16 (cellsK (listK 16))) := World.ownsRow.alloc (own_keep OWN.out l2) _
      have A1 : Hid (Below w.heap.size w (w2.alloc (.cells #[.int .u32 99, .int .u64 0, .int .u64 0] 25))) := L2.out.alloc L2.out.size _
      have HH : Hid (HoldsK (w2.alloc (.cells #[.int .u32 99, .int .u64 0, .int .u64 0] 25)) (some ⟨w2.heap.size, 0, none⟩) 1 1 [⟨99, 0, 0⟩]) := litK [⟨99, 0, 0⟩] (heap_alloc_new w2 _) rfl rfl (by decide)
      have TG : Hid (∀ w3, (w2.alloc (.cells #[.int .u32 99, .int .u64 0, .int .u64 0] 25)).grownBy w3 (Value.slice p1 16 c1).ownBlock → TabAt w3 T (listK 16)) := fun w3 g => tabAt_of hT hD tD NT fun i hi ho => by
        have ni : some i ≠ (Value.slice p1 16 c1).ownBlock := fun e => by
          have := (World.ownsRow.lt OWN.out i e.symm).2
          rcases ho with rfl | rfl <;> omega
        have l : Below w2.heap.size w2 (w2.alloc (.cells #[.int .u32 99, .int .u64 0, .int .u64 0] 25)) := (Below.refl _ _).alloc (Nat.le_refl _) _
        rw [g.block i (by rw [World.size_alloc]; omega) ni, l.block i hi]
      clear r1 hT hD tD bT bb l2 OWN N0 NT HK1 LOW L2
      go_wp2_with (at_builtin; refine append_keys rfl _ _ rfl w.heap.size _ 16 (listK 16) rfl OW.out (some ⟨w2.heap.size, 0, none⟩) 1 1 [⟨99, 0, 0⟩] rfl HH.out (by decide) A1.out.size ?_)
      intro v3 w3 o3 g3
      have L3 : Hid (Below w.heap.size w w3) := A1.out.grown g3 A1.out.size (fun j hj => (World.ownsRow.lt OW.out j hj).1)
      have TA := Lib.hid (TG.out w3 g3)
      obtain ⟨-, p4, c4, rfl, hk4, -⟩ := ownK o3
      have K4 := Lib.hid hk4
      clear o3 g3 OW HH A1 TG hk4
      go_wp2_with fail
      refine (pnew_any w3 p4 17 c4 (listK 16 ++ [⟨99, 0, 0⟩]) K4.out (by decide) (by decide)).mono ?_; intro e1 w5 r1
      obtain ⟨rfl, l5⟩ := pnew_full r1 (not_zero (by decide)) (not_twice (by decide)) (by decide)
      have L5 : Hid (Below w.heap.size w w5) := L3.out.trans (l5.mono L3.out.size)
      have T5 := Lib.hid (TA.out.below l5)
      clear r1 l5 K4 TA L3
      have LA5 : Hid (Below w5.heap.size w5 (w5.alloc (.cells #[.int .u32 1, .int .u64 0, .int .u64 0, .int .u32 2, .int .u64 0, .int .u64 0, .int .u32 1, .int .u64 0, .int .u64 0] 25))) := (Below.refl _ _).alloc (Nat.le_refl _) _
      have K6 : Hid (HoldsK (w5.alloc (.cells #[.int .u32 1, .int .u64 0, .int .u64 0, .int .u32 2, .int .u64 0, .int .u64 0, .int .u32 1, .int .u64 0, .int .u64 0] 25)) (some ⟨w5.heap.size, 0, none⟩) 3 3 [⟨1, 0, 0⟩, ⟨2, 0, 0⟩, ⟨1, 0, 0⟩]) := litK [⟨1, 0, 0⟩, ⟨2, 0, 0⟩, ⟨1, 0, 0⟩] (heap_alloc_new w5 _) rfl rfl (by decide)
      go_wp2_with fail
      refine (pnew_any _ _ 3 3 [⟨1, 0, 0⟩, ⟨2, 0, 0⟩, ⟨1, 0, 0⟩] K6.out (by decide) (by decide)).mono ?_; intro e1 w6 r1
      obtain ⟨rfl, l6⟩ := pnew_there r1 (not_zero (by decide)) ⟨2, 0, _, _, by decide, rfl, rfl, rfl⟩
      have l56 := LA5.out.trans (l6.mono LA5.out.size)
      have L6 : Hid (Below w.heap.size w w6) := L5.out.trans (l56.mono L5.out.size)
      have T6 := Lib.hid (T5.out.below l56)
      clear r1 l6 K6 LA5 l56 L5 T5
      have LA6 : Hid (Below w6.heap.size w6 (w6.alloc (.cells #[.int .u32 1, .int .u64 0, .int .u64 0, .int .u32 1, .int .u64 0, .int .u64 0, .int .u32 0, .int .u64 0, .int .u64 0] 25))) := (Below.refl _ _).alloc (Nat.le_refl _) _
      have K7 : Hid (HoldsK (w6.alloc (.cells #[.int .u32 1, .int .u64 0, .int .u64 0, .int .u32 1, .int .u64 0, .int .u64 0, .int .u32 0, .int .u64 0, .int .u64 0] 25)) (some ⟨w6.heap.size, 0, none⟩) 3 3 [⟨1, 0, 0⟩, ⟨1, 0, 0⟩, ⟨0, 0, 0⟩]) := litK [⟨1, 0, 0⟩, ⟨1, 0, 0⟩, ⟨0, 0, 0⟩] (heap_alloc_new w6 _) rfl rfl (by decide)
      go_wp2_with fail
      refine (pnew_any _ _ 3 3 [⟨1, 0, 0⟩, ⟨1, 0, 0⟩, ⟨0, 0, 0⟩] K7.out (by decide) (by decide)).mono ?_; intro e1 w7 r1
      obtain ⟨rfl, l7⟩ := pnew_arg r1 ⟨⟨0, 0, 0⟩, by decide, rfl⟩
      have l67 := LA6.out.trans (l7.mono LA6.out.size)
      have L7 : Hid (Below w.heap.size w w7) := L6.out.trans (l67.mono L6.out.size)
      have T7 := Lib.hid (T6.out.below l67)
      clear r1 l7 K7 LA6 l67 L6 T6
      go_wp2_with fail
      refine (pnew_any w7 none 0 0 [] (holdsK_none w7) (by decide) (by decide)).mono ?_; intro e1 w8 r1
      obtain ⟨U, ub, un, uD, rfl, hU, hE, tE, -, -, l8⟩ := pnew_ok r1 (not_zero (by decide)) twiceK_nil (by decide)
      have L8 : Hid (Below w.heap.size w w8) := L7.out.trans (l8.mono L7.out.size)
      have T8 := Lib.hid (T7.out.below l8)
      have U8 : Hid (TabAt w8 U []) := ⟨⟨ub, un, uD, hU, hE, tE⟩, twiceK_nil⟩
      clear r1 l8 hU hE tE T7 L7
      go_wp2_with fail
      refine (pfind_any w8 T 16 (listK 16) T8.out (by decide)).mono ?_; rintro e w9 ⟨rfl, l9⟩
      rw [show findK (listK 16) 16 = some ⟨16, 16, 0⟩ by decide]
      simp only [Option.getD_some, Option.isSome_some]
      rw [show keyV ⟨16, 16, 0⟩ = .agg #[.int .u32 16, .int .u64 16, .int .u64 0] from rfl]
      have LA9 := l9.alloc l9.size (.cells #[.int .u32 16, .int .u64 16, .int .u64 0] 25)
      have L9 : Hid (Below w.heap.size w (w9.alloc (.cells #[.int .u32 16, .int .u64 16, .int .u64 0] 25))) := L8.out.trans (LA9.mono L8.out.size)
      have T9 := Lib.hid (T8.out.below LA9)
      have U9 := Lib.hid (U8.out.below LA9)
      have KB := Lib.hid (heap_alloc_new w9 (.cells #[.int .u32 16, .int .u64 16, .int .u64 0] 25))
      obtain ⟨N, hN⟩ : ∃ N, N = w9.heap.size := ⟨_, rfl⟩
      clear l9 LA9 T8 U8 L8
      go_upto_region 14 with (fail)
      rw [← hN] at KB ⊢
      clear hN
      generalize w9.alloc (.cells #[.int .u32 16, .int .u64 16, .int .u64 0] 25) = w9' at *
      go_wp2_with fail
      refine (pfind_any w9' T 17 (listK 16) T9.out (by decide)).mono ?_; rintro e w10 ⟨rfl, l10⟩
      rw [show findK (listK 16) 17 = none by decide]
      simp only [Option.getD_none, Option.isSome_none]
      rw [show keyV ⟨0, 0, 0⟩ = .agg #[.int .u32 0, .int .u64 0, .int .u64 0] from rfl]
      have LA10 := l10.alloc l10.size (.cells #[.int .u32 0, .int .u64 0, .int .u64 0] 25)
      have L10 : Hid (Below w.heap.size w (w10.alloc (.cells #[.int .u32 0, .int .u64 0, .int .u64 0] 25))) := L9.out.trans (LA10.mono L9.out.size)
      have T10 := Lib.hid (T9.out.below LA10)
      have U10 := Lib.hid (U9.out.below LA10)
      have KC := Lib.hid ((LA10.block N (Array.getElem?_eq_some_iff.1 KB.out).1).trans KB.out)
      clear l10 LA10 T9 U9 L9 KB
      go_upto_region 15 with (fail)
      generalize w10.alloc (.cells #[.int .u32 0, .int .u64 0, .int .u64 0] 25) = wC at *
      go_wp2_with fail
      refine (plen_none wC).mono ?_; rintro e z1 ⟨rfl, l1⟩
      have M1 : Hid (Below w.heap.size w z1) := L10.out.trans (l1.mono L10.out.size)
      have T11 := Lib.hid (T10.out.below l1)
      have U11 := Lib.hid (U10.out.below l1)
      have KD := Lib.hid ((l1.block N (Array.getElem?_eq_some_iff.1 KC.out).1).trans KC.out)
      clear l1 T10 U10 L10 KC
      go_wp2_with fail
      refine (plen_any z1 T (listK 16) T11.out).mono ?_; rintro e z2 ⟨rfl, l1⟩
      rw [show ((listK 16).length : Int) = 16 from rfl]
      have M2 : Hid (Below w.heap.size w z2) := M1.out.trans (l1.mono M1.out.size)
      have U12 := Lib.hid (U11.out.below l1)
      have KE := Lib.hid ((l1.block N (Array.getElem?_eq_some_iff.1 KD.out).1).trans KD.out)
      clear l1 T11 U11 M1 KD
      go_wp2_with fail
      refine (plen_any z2 U [] U12.out).mono ?_; rintro e z3 ⟨rfl, l1⟩
      rw [show (([] : List Ky).length : Int) = 0 from rfl]
      have M3 : Hid (Below w.heap.size w z3) := M2.out.trans (l1.mono M2.out.size)
      have KF := Lib.hid ((l1.block N (Array.getElem?_eq_some_iff.1 KE.out).1).trans KE.out)
      have cA := blk_cell (o := 1) KF.out
      clear l1 U12 M2 KE
      go_wp2_with fail
      refine (known6_any z3).mono ?_; rintro e z4 ⟨rfl, l1⟩
      have M4 : Hid (Below w.heap.size w z4) := M3.out.trans (l1.mono M3.out.size)
      clear l1 M3 KF cA
      go_wp2_with fail
      refine (counting6_any z4 7 (by decide)).mono ?_; rintro e z5 ⟨v7, rfl, o7, l1⟩
      obtain ⟨pa, ca, rfl, h7⟩ := own_holds o7
      have M5 : Hid (Below w.heap.size w z5) := M4.out.trans (l1.mono M4.out.size)
      have H7 := Lib.hid h7
      clear l1 M4 o7 h7
      go_wp2_with fail
      refine (counting6_any z5 15 (by decide)).mono ?_; rintro e z6 ⟨v15, rfl, o15, l1⟩
      obtain ⟨pb, cb, rfl, h15⟩ := own_holds o15
      have M6 : Hid (Below w.heap.size w z6) := M5.out.trans (l1.mono M5.out.size)
      have H7' := Lib.hid (H7.out.below l1)
      have cb15 := h15.cap
      obtain ⟨ab, eb, -⟩ := h15.atN (i := 0) (by decide)
      subst eb
      have PC := bytes_piece h15 7 15 (by decide) (by decide)
      rw [if_neg (by omega), Option.map_some, show ab.add 7 = ⟨ab.block, ab.off + 7, none⟩ by unfold Addr.add; simp, show (15 - 7 : Nat) = 8 from rfl] at PC
      have HC := Lib.hid PC
      have c7 : (7 : Int) ≤ (cb : Int) := by omega
      have c7' : ¬ cb = 7 := by omega
      have FG : Hid (FactG z6 kyC.a kyC.b kyC.id #[.slice pa 7 ca, .slice (some ⟨ab.block, ab.off + 7, none⟩) 8 (cb - 7)] 2 11613035633349379557) :=
        ⟨[⟨pa, 7, ca, List.range 7⟩, ⟨some ⟨ab.block, ab.off + 7, none⟩, 8, cb - 7, ((List.range 15).drop 7).take 8⟩], kyC_ok, rfl, rfl, by decide, (fun q hq => by
          rcases List.mem_cons.1 hq with rfl | hq
          · exact ⟨H7'.out, (by decide : Byt (List.range 7))⟩
          · obtain rfl := List.mem_singleton.1 hq
            exact ⟨HC.out, (by decide : Byt (((List.range 15).drop 7).take 8))⟩), (by simp [totalP]), by
          rw [show joinP [(⟨pa, 7, ca, List.range 7⟩ : Prt), ⟨some ⟨ab.block, ab.off + 7, none⟩, 8, cb - 7, ((List.range 15).drop 7).take 8⟩] = List.range 15 from rfl, tag_row15]⟩
      clear l1 M5 o15 h15 H7 PC cb15 H7' HC
      go_wp2_with fail
      refine (fact_tag tag_code (V := z6) ((Below.refl _ _).alloc (Nat.le_refl _) _) (heap_alloc_new _ _) FG.out).mono ?_; rintro e z7 ⟨rfl, l1, -⟩
      have M7 : Hid (Below w.heap.size w z7) := M6.out.trans (l1.mono M6.out.size)
      clear l1 M6 FG
      go_wp2_with fail
      refine (wakes6_any tag_code _).mono ?_; rintro e z8 ⟨rfl, l1⟩
      have M8 := Lib.hid (M7.out.trans (l1.mono M7.out.size))
      go_wp2
      go_ret
      exact ⟨rfl, M8.out⟩
end Go.Proofs.Ytkojgegfmhoomaa
