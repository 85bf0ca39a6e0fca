/- Layer 6's laws: what is asked of the program's mac, and the chapter's rows. -/
import Derived.Test.YtkojgegfmhoomaaMacH
import Derived.Test.YtkojgegfmhoomaaMacD
import Derived.Test.YtkojgegfmhoomaaFrameT
namespace Go.Proofs.Ytkojgegfmhoomaa
open Go.ChangeShapes Go.WideShapes Go.ChangeAt Go.RowKit OctM

/-- What the program's mac tells. -/
structure TagCode : Prop where
  tag : ∀ (w : World) (k : Ky) (p : Option Addr) (n c : Nat) (ps : List Prt), KeyOk k → HoldsP w p n c ps → (∀ q ∈ ps, Byt q.ds) → n ≤ 1000 → totalP ps ≤ 2000000 →
    Calls Try.prog 10 #[keyV k, .slice p n c] w fun e w' => e = .returned (.int .u64 (tagN k.a k.b (joinP ps) : Nat)) ∧ Below w.heap.size w w'
  right : ∀ (w : World) (k : Ky) (t : Nat) (p : Option Addr) (n c : Nat) (ps : List Prt), KeyOk k → W64 t → HoldsP w p n c ps → (∀ q ∈ ps, Byt q.ds) → n ≤ 1000 → totalP ps ≤ 2000000 →
    Calls Try.prog 11 #[keyV k, .int .u64 (t : Nat), .slice p n c] w fun e w' => e = .returned (.bool (decide (tagN k.a k.b (joinP ps) = t))) ∧ Below w.heap.size w w'

theorem holdsP_none (w : World) : HoldsP w none 0 0 [] := ⟨rfl, Nat.le_refl _, Nat.zero_le _, fun _ => rfl, fun i q hq => by simp at hq⟩
/-- A literal's block of slices. -/
theorem litP {w : World} {N n : Nat} {cs : Array Value} {T : TypeId} (ps : List Prt) (h : w.heap[N]? = some (.cells cs T (0, 0))) (hc : cs.toList = ps.map fun q => .slice q.p q.n q.c) (hn : ps.length = n)
    (hh : ∀ q ∈ ps, Holds w q.p q.n q.c (valsN .u8 q.ds)) (hm : n ≤ maxLen) : HoldsP w (some ⟨N, 0, none⟩) n n ps := by
  refine ⟨hn, Nat.le_refl _, hm, (fun e => by cases e), fun i q hq => ⟨_, rfl, ?_, hh q (List.mem_of_getElem? hq)⟩⟩
  have hadd : (⟨N, 0, none⟩ : Addr).add i = ⟨N, i, none⟩ := by unfold Addr.add; split <;> simp_all
  rw [hadd, blk_cell h, ← Array.getElem?_toList, hc, List.getElem?_map, hq]
  rfl

theorem tag_row0 : tagN kyC.a kyC.b [] = 0x726fdb47dd0e0e31 := by decide +kernel
theorem tag_row15 : tagN kyC.a kyC.b (List.range 15) = 0xa129ca6149be45e5 := by decide +kernel
theorem kyC_ok : KeyOk kyC := by unfold KeyOk kyC; decide

theorem tag_at (H : TagCode) (w : World) (k : Ky) (p : Option Addr) (n c : Nat) (ps : List Prt) (V : Int) (hk : KeyOk k) (hp : HoldsP w p n c ps) (hy : ∀ q ∈ ps, Byt q.ds) (hn : n ≤ 1000) (ht : totalP ps ≤ 2000000) (hV : (tagN k.a k.b (joinP ps) : Nat) = V) :
    Calls Try.prog 10 #[keyV k, .slice p n c] w fun e w' => e = .returned (.int .u64 V) ∧ Below w.heap.size w w' := by
  rw [← hV]; exact H.tag w k p n c ps hk hp hy hn ht
theorem right_at (H : TagCode) (w : World) (k : Ky) (t : Nat) (p : Option Addr) (n c : Nat) (ps : List Prt) (B : Bool) (hk : KeyOk k) (h64 : W64 t) (hp : HoldsP w p n c ps) (hy : ∀ q ∈ ps, Byt q.ds) (hn : n ≤ 1000) (ht : totalP ps ≤ 2000000) (hB : decide (tagN k.a k.b (joinP ps) = t) = B) :
    Calls Try.prog 11 #[keyV k, .int .u64 (t : Nat), .slice p n c] w fun e w' => e = .returned (.bool B) ∧ Below w.heap.size w w' := by
  rw [← hB]; exact H.right w k t p n c ps hk h64 hp hy hn ht

set_option maxRecDepth 100000 in
theorem wakes6_any (H : TagCode) (w : World) : Calls Try.prog 12 #[] w fun e w' => e = .returned (.bool true) ∧ Below w.heap.size w w' := by
  go_enter Try.func12, Try.ntmps12
  go_wp2_with fail
  refine (known6_any w).mono ?_
  rintro e w1 ⟨rfl, l1⟩
  have L1 := Lib.hid l1
  clear l1
  go_wp2_with fail
  refine (tag_at H w1 kyC none 0 0 [] 8246050544436514353 kyC_ok (holdsP_none w1) (fun q hq => by cases hq) (by decide) (by decide) (by rw [show joinP [] = [] from rfl, tag_row0]; rfl)).mono ?_
  rintro e w2 ⟨rfl, l2⟩
  have L2 : Hid (Below w.heap.size w w2) := L1.out.trans (l2.mono L1.out.size)
  clear l2 L1
  go_wp2_with fail
  refine (known6_any w2).mono ?_
  rintro e w3 ⟨rfl, l3⟩
  have L3 : Hid (Below w.heap.size w w3) := L2.out.trans (l3.mono L2.out.size)
  clear l3 L2
  go_wp2_with fail
  refine (counting6_any w3 15 (by decide)).mono ?_
  rintro e w4 ⟨v, rfl, o4, l4⟩
  have L4 : Hid (Below w.heap.size w w4) := L3.out.trans (l4.mono L3.out.size)
  obtain ⟨p, c, rfl, h4⟩ := own_holds o4
  have HP : Hid (HoldsP (w4.alloc (.cells #[.slice p 15 c] 28)) (some ⟨w4.heap.size, 0, none⟩) 1 1 [⟨p, 15, c, List.range 15⟩]) :=
    litP [⟨p, 15, c, List.range 15⟩] (heap_alloc_new w4 _) rfl rfl (fun q hq => by obtain rfl := List.mem_singleton.1 hq; exact h4.below ((Below.refl _ _).alloc (Nat.le_refl _) _)) (by decide)
  have LA : Hid (Below w.heap.size w (w4.alloc (.cells #[.slice p 15 c] 28))) := L4.out.alloc L4.out.size _
  clear l4 o4 h4 L4 L3
  go_wp2_with fail
  refine (tag_at H _ kyC _ 1 1 [⟨p, 15, c, List.range 15⟩] 11613035633349379557 kyC_ok HP.out (fun q hq => by obtain rfl := List.mem_singleton.1 hq; exact (by decide : Byt (List.range 15))) (by decide) (by simp [totalP]) (by rw [show joinP [(⟨p, 15, c, List.range 15⟩ : Prt)] = List.range 15 by simp [joinP], tag_row15]; rfl)).mono ?_
  rintro e w5 ⟨rfl, l5⟩
  have L5 : Hid (Below w.heap.size w w5) := LA.out.trans (l5.mono LA.out.size)
  clear l5 LA HP
  go_wp2_with fail
  go_ret
  exact ⟨rfl, L5.out⟩
end Go.Proofs.Ytkojgegfmhoomaa
