/- Layer 8's laws: what the chapter's rows say. -/
import Derived.Test.YtggogcbmdillfaaDoorSaneC
import Derived.Test.YtggogcbmdillfaaDoorSaneD
set_option maxRecDepth 100000
namespace Go.Proofs.YtggogcbmdillfaaDoor
open Go.ChangeShapes Go.WideShapes Go.ChangeAt Go.RowKit OctM StampM SaneM

def goodH : Hd := ⟨0, 0, 4, 1, 0, 0, 65536, 32768, 0, 0, 0, 1, 1⟩
def kissH : Hd := ⟨0, 0, 4, 0, 0, 0, 0, 0, 1380013125, 0, 0, 0, 0⟩
def deepH : Hd := ⟨0, 0, 4, 16, 0, 0, 65536, 32768, 0, 0, 0, 1, 1⟩
def threeH : Hd := ⟨0, 0, 3, 0, 0, 0, 0, 0, 0, 0, 0, 0, 0⟩
theorem good_ex : pkV goodH Xt.zero = .agg #[.int .u8 0, .int .u8 0, .int .u8 4, .int .u8 1, .int .i8 0, .int .i8 0, .int .u32 65536, .int .u32 32768, .int .u32 0, .int .u64 0, .int .u64 0, .int .u64 1, .int .u64 1, .slice none 0 0, .bool false, .int .u32 0, .int .u64 0] := rfl
theorem kiss_ex : pkV kissH Xt.zero = .agg #[.int .u8 0, .int .u8 0, .int .u8 4, .int .u8 0, .int .i8 0, .int .i8 0, .int .u32 0, .int .u32 0, .int .u32 1380013125, .int .u64 0, .int .u64 0, .int .u64 0, .int .u64 0, .slice none 0 0, .bool false, .int .u32 0, .int .u64 0] := rfl
theorem three_ex : pkV threeH Xt.zero = .agg #[.int .u8 0, .int .u8 0, .int .u8 3, .int .u8 0, .int .i8 0, .int .i8 0, .int .u32 0, .int .u32 0, .int .u32 0, .int .u64 0, .int .u64 0, .int .u64 0, .int .u64 0, .slice none 0 0, .bool false, .int .u32 0, .int .u64 0] := rfl

/-- what is new since a world, its size under a letter. -/
theorem low_alloc {w v : World} {N : Nat} (hN : w.heap.size = N) (l : Below N w v) (o : Obj) : Below N w (v.alloc o) := by subst hN; exact l.alloc l.size _
theorem low_call {w v v' : World} {N : Nat} (hN : w.heap.size = N) (l : Below N w v) (o : Below v.heap.size v v') : Below N w v' := by subst hN; exact l.trans (o.mono l.size)
theorem low_size {w v : World} {N : Nat} (hN : w.heap.size = N) (l : Below N w v) : N ≤ v.heap.size := by subst hN; exact l.size

attribute [local go_sem ↓] loadP_eq storeP_eq boxP_eq allocP_eq eqlS_eq

set_option maxHeartbeats 4000000 in
theorem good8_any (w : World) : Calls Tryd.prog 17 #[] w fun e w' => e = .returned (pkV goodH Xt.zero) ∧ Below w.heap.size w w' := by
  have az := alloc_pk
  have SF := store_new w (pkC Hd.zero Xt.zero) goodH Xt.zero rfl
  rw [good_ex] at SF
  have G1 : Hid ((w.alloc (.cells (pkC goodH Xt.zero) 27)).heap[w.heap.size]? = some (.cells (pkC goodH Xt.zero) 27 (0, 0))) := heap_alloc_new w _
  have L0 : Hid (Below w.heap.size w (w.alloc (.cells (pkC goodH Xt.zero) 27))) := (Below.refl _ _).alloc (Nat.le_refl _) _
  go_enter Tryd.func17, Tryd.ntmps17
  go_wp2
  (try simp only [Exit.inBlock, Exit.then])
  refine bodyPost_ret (results_pk1 rfl _ _ w.heap.size goodH Xt.zero rfl G1.out) rfl ?_
  exact ⟨rfl, L0.out⟩

theorem kiss_rate : kissS 0 1380013125 = ⟨#[82, 65, 84, 69]⟩ := by decide +kernel
theorem act_rate : actS ⟨#[82, 65, 84, 69]⟩ = 1 := by decide +kernel
theorem t_three : testH threeH = 22 := by decide +kernel
theorem t_kiss : testH kissH = 23 := by decide +kernel
theorem t_good : testH goodH = 0 := by decide +kernel
theorem t_deep : testH deepH = 24 := by decide +kernel
theorem r_good : rhoN goodH.de goodH.di = 1000000000 := by decide +kernel

set_option maxHeartbeats 4000000 in
theorem alive8_any (w : World) : Calls Tryd.prog 16 #[] w fun e w' => e = .returned (.bool true) ∧ Below w.heap.size w w' := by
  have az := alloc_pk
  have SK : ∀ w : World, (storeP (.pointer (some ⟨w.heap.size, 0, none⟩)) (pkV kissH Xt.zero)).run Tryd.prog (w.alloc (.cells (pkC Hd.zero Xt.zero) 27)) = .ok () (w.alloc (.cells (pkC kissH Xt.zero) 27)) := fun w => store_new w (pkC Hd.zero Xt.zero) kissH Xt.zero rfl
  rw [kiss_ex] at SK
  have SG : ∀ w : World, (storeP (.pointer (some ⟨w.heap.size, 0, none⟩)) (pkV goodH Xt.zero)).run Tryd.prog (w.alloc (.cells (pkC Hd.zero Xt.zero) 27)) = .ok () (w.alloc (.cells (pkC goodH Xt.zero) 27)) := fun w => store_new w (pkC Hd.zero Xt.zero) goodH Xt.zero rfl
  have K1 : Hid ((w.alloc (.cells (pkC kissH Xt.zero) 27)).heap[w.heap.size]? = some (.cells (pkC kissH Xt.zero) 27 (0, 0))) := heap_alloc_new w _
  have L1 : Hid (Below w.heap.size w (w.alloc (.cells (pkC kissH Xt.zero) 27))) := (Below.refl _ _).alloc (Nat.le_refl _) _
  have LD := load_pk K1.out
  have PK := Lib.hid (fun w => pkiss8_any w kissH Xt.zero (by decide))
  rw [show kissS kissH.st kissH.ri = ⟨#[82, 65, 84, 69]⟩ from kiss_rate, show decide (kissH.st = 0) = true from rfl] at PK
  have PT := Lib.hid (fun w => ptest8_any w threeH Xt.zero (by decide) (by decide))
  rw [t_three] at PT
  have PTK := Lib.hid (fun w => ptest8_any w kissH Xt.zero (by decide) (by decide))
  rw [t_kiss] at PTK
  have PTG := Lib.hid (fun w => ptest8_any w goodH Xt.zero (by decide) (by decide))
  rw [t_good] at PTG
  have PTD := Lib.hid (fun w => ptest8_any w deepH Xt.zero (by decide) (by decide))
  rw [t_deep] at PTD
  have PR := Lib.hid (fun w => prho8_any w goodH Xt.zero (by decide) (by decide))
  rw [r_good] at PR
  have PA := Lib.hid (fun w => pact8_any w ⟨#[82, 65, 84, 69]⟩)
  rw [act_rate] at PA
  have EQ : ∀ w, (eqlS (.string ⟨#[82, 65, 84, 69]⟩) (.string ⟨#[82, 65, 84, 69]⟩)).run Tryd.prog w = .ok (.bool true) w := fun w => by rw [eql_any, decide_eq_true rfl]
  go_enter Tryd.func16, Tryd.ntmps16
  go_wp2_with fail
  refine (PK.out _).mono ?_; rintro e w1 ⟨rfl, l1⟩
  have K2 := Lib.hid (pk8_keep K1.out l1)
  have L2 : Hid (Below w.heap.size w w1) := L1.out.trans (l1.mono L1.out.size)
  clear l1 LD
  go_wp2_with fail
  refine (good8_any _).mono ?_; rintro e w2 ⟨rfl, l2⟩
  have K3 := Lib.hid (pk8_keep K2.out l2)
  have L3 : Hid (Below w.heap.size w w2) := L2.out.trans (l2.mono L2.out.size)
  clear l2 K2 L2 K1 L1
  have SGW := SG w2
  have G3 : Hid ((w2.alloc (.cells (pkC goodH Xt.zero) 27)).heap[w2.heap.size]? = some (.cells (pkC goodH Xt.zero) 27 (0, 0))) := heap_alloc_new w2 _
  have fr := blk_free (o := 3) G3.out
  have c3 := pk8_cell (v := .int .u8 1) G3.out 3 rfl
  have D4 : Hid ((w2.alloc (.cells (pkC deepH Xt.zero) 27)).heap[w2.heap.size]? = some (.cells (pkC deepH Xt.zero) 27 (0, 0))) := heap_alloc_new w2 _
  have AL : Below w2.heap.size w2 (w2.alloc (.cells (pkC deepH Xt.zero) 27)) := (Below.refl _ _).alloc (Nat.le_refl _) _
  have K4 := Lib.hid (pk8_keep K3.out AL)
  have L4 : Hid (Below w.heap.size w (w2.alloc (.cells (pkC deepH Xt.zero) 27))) := L3.out.trans (AL.mono L3.out.size)
  clear AL K3 L3
  go_wp2_with fail
  rw [show (pkC goodH Xt.zero).setIfInBounds 3 (.int .u8 16) = pkC deepH Xt.zero from rfl]
  generalize w2.alloc (.cells (pkC deepH Xt.zero) 27) = w3 at *
  generalize w2.heap.size = N at *
  clear SGW SG SK G3 fr c3
  refine (PT.out _).mono ?_; rintro e w4 ⟨rfl, l4⟩
  have K5 := Lib.hid (pk8_keep K4.out l4)
  have D5 := Lib.hid (pk8_keep D4.out l4)
  have L5 : Hid (Below w.heap.size w w4) := L4.out.trans (l4.mono L4.out.size)
  have LK := load_pk K5.out
  clear l4 K4 D4 L4 PT
  go_wp2_with fail
  refine (PTK.out _).mono ?_; rintro e w5 ⟨rfl, l5⟩
  have D6 := Lib.hid (pk8_keep D5.out l5)
  have L6 : Hid (Below w.heap.size w w5) := L5.out.trans (l5.mono L5.out.size)
  clear l5 K5 LK D5 L5 PTK
  go_wp2_with fail
  refine (PA.out _).mono ?_; rintro e w6 ⟨rfl, rfl⟩
  clear PA EQ
  go_wp2_with fail
  refine (good8_any _).mono ?_; rintro e w7 ⟨rfl, l7⟩
  have D7 := Lib.hid (pk8_keep D6.out l7)
  have L7 : Hid (Below w.heap.size w w7) := L6.out.trans (l7.mono L6.out.size)
  clear l7 D6 L6
  go_wp2_with fail
  refine (PTG.out _).mono ?_; rintro e w8 ⟨rfl, l8⟩
  have D8 := Lib.hid (pk8_keep D7.out l8)
  have L8 : Hid (Below w.heap.size w w8) := L7.out.trans (l8.mono L7.out.size)
  clear l8 D7 L7 PTG
  go_wp2_with fail
  refine (good8_any _).mono ?_; rintro e w9 ⟨rfl, l9⟩
  have D9 := Lib.hid (pk8_keep D8.out l9)
  have L9 : Hid (Below w.heap.size w w9) := L8.out.trans (l9.mono L8.out.size)
  clear l9 D8 L8
  go_wp2_with fail
  refine (PR.out _).mono ?_; rintro e wa ⟨rfl, la⟩
  have DA := Lib.hid (pk8_keep D9.out la)
  have LA : Hid (Below w.heap.size w wa) := L9.out.trans (la.mono L9.out.size)
  have LDA := load_pk DA.out
  clear la D9 L9 PR
  go_wp2_with fail
  refine (PTD.out _).mono ?_; rintro e wb ⟨rfl, lb⟩
  have LB : Hid (Below w.heap.size w wb) := LA.out.trans (lb.mono LA.out.size)
  clear lb LDA DA LA
  go_wp2
  go_ret
  exact ⟨rfl, LB.out⟩
end Go.Proofs.YtggogcbmdillfaaDoor
