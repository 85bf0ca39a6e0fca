/- Layer 7 (packet): the program's Right. (Written by wip/tools/genpktright.py.) -/
import Derived.Test.YtfnidehbibfclaaPktJ
set_option maxRecDepth 100000
namespace Go.Proofs.Ytfnidehbibfclaa
open Go.ChangeShapes Go.WideShapes Go.ChangeAt Go.RowKit OctM

attribute [local go_sem ↓] loadP_eq storeP_eq boxP_eq allocP_eq zeroP_eq zeroP_eq'

def SaidB (w : World) (b : Bool) (e : Ending) (w' : World) : Prop := e = .returned (.bool b) ∧ Below w.heap.size w w'

set_option maxHeartbeats 8000000 in
theorem pright7_any (w : World) (h : Hd) (x : Xt) (fs : List Fld) (k : Pak) (q : Ky) (I : Pk w h x fs k) (hq : KeyOk q) :
    Calls Try.prog 20 #[pkV h x, keyV q] w (SaidB w (decide (rightP k q))) := by
  have bx := box_pk h x
  have az := alloc_pk
  have B1 : Hid (((w.alloc (.cells (pkC h x) 27)).alloc (.cells #[.int .u32 (q.id : Nat), .int .u64 (q.a : Nat), .int .u64 (q.b : Nat)] 29)).heap[w.heap.size]? = some (.cells (pkC h x) 27 (0, 0))) := heap_alloc2_old w _ _
  have B2 : Hid (((w.alloc (.cells (pkC h x) 27)).alloc (.cells #[.int .u32 (q.id : Nat), .int .u64 (q.a : Nat), .int .u64 (q.b : Nat)] 29)).heap[w.heap.size + 1]? = some (.cells #[.int .u32 (q.id : Nat), .int .u64 (q.a : Nat), .int .u64 (q.b : Nat)] 29 (0, 0))) := heap_alloc2_new w _ _
  have L0 : Hid (Below w.heap.size w ((w.alloc (.cells (pkC h x) 27)).alloc (.cells #[.int .u32 (q.id : Nat), .int .u64 (q.a : Nat), .int .u64 (q.b : Nat)] 29))) := ((Below.refl _ _).alloc (Nat.le_refl _) _).alloc (by simp) _
  have LD := load_pk B1.out
  have RS := pput7_any ((w.alloc (.cells (pkC h x) 27)).alloc (.cells #[.int .u32 (q.id : Nat), .int .u64 (q.a : Nat), .int .u64 (q.b : Nat)] 29)) h x fs k (I.below L0.out)
  replace RS := Lib.hid RS
  have e1 : k.sg = x.sg := by rw [I.e]
  have e2 : k.ky = x.ky := by rw [I.e]
  have e3 : k.tg = x.tg := by rw [I.e]
  have EV : Hid (decide (rightP k q) = (decide (putE7 k = 0) && x.sg && decide (x.ky = q.id) && decide (tagP k q = x.tg))) := by
    unfold Hid
    rw [Bool.eq_iff_iff]
    simp only [Bool.and_eq_true, decide_eq_true_eq]
    unfold rightP
    rw [e1, e2, e3]
    simp only [and_assoc]
  rw [EV.out]
  have PD := @putD_ok k
  have PM := @putE_may k
  have OK := I.ok
  have HQ := Lib.hid hq
  generalize putE7 k = E at *
  clear I hq EV e2 e3
  unfold keyV
  go_enter Try.func20, Try.ntmps20
  go_wp2_with fail
  generalize ((w.alloc (.cells (pkC h x) 27)).alloc (.cells #[.int .u32 (q.id : Nat), .int .u64 (q.a : Nat), .int .u64 (q.b : Nat)] 29)) = v at *
  refine RS.out.mono ?_; rintro e w2 ⟨pb, cb, rfl, nb, l2⟩
  have C1 := Lib.hid (pk_keep B1.out l2)
  have C2 := Lib.hid (pk_keep B2.out l2)
  have L2 : Hid (Below w.heap.size w w2) := L0.out.trans (l2.mono L0.out.size)
  have NB := Lib.hid nb.holds
  obtain ⟨-, c14, c15, c16⟩ := pk_at C1.out
  have k0 := blk_cell (o := 0) C2.out
  have k1 := blk_cell (o := 1) C2.out
  have k2 := blk_cell (o := 2) C2.out
  simp only [List.getElem?_toArray, List.getElem?_cons_zero, List.getElem?_cons_succ] at k0 k1 k2
  clear l2 nb LD RS B1 B2 L0
  by_cases g : E = 0
  case neg =>
    have g1 : ((E : Int) != 0) = true := by rw [bne_iff_ne]; omega
    have g2 : ((E : Int) == 0) = false := by rw [beq_eq_false_iff_ne]; omega
    have g3 : ¬ (E : Int) = 0 := by omega
    have NO : Hid (decide (E = 0) = false) := decide_eq_false g
    clear g PD PM OK NB e1
    go_wp2_with fail
    go_region
    all_goals
      go_wp2
      go_ret
      exact ⟨ret_bool (by rw [NO.out]; rfl), L2.out.drew⟩
  subst g
  obtain ⟨m, m512⟩ := PM rfl
  have pd := PD rfl
  clear PM PD
  rcases hsg : x.sg with _ | _
  · rw [hsg] at c14
    clear NB m m512 pd e1 OK
    go_wp2_with fail
    go_region
    all_goals
      go_wp2
      go_ret
      exact ⟨ret_bool (by rw [hsg]; simp), L2.out.drew⟩
  by_cases gk : x.ky = q.id
  case neg =>
    have NO : Hid (decide (x.ky = q.id) = false) := decide_eq_false gk
    have i0 : ¬ (x.ky : Int) = (q.id : Int) := by omega
    have i1 : ((x.ky : Int) == (q.id : Int)) = false := by rw [beq_eq_false_iff_ne]; exact i0
    rw [hsg] at c14
    clear NB m m512 pd e1 OK gk
    go_wp2_with fail
    go_region
    all_goals
      go_wp2
      go_ret
      exact ⟨ret_bool (by rw [NO.out]; simp), L2.out.drew⟩
  rw [hsg] at c14 e1
  have YES : Hid (decide (x.ky = q.id) = true) := decide_eq_true gk
  rw [gk] at c15
  have BD : Byt (bodyP k) := body_byt m.2.1 OK
  have bn : (bodyP k).length ≤ 2000000 := by rw [body_len]; have := fields_le m.2.1; omega
  have ln : (putD7 k).length = (bodyP k).length + 12 := by rw [pd]; unfold bytesP; rw [List.length_append, seal_len, e1]; rfl
  have HB : Hid (Holds w2 pb (bodyP k).length cb (valsN .u8 (bodyP k))) := by
    have h0 := holdsN_take (k := (bodyP k).length) NB.out (by omega)
    have e0 : (putD7 k).take (bodyP k).length = bodyP k := by
      rw [pd]
      unfold bytesP
      rw [List.take_append_of_le_length (Nat.le_refl _), List.take_of_length_le (Nat.le_refl _)]
    rw [e0] at h0
    exact h0
  have BO : Hid (∀ w', Calls Try.prog 35 #[.slice pb (putD7 k).length cb] w' fun e w4 => e = .returned (.slice pb (bodyP k).length cb) ∧ w' = w4) := fun w' => pbody7_any w' pb _ cb _ ln NB.out.cap NB.out.max
  obtain ⟨t, ht⟩ : ∃ t, tagP k q = t := ⟨_, rfl⟩
  have RT : Hid (∀ w' N, Below w2.heap.size w2 w' → w'.heap[N]? = some (.cells #[.slice pb (bodyP k).length cb] 31 (0, 0)) → Calls Try.prog 46 #[.agg #[.int .u32 (q.id : Nat), .int .u64 (q.a : Nat), .int .u64 (q.b : Nat)], .int .u64 (x.tg : Nat), .slice (some ⟨N, 0, none⟩) 1 1] w' fun e w4 => e = .returned (.bool (decide (t = x.tg))) ∧ Below w2.heap.size w2 w4) := fun w' N la hN => by
    refine (pright_any w' q x.tg _ 1 1 [⟨pb, (bodyP k).length, cb, bodyP k⟩] HQ.out (litP _ hN rfl rfl (fun q hq => by obtain rfl := List.mem_singleton.1 hq; exact HB.out.below la) (by decide)) (fun q hq => by obtain rfl := List.mem_singleton.1 hq; exact BD) (by decide) (by simpa [totalP] using bn)).mono ?_
    rintro e w4 ⟨rfl, l4⟩
    refine ⟨by rw [← ht, show joinP [(⟨pb, (bodyP k).length, cb, bodyP k⟩ : Prt)] = bodyP k by simp [joinP]]; rfl, la.trans (l4.mono la.size)⟩
  have HT := Lib.hid ht
  clear m m512 pd BD bn ht HQ NB HB e1 gk OK
  generalize (putD7 k).length = PL at *
  generalize (bodyP k).length = BL at *
  clear ln
  have HB0 : Below w2.heap.size w2 w2 := Below.refl _ _
  have KK : Hid (∀ w', Below w2.heap.size w2 w' → w'.cell? ⟨w.heap.size + 1, 0, none⟩ = some (.int .u32 (q.id : Nat)) ∧ w'.cell? ⟨w.heap.size + 1, 1, none⟩ = some (.int .u64 (q.a : Nat)) ∧ w'.cell? ⟨w.heap.size + 1, 2, none⟩ = some (.int .u64 (q.b : Nat)) ∧ w'.cell? ⟨w.heap.size, 14, none⟩ = some (.bool true) ∧ w'.cell? ⟨w.heap.size, 15, none⟩ = some (.int .u32 (q.id : Nat)) ∧ w'.cell? ⟨w.heap.size, 16, none⟩ = some (.int .u64 (x.tg : Nat))) := fun w' hb => by
    exact ⟨(hb.cell (World.block_lt_of_cell? _ _ k0)).trans k0, (hb.cell (World.block_lt_of_cell? _ _ k1)).trans k1, (hb.cell (World.block_lt_of_cell? _ _ k2)).trans k2, (hb.cell (World.block_lt_of_cell? _ _ c14)).trans c14, (hb.cell (World.block_lt_of_cell? _ _ c15)).trans c15, (hb.cell (World.block_lt_of_cell? _ _ c16)).trans c16⟩
  go_wp2_with fail
  go_region_held3 (fun w' => w'.cell? ⟨w.heap.size + 1, 0, none⟩ = some (.int .u32 (q.id : Nat)) ∧ w'.cell? ⟨w.heap.size + 1, 1, none⟩ = some (.int .u64 (q.a : Nat)) ∧ w'.cell? ⟨w.heap.size + 1, 2, none⟩ = some (.int .u64 (q.b : Nat)) ∧ w'.cell? ⟨w.heap.size, 14, none⟩ = some (.bool true) ∧ w'.cell? ⟨w.heap.size, 15, none⟩ = some (.int .u32 (q.id : Nat)) ∧ w'.cell? ⟨w.heap.size, 16, none⟩ = some (.int .u64 (x.tg : Nat)))
    (first | exact KK.out _ HB0 | exact KK.out _ (HB0.alloc HB0.size _) | exact KK.out _ HB0.drew | exact KK.out _ (HB0.alloc HB0.size _).drew)
    (first
      | (go_at_call 35; refine (BO.out _).mono ?_; rintro e w4 ⟨rfl, rfl⟩)
      | (go_at_call 46; refine (RT.out _ _ (by first | exact (HB0.alloc HB0.size _).drew | exact HB0.alloc HB0.size _) (by exact heap_alloc_new _ _)).mono ?_; rintro e w5 ⟨rfl, l5⟩; have HB0 := l5; clear l5))
  all_goals
    have L9 := Lib.hid (L2.out.trans (HB0.mono L2.out.size))
    go_wp2
    go_ret
    exact ⟨ret_bool (by rw [YES.out, hsg, HT.out]; simp), L9.out⟩
end Go.Proofs.Ytfnidehbibfclaa
