/- Layer 4 (head): the program's Parse. -/
import Derived.Test.YtjjbalgonkphjaaHeadB
import Derived.StillTailTactics
namespace Go.Proofs.Ytjjbalgonkphjaa
open Go.ChangeShapes Go.WideShapes Go.ChangeAt Go.RowKit OctM

/-- a byte as a small number with a sign. -/
def s8 (n : Nat) : Int := if n < 128 then (n : Int) else (n : Int) - 256
theorem s8_wrap (n : Nat) (h : n < 256) : IntKind.i8.wrap (n : Int) = s8 n := by
  exact (by decide +kernel : ∀ n : Fin 256, IntKind.i8.wrap (n.val : Int) = s8 n.val) ⟨n, h⟩
/-- the head whose numbers these are. -/
def hdOf (f s a b de di ri rf og rc xm : Nat) : Hd := ⟨f / 64, f / 8 % 8, f % 8, s, s8 a, s8 b, de, di, ri, rf, og, rc, xm⟩
theorem and7 : ∀ n : Fin 256, bits .and .u8 (n.val : Int) 7 = ((n.val % 8 : Nat) : Int) := by decide +kernel

attribute [local go_sem ↓] loadP_eq storeP_eq boxP_eq allocP_eq
theorem ppacket_any (w : World) (p : Option Addr) (c : Nat) (f s a b de di ri rf og rc xm : Nat) (hx : Holds w p 11 c (valsN .u64 [f, s, a, b, de, di, ri, rf, og, rc, xm]))
    (b0 : f < 256) (b1 : s < 256) (b2 : a < 256) (b3 : b < 256) (b4 : de < 4294967296) (b5 : di < 4294967296) (b6 : ri < 4294967296) :
    Calls Try.prog 24 #[.slice p 11 c] w fun e w' => e = .returned (pkV (hdOf f s a b de di ri rf og rc xm) Xt.zero) ∧ Below w.heap.size w w' := by
  obtain ⟨ad, rfl, -⟩ := hx.atN (i := 0) (by omega)
  have bx := hx.below (w' := w.alloc (.cells (pkC Hd.zero Xt.zero) 27)) ((Below.refl _ _).alloc (Nat.le_refl _) _)
  have CE : ∀ i (hi : i < 11), (w.alloc (.cells (pkC Hd.zero Xt.zero) 27)).cell? (ad.add i) = some (.int .u64 ([f, s, a, b, de, di, ri, rf, og, rc, xm].getD i 0 : Nat)) := by
    intro i hi
    obtain ⟨a', e, h⟩ := bx.atN hi
    cases e
    exact h
  have c0 := CE 0 (by omega)
  have c1 := CE 1 (by omega)
  have c2 := CE 2 (by omega)
  have c3 := CE 3 (by omega)
  have c4 := CE 4 (by omega)
  have c5 := CE 5 (by omega)
  have c6 := CE 6 (by omega)
  have c7 := CE 7 (by omega)
  have c8 := CE 8 (by omega)
  have c9 := CE 9 (by omega)
  have c10 := CE 10 (by omega)
  simp only [List.getD_cons_zero, List.getD_cons_succ] at c0 c1 c2 c3 c4 c5 c6 c7 c8 c9 c10
  have H0 : Hid ((w.alloc (.cells (pkC Hd.zero Xt.zero) 27)).heap[w.heap.size]? = some (.cells (pkC Hd.zero Xt.zero) 27 (0, 0))) := heap_alloc_new w _
  have L0 : Hid (Below w.heap.size w (w.alloc (.cells (pkC Hd.zero Xt.zero) 27))) := (Below.refl _ _).alloc (Nat.le_refl _) _
  have c0' := c0
  rw [show ad.add 0 = ad from rfl] at c0'
  have al := alloc_pk
  obtain ⟨q6, h6⟩ : ∃ q, q = f / 64 := ⟨_, rfl⟩
  obtain ⟨q3, h3⟩ : ∃ q, q = f / 8 := ⟨_, rfl⟩
  obtain ⟨r3, hr⟩ : ∃ q, q = q3 % 8 := ⟨_, rfl⟩
  obtain ⟨m7, hm⟩ : ∃ q, q = f % 8 := ⟨_, rfl⟩
  obtain ⟨sa, hsa⟩ : ∃ q, q = s8 a := ⟨_, rfl⟩
  obtain ⟨sb, hsb⟩ : ∃ q, q = s8 b := ⟨_, rfl⟩
  have e1 := and7 ⟨f, b0⟩
  have e2 := and7 ⟨q3, by omega⟩
  have e3 := s8_wrap a b2
  have e4 := s8_wrap b b3
  have e5 : (f : Int) / 64 = (q6 : Int) := by omega
  have e6 : (f : Int) / 8 = (q3 : Int) := by omega
  simp only at e1 e2
  rw [← hm] at e1
  rw [← hr] at e2
  rw [← hsa] at e3
  rw [← hsb] at e4
  have eh : hdOf f s a b de di ri rf og rc xm = ⟨q6, r3, m7, s, sa, sb, de, di, ri, rf, og, rc, xm⟩ := by unfold hdOf; rw [← h3, ← h6, ← hr, ← hm, ← hsa, ← hsb]
  rw [eh]
  clear eh h6 h3 hr hm hsa hsb CE bx hx
  go_enter Try.func24, Try.ntmps24
  go_wp2_with fail
  generalize w.alloc (.cells (pkC Hd.zero Xt.zero) 27) = W at *
  have st : ∀ i, i ≠ 0 → ad.add i = ⟨ad.block, ad.off + i, none⟩ := fun i hi => by unfold Addr.add; rw [if_neg hi]
  rw [st 1 (by omega)] at c1
  rw [st 2 (by omega)] at c2
  rw [st 3 (by omega)] at c3
  rw [st 4 (by omega)] at c4
  rw [st 5 (by omega)] at c5
  rw [st 6 (by omega)] at c6
  rw [st 7 (by omega)] at c7
  rw [st 8 (by omega)] at c8
  rw [st 9 (by omega)] at c9
  rw [st 10 (by omega)] at c10
  clear st c0
  go_still_tail 44, (by kernel_rfl)
  change wpList _ _ _ _ _ W.drew
  have HV : W.drew.heap[w.heap.size]? = some (.cells (pkC Hd.zero Xt.zero) 27 (0, 0)) := H0.out
  have LV : Hid (Below w.heap.size w W.drew) := L0.out.drew
  generalize W.drew = V at *
  obtain ⟨C, hC⟩ : ∃ C, C = pkC ⟨q6, r3, m7, s, sa, sb, de, di, ri, rf, og, rc, xm⟩ Xt.zero := ⟨_, rfl⟩
  have SF : (storeP (.pointer (some ⟨w.heap.size, 0, none⟩)) (.agg #[.int .u8 (q6 : Int), .int .u8 (r3 : Int), .int .u8 (m7 : Int), .int .u8 (s : Int), .int .i8 sa, .int .i8 sb, .int .u32 (de : Int), .int .u32 (di : Int), .int .u32 (ri : Int), .int .u64 (rf : Int), .int .u64 (og : Int), .int .u64 (rc : Int), .int .u64 (xm : Int), .slice none 0 0, .bool false, .int .u32 0, .int .u64 0])).run Try.prog V = .ok () (V.setRow w.heap.size C) := by
    rw [hC]; exact store_pk ⟨q6, r3, m7, s, sa, sb, de, di, ri, rf, og, rc, xm⟩ Xt.zero HV rfl
  have FIN : Hid (Below w.heap.size w (V.setRow w.heap.size C)) := Below.setRow LV.out (Nat.le_refl _) C
  have HG : Hid ((V.setRow w.heap.size C).heap[w.heap.size]? = some (.cells C 27 (0, 0))) := setRow_heap _ _ _ _ _ _ HV
  replace HV := Lib.hid HV
  go_wp2
  rw [SF]
  go_wp2
  (try simp only [Exit.inBlock, Exit.then])
  subst hC
  refine bodyPost_ret (results_pk1 rfl _ _ w.heap.size _ Xt.zero rfl HG.out) rfl ?_
  exact ⟨rfl, FIN.out⟩
end Go.Proofs.Ytjjbalgonkphjaa
