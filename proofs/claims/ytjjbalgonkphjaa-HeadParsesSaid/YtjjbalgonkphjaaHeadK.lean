/- The document's own answers for layer 4 (head): Parse. -/
import Derived.Test.YtjjbalgonkphjaaHeadH
import Derived.Test.YtjjbalgonkphjaaHeadJ
namespace Go.Proofs.Ytjjbalgonkphjaa
open Go.ChangeShapes Go.WideShapes Go.ChangeAt Go.RowKit OctM

/-- What the walk asks of the 48 bytes. -/
structure HeadIn (w : World) (ad : Addr) (n c : Nat) (ds : List Nat) (z0 z1 z2 z3 q3 q6 ve m7 : Nat) (sa sb : Int) (x4 x5 x6 x7 x8 x9 x10 : Nat) : Prop where
  hd : ∀ X Y : Obj, Holds ((w.alloc X).alloc Y) (some ad) n c (valsN .u8 ds)
  hy : Byt ds
  h48 : 48 ≤ n
  hn : n ≤ 10000
  b0 : z0 < 256
  b1 : z1 < 256
  e3 : q3 = z0 / 8
  e6 : q6 = z0 / 64
  ev : ve = q3 % 8
  e7 : m7 = z0 % 8
  ea : IntKind.i8.wrap (z2 : Int) = sa
  eb : IntKind.i8.wrap (z3 : Int) = sb
  r4 : numN ((ds.drop 4).take 4) = x4
  r5 : numN ((ds.drop 8).take 4) = x5
  r6 : numN ((ds.drop 12).take 4) = x6
  r7 : numN ((ds.drop 16).take 8) = x7
  r8 : numN ((ds.drop 24).take 8) = x8
  r9 : numN ((ds.drop 32).take 8) = x9
  r10 : numN ((ds.drop 40).take 8) = x10
  c4 : x4 < 4294967296
  c5 : x5 < 4294967296
  c6 : x6 < 4294967296
  d0 : ∀ X Y : Obj, ((w.alloc X).alloc Y).cell? ad = some (.int .u8 (z0 : Nat))
  d1 : ∀ X Y : Obj, ((w.alloc X).alloc Y).cell? ⟨ad.block, ad.off + 1, none⟩ = some (.int .u8 (z1 : Nat))
  d2 : ∀ X Y : Obj, ((w.alloc X).alloc Y).cell? ⟨ad.block, ad.off + 2, none⟩ = some (.int .u8 (z2 : Nat))
  d3 : ∀ X Y : Obj, ((w.alloc X).alloc Y).cell? ⟨ad.block, ad.off + 3, none⟩ = some (.int .u8 (z3 : Nat))
  eh : hdP ds = ⟨q6, ve, m7, z1, sa, sb, x4, x5, x6, x7, x8, x9, x10⟩

theorem headIn {w : World} {p : Option Addr} {n c : Nat} {ds : List Nat} (hd : Holds w p n c (valsN .u8 ds)) (hy : Byt ds) (h48 : 48 ≤ n) (hn : n ≤ 10000) :
    ∃ ad z0 z1 z2 z3 q3 q6 ve m7 sa sb x4 x5 x6 x7 x8 x9 x10, p = some ad ∧ HeadIn w ad n c ds z0 z1 z2 z3 q3 q6 ve m7 sa sb x4 x5 x6 x7 x8 x9 x10 := by
  obtain ⟨ad, rfl, -⟩ := hd.atN (i := 0) (by omega)
  have l : ds.length = n := by have := hd.len; rwa [valsN_len] at this
  have bl : ∀ X Y : Obj, Below w.heap.size w ((w.alloc X).alloc Y) := fun X Y => ((Below.refl _ _).alloc (Nat.le_refl _) _).alloc (by simp) _
  have ce : ∀ i (hi : i < 48), ∀ X Y : Obj, ((w.alloc X).alloc Y).cell? (ad.add i) = some (.int .u8 (ds.getD i 0 : Nat)) := fun i hi X Y => by
    obtain ⟨a', e, h⟩ := (hd.below (bl X Y)).atN (i := i) (by omega)
    cases e
    exact h
  have one : ∀ i (hi : i < 4), numP ds i = ds.getD i 0 := fun i hi => by
    have : i = 0 ∨ i = 1 ∨ i = 2 ∨ i = 3 := by omega
    rcases this with rfl | rfl | rfl | rfl
    · rw [numP_place ds 0 0 1 (by decide) (by decide +kernel) rfl, numN_one ds 0 (by omega)]
    · rw [numP_place ds 1 1 1 (by decide) (by decide +kernel) rfl, numN_one ds 1 (by omega)]
    · rw [numP_place ds 2 2 1 (by decide) (by decide +kernel) rfl, numN_one ds 2 (by omega)]
    · rw [numP_place ds 3 3 1 (by decide) (by decide +kernel) rfl, numN_one ds 3 (by omega)]
  refine ⟨ad, numP ds 0, numP ds 1, numP ds 2, numP ds 3, _, _, _, _, s8 (numP ds 2), s8 (numP ds 3), numP ds 4, numP ds 5, numP ds 6, numP ds 7, numP ds 8, numP ds 9, numP ds 10, rfl,
    fun X Y => hd.below (bl X Y), hy, h48, hn, numP_b hy 0 1 (by decide) rfl _ (by decide), numP_b hy 1 1 (by decide) rfl _ (by decide), rfl, rfl, rfl, rfl, s8_wrap _ (numP_b hy 2 1 (by decide) rfl _ (by decide)), s8_wrap _ (numP_b hy 3 1 (by decide) rfl _ (by decide)),
    (numP_place ds 4 4 4 (by decide) (by decide +kernel) rfl).symm, (numP_place ds 5 8 4 (by decide) (by decide +kernel) rfl).symm, (numP_place ds 6 12 4 (by decide) (by decide +kernel) rfl).symm,
    (numP_place ds 7 16 8 (by decide) (by decide +kernel) rfl).symm, (numP_place ds 8 24 8 (by decide) (by decide +kernel) rfl).symm, (numP_place ds 9 32 8 (by decide) (by decide +kernel) rfl).symm, (numP_place ds 10 40 8 (by decide) (by decide +kernel) rfl).symm,
    numP_b hy 4 4 (by decide) rfl _ (by decide), numP_b hy 5 4 (by decide) rfl _ (by decide), numP_b hy 6 4 (by decide) rfl _ (by decide), ?_, ?_, ?_, ?_, rfl⟩
  · intro X Y; rw [one 0 (by omega)]; exact ce 0 (by omega) X Y
  · intro X Y; rw [one 1 (by omega)]; exact ce 1 (by omega) X Y
  · intro X Y; rw [one 2 (by omega)]; exact ce 2 (by omega) X Y
  · intro X Y; rw [one 3 (by omega)]; exact ce 3 (by omega) X Y

attribute [local go_sem ↓] loadP_eq storeP_eq allocP_eq
theorem rparse4_short (w : World) (p : Option Addr) (n c : Nat) (h : n < 48) :
    Calls Try.prog 16 #[.slice p n c] w (TellPost w (.returned (.tuple #[pkV Hd.zero Xt.zero, .slice none 0 0, .int .i64 4]))) := by
  have al := alloc_pk
  have B0 : ((w.alloc (.cells (pkC Hd.zero Xt.zero) 27)).alloc (.cells (pkC Hd.zero Xt.zero) 27)).heap[w.heap.size]? = some (.cells (pkC Hd.zero Xt.zero) 27 (0, 0)) := heap_alloc2_old _ _ _
  have B1 : ((w.alloc (.cells (pkC Hd.zero Xt.zero) 27)).alloc (.cells (pkC Hd.zero Xt.zero) 27)).heap[w.heap.size + 1]? = some (.cells (pkC Hd.zero Xt.zero) 27 (0, 0)) := heap_alloc2_new _ _ _
  have LD := load_pk B1
  have SS := store_same B0
  replace B0 := Lib.hid B0
  clear B1
  have h' : (n : Int) < 48 := by omega
  clear h
  go_enter Try.func16, Try.ntmps16
  go_wp2
  (try simp only [Exit.inBlock, Exit.then])
  refine bodyPost_ret (results_pk3 rfl _ _ w.heap.size Hd.zero Xt.zero rfl B0.out) rfl ?_
  exact ⟨rfl, ((Below.refl _ _).alloc (Nat.le_refl _) _).alloc (by simp) _⟩

set_option maxHeartbeats 4000000 in
theorem rparse4_form (w : World) (ad : Addr) (n c : Nat) (ds : List Nat) (z0 z1 z2 z3 q3 q6 ve m7 : Nat) (sa sb : Int) (x4 x5 x6 x7 x8 x9 x10 : Nat) (I : HeadIn w ad n c ds z0 z1 z2 z3 q3 q6 ve m7 sa sb x4 x5 x6 x7 x8 x9 x10) (hm : ve = 0 ∨ 4 < ve) :
    Calls Try.prog 16 #[.slice (some ad) n c] w (TellPost w (.returned (.tuple #[pkV Hd.zero Xt.zero, .slice none 0 0, .int .i64 5]))) := by
  have al := alloc_pk
  have B0 : ((w.alloc (.cells (pkC Hd.zero Xt.zero) 27)).alloc (.cells (pkC Hd.zero Xt.zero) 27)).heap[w.heap.size]? = some (.cells (pkC Hd.zero Xt.zero) 27 (0, 0)) := heap_alloc2_old _ _ _
  have B1 : ((w.alloc (.cells (pkC Hd.zero Xt.zero) 27)).alloc (.cells (pkC Hd.zero Xt.zero) 27)).heap[w.heap.size + 1]? = some (.cells (pkC Hd.zero Xt.zero) 27 (0, 0)) := heap_alloc2_new _ _ _
  have LD := load_pk B1
  have SS := store_same B0
  replace B0 := Lib.hid B0
  clear B1
  have h' : (48 : Int) ≤ (n : Int) := by have := I.h48; omega
  have d0 := I.d0
  have b0 := I.b0
  have e3 : (z0 : Int) / 8 = (q3 : Int) := by have := I.e3; omega
  have ev : (q3 : Int) % 8 = (ve : Int) := by have := I.ev; omega
  have q3b : q3 < 32 := by have := I.e3; omega
  have veb : ve < 8 := by have := I.ev; omega
  clear I
  rcases hm with rfl | hm
  · go_enter Try.func16, Try.ntmps16
    go_wp2
    (try simp only [Exit.inBlock, Exit.then])
    refine bodyPost_ret (results_pk3 rfl _ _ w.heap.size Hd.zero Xt.zero rfl B0.out) rfl ?_
    exact ⟨rfl, ((Below.refl _ _).alloc (Nat.le_refl _) _).alloc (by simp) _⟩
  · have v4 : (4 : Int) < (ve : Int) := by omega
    have v0 : ((ve : Int) == 0) = false := by rw [beq_eq_false_iff_ne]; omega
    clear hm
    go_enter Try.func16, Try.ntmps16
    go_wp2
    (try simp only [Exit.inBlock, Exit.then])
    refine bodyPost_ret (results_pk3 rfl _ _ w.heap.size Hd.zero Xt.zero rfl B0.out) rfl ?_
    exact ⟨rfl, ((Below.refl _ _).alloc (Nat.le_refl _) _).alloc (by simp) _⟩
end Go.Proofs.Ytjjbalgonkphjaa
