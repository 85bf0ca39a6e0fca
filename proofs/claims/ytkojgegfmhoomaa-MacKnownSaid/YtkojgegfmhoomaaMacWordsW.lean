/- MacWords: the walk. -/
import Derived.Test.YtkojgegfmhoomaaMacI
import Derived.Deep.DeepCutAuto
import Derived.Deep.RegionHeld3
import Derived.Laws.Bits64
namespace Go.Proofs.Ytkojgegfmhoomaa
open Go.ChangeShapes Go.WideShapes Go.ChangeAt Go.RowKit OctM

theorem two_first (w : World) (a b : Obj) : ((w.alloc a).alloc b).heap[w.heap.size]? = some a := by
  have l : Below (w.alloc a).heap.size (w.alloc a) ((w.alloc a).alloc b) := (Below.refl _ _).alloc (Nat.le_refl _) b
  rw [l.block _ (by simp)]
  exact heap_alloc_new w a
theorem two_second (w : World) (a b : Obj) : ((w.alloc a).alloc b).heap[w.heap.size + 1]? = some b := by
  have s1 : (w.alloc a).heap.size = w.heap.size + 1 := by simp
  rw [← s1]
  exact heap_alloc_new _ b
theorem kept_first {w w4 v : World} {a b : Obj} (h : v.heap = ((w.alloc a).alloc b).heap) (o : Below v.heap.size v w4) : w4.heap[w.heap.size]? = some a := by
  rw [o.block _ (by rw [h]; simp; omega), h]
  exact two_first w a b
theorem kept_second {w w4 v : World} {a b : Obj} (h : v.heap = ((w.alloc a).alloc b).heap) (o : Below v.heap.size v w4) : w4.heap[w.heap.size + 1]? = some b := by
  have s1 : (w.alloc a).heap.size = w.heap.size + 1 := by simp
  rw [o.block _ (by rw [h]; simp), h, ← s1]
  exact heap_alloc_new _ b
/-- Parts that lie in a world, their tag by a key. -/
def FactG (V : World) (ka kb i : Nat) (cs : Array Value) (n X : Nat) : Prop :=
  ∃ ps : List Prt, KeyOk ⟨i, ka, kb⟩ ∧ cs.toList = (ps.map fun q => .slice q.p q.n q.c) ∧ ps.length = n ∧ n ≤ 1000 ∧ (∀ q ∈ ps, Holds V q.p q.n q.c (valsN .u8 q.ds) ∧ Byt q.ds) ∧ totalP ps ≤ 2000000 ∧ tagN ka kb (joinP ps) = X
theorem fact_tag (H : TagCode) {V : World} {ka kb i : Nat} {cs : Array Value} {n X : Nat} {w' : World} {N : Nat} (la : Below V.heap.size V w') (hN : w'.heap[N]? = some (.cells cs 28 (0, 0))) (hF : FactG V ka kb i cs n X) :
    Calls Try.prog 10 #[.agg #[.int .u32 (i : Nat), .int .u64 (ka : Nat), .int .u64 (kb : Nat)], .slice (some ⟨N, 0, none⟩) n n] w' fun e w4 => e = .returned (.int .u64 (X : Nat)) ∧ Below V.heap.size V w4 ∧ Below w'.heap.size w' w4 := by
  obtain ⟨ps, h1, h2, h3, h4, h5, h6, h7⟩ := hF
  refine (tag_at H w' ⟨i, ka, kb⟩ _ n n ps (X : Nat) h1 (litP _ hN h2 h3 (fun q hq => (h5 q hq).1.below la) (by unfold maxLen; omega)) (fun q hq => (h5 q hq).2) h4 h6 (by rw [h7])).mono ?_
  rintro e w4 ⟨rfl, l4⟩
  exact ⟨rfl, la.trans (l4.mono la.size), l4⟩
/-- A piece of eight bytes in a block of their own. -/
theorem seg8 {w : World} {N : Nat} {ds : List Nat} (h : Holds w (some ⟨N, 0, none⟩) 8 8 (valsN .u8 ds)) (lo hi : Nat) (h1 : lo ≤ hi) (h2 : hi ≤ 8) (h3 : lo < 8) :
    Holds w (some ⟨N, lo, none⟩) (hi - lo) (8 - lo) (valsN .u8 ((ds.drop lo).take (hi - lo))) := by
  have o := h.piece lo hi h1 h2
  rw [if_neg (by omega)] at o
  have e : (some (⟨N, 0, none⟩ : Addr)).map (·.add (lo * 1)) = some ⟨N, lo, none⟩ := by
    rw [Nat.mul_one, Option.map_some]
    congr 1
    unfold Addr.add
    split <;> simp_all
  rw [e] at o
  have f : valsN .u8 ((ds.drop lo).take (hi - lo)) = ((valsN .u8 ds).drop lo).take (hi - lo) := by unfold valsN; rw [List.map_take, List.map_drop]
  rw [f]
  exact o
theorem four_blocks (w : World) (a b c d : Obj) : ((((w.alloc a).alloc b).alloc c).alloc d).heap[w.heap.size]? = some a ∧ ((((w.alloc a).alloc b).alloc c).alloc d).heap[w.heap.size + 1]? = some b ∧
    ((((w.alloc a).alloc b).alloc c).alloc d).heap[w.heap.size + 1 + 1]? = some c ∧ ((((w.alloc a).alloc b).alloc c).alloc d).heap[w.heap.size + 1 + 1 + 1]? = some d ∧ Below w.heap.size w ((((w.alloc a).alloc b).alloc c).alloc d) := by
  have s1 : (w.alloc a).heap.size = w.heap.size + 1 := by simp
  have s2 : ((w.alloc a).alloc b).heap.size = w.heap.size + 1 + 1 := by simp
  have s3 : (((w.alloc a).alloc b).alloc c).heap.size = w.heap.size + 1 + 1 + 1 := by simp
  have l1 : Below w.heap.size w (w.alloc a) := (Below.refl _ _).alloc (Nat.le_refl _) a
  have l2 : Below (w.alloc a).heap.size (w.alloc a) ((w.alloc a).alloc b) := (Below.refl _ _).alloc (Nat.le_refl _) b
  have l3 : Below ((w.alloc a).alloc b).heap.size ((w.alloc a).alloc b) (((w.alloc a).alloc b).alloc c) := (Below.refl _ _).alloc (Nat.le_refl _) c
  have l4 : Below (((w.alloc a).alloc b).alloc c).heap.size (((w.alloc a).alloc b).alloc c) ((((w.alloc a).alloc b).alloc c).alloc d) := (Below.refl _ _).alloc (Nat.le_refl _) d
  refine ⟨?_, ?_, ?_, ?_, l1.trans ((l2.trans ((l3.trans (l4.mono l3.size)).mono l2.size)).mono l1.size)⟩
  · rw [l4.block _ (by omega), l3.block _ (by omega), l2.block _ (by omega)]; exact heap_alloc_new w a
  · rw [l4.block _ (by omega), l3.block _ (by omega), ← s1]; exact heap_alloc_new _ b
  · rw [l4.block _ (by omega), ← s2]; exact heap_alloc_new _ c
  · rw [← s3]; exact heap_alloc_new _ d

set_option maxRecDepth 100000 in
set_option maxHeartbeats 16000000 in
theorem words6_any (H : TagCode) (w : World) (k : Ky) (id bit b0 b1 b2 b3 b4 b5 b6 b7 : Nat) (hk : KeyOk k) (hi : id < 4294967296) (hb : bit < 256) (hy : Byt [b0, b1, b2, b3, b4, b5, b6, b7]) :
    Calls Try.prog 6 #[.agg #[.int .u32 (k.id : Nat), .int .u64 (k.a : Nat), .int .u64 (k.b : Nat)], .int .u32 (id : Nat), .agg #[.int .u8 (b0 : Nat), .int .u8 (b1 : Nat), .int .u8 (b2 : Nat), .int .u8 (b3 : Nat), .int .u8 (b4 : Nat), .int .u8 (b5 : Nat), .int .u8 (b6 : Nat), .int .u8 (b7 : Nat)], .int .u8 (bit : Nat)] w fun e w' => e = .returned (.bool true) ∧ Below w.heap.size w w' := by
  have hbI : (bit : Int) < 256 := by omega
  go_enter Try.func6, Try.ntmps6
  go_upto_region 4 with (fail)
  have FB := four_blocks w (.cells #[.int .u32 (k.id : Nat), .int .u64 (k.a : Nat), .int .u64 (k.b : Nat)] 25) (.cells #[.int .u8 (b0 : Nat), .int .u8 (b1 : Nat), .int .u8 (b2 : Nat), .int .u8 (b3 : Nat), .int .u8 (b4 : Nat), .int .u8 (b5 : Nat), .int .u8 (b6 : Nat), .int .u8 (b7 : Nat)] 49) (.cells #[.int .u32 (id : Nat), .int .u64 (k.a : Nat), .int .u64 (k.b : Nat)] 25) (.cells #[.int .u8 (b0 : Nat), .int .u8 (b1 : Nat), .int .u8 (b2 : Nat), .int .u8 (b3 : Nat), .int .u8 (b4 : Nat), .int .u8 (b5 : Nat), .int .u8 (b6 : Nat), .int .u8 (b7 : Nat)] 49)
  generalize World.alloc (World.alloc (World.alloc (World.alloc w _) _) _) _ = W at *
  obtain ⟨K0, K1, K2, K3, l1⟩ := FB
  have L1 := Lib.hid l1
  clear l1
  obtain ⟨q, hq⟩ : ∃ q, q = bit % 64 / 8 := ⟨_, rfl⟩
  have q8 : q < 8 := by omega
  obtain ⟨y, hy3, y8⟩ : ∃ y : Nat, W.cell? ⟨w.heap.size + 1 + 1 + 1, q, none⟩ = some (.int .u8 (y : Nat)) ∧ y < 256 := by
    have hx : ∀ j, j < 8 → ∃ y : Nat, (#[Value.int .u8 (b0 : Nat), .int .u8 (b1 : Nat), .int .u8 (b2 : Nat), .int .u8 (b3 : Nat), .int .u8 (b4 : Nat), .int .u8 (b5 : Nat), .int .u8 (b6 : Nat), .int .u8 (b7 : Nat)])[j]? = some (.int .u8 (y : Nat)) ∧ y < 256 := by
      intro j hj
      have hb : ∀ d ∈ [b0, b1, b2, b3, b4, b5, b6, b7], d < 256 := hy
      match j, hj with
      | 0, _ => exact ⟨b0, rfl, hb _ (by simp)⟩
      | 1, _ => exact ⟨b1, rfl, hb _ (by simp)⟩
      | 2, _ => exact ⟨b2, rfl, hb _ (by simp)⟩
      | 3, _ => exact ⟨b3, rfl, hb _ (by simp)⟩
      | 4, _ => exact ⟨b4, rfl, hb _ (by simp)⟩
      | 5, _ => exact ⟨b5, rfl, hb _ (by simp)⟩
      | 6, _ => exact ⟨b6, rfl, hb _ (by simp)⟩
      | 7, _ => exact ⟨b7, rfl, hb _ (by simp)⟩
    obtain ⟨y, h1, h2⟩ := hx q q8
    exact ⟨y, (blk_cell K3).trans h1, h2⟩
  have fz := blk_free (o := q) K3
  have e1 : ((bit : Int) % 64) / 8 = (q : Int) := by omega
  have qi : (q : Int) < 8 := by omega
  have HK0 := Lib.hid K0
  have HK1 := Lib.hid K1
  have HK2 := Lib.hid K2
  have HK3 := Lib.hid K3
  have HQ := Lib.hid hq
  clear K0 K1 K2 K3 hq
  go_wp2_with fail
  obtain ⟨z, hz, z8⟩ : ∃ z : Nat, bits BinOp.xor IntKind.u8 (y : Int) (2 ^ (bit % 8) % 256) = (z : Nat) ∧ z < 256 := by
    obtain ⟨m, hm⟩ : ∃ m, bits BinOp.xor IntKind.u8 (y : Int) (2 ^ (bit % 8) % 256) = IntKind.u8.wrap m := ⟨_, rfl⟩
    have hw : IntKind.u8.wrap m = m % 256 := by simp [IntKind.wrap, IntKind.bits, IntKind.signed]
    rw [hm, hw]
    exact ⟨(m % 256).toNat, by omega, by omega⟩
  rw [hz]
  have KC := Lib.hid (blk_set (o := q) (u := .int .u8 (z : Nat)) HK3.out)
  have LC := Lib.hid (L1.out.setCell (p := ⟨w.heap.size + 1 + 1 + 1, q, none⟩) (by simp only; omega) (.int .u8 (z : Nat)))
  have NK : ∀ N, N ≠ w.heap.size + 1 + 1 + 1 → (W.setCell ⟨w.heap.size + 1 + 1 + 1, q, none⟩ (.int .u8 (z : Nat))).heap[N]? = W.heap[N]? := fun N h => Below.heap_setCell W _ _ N h
  have HK0 := Lib.hid ((NK (w.heap.size) (by omega)).trans HK0.out)
  have HK1 := Lib.hid ((NK (w.heap.size + 1) (by omega)).trans HK1.out)
  have HK2 := Lib.hid ((NK (w.heap.size + 1 + 1) (by omega)).trans HK2.out)
  clear NK HK3 L1 hy3 fz hz
  generalize W.setCell ⟨w.heap.size + 1 + 1 + 1, q, none⟩ (.int .u8 (z : Nat)) = V at *
  obtain ⟨x, hx⟩ : ∃ x, x = tagN k.a k.b [b0, b1, b2, b3, b4, b5, b6, b7] := ⟨_, rfl⟩
  have BH : Hid (Holds V (some ⟨w.heap.size + 1, 0, none⟩) 8 8 (valsN .u8 [b0, b1, b2, b3, b4, b5, b6, b7])) := by
    have o := own_of_blk (B := 0) HK1.out (n := 8) rfl (by decide) (Nat.zero_le _)
    obtain ⟨p, c, e, hh⟩ := own_holds o
    injection e with e1 e2 e3
    subst e1 e3
    exact hh
  have PT : Hid (∀ w' N, Below V.heap.size V w' → w'.heap[N]? = some (.cells #[.slice (some ⟨w.heap.size + 1, 0, none⟩) 8 8] 28 (0, 0)) → Calls Try.prog 10 #[.agg #[.int .u32 (k.id : Nat), .int .u64 (k.a : Nat), .int .u64 (k.b : Nat)], .slice (some ⟨N, 0, none⟩) 1 1] w' fun e w4 => e = .returned (.int .u64 (x : Nat)) ∧ Below V.heap.size V w4) := fun w' N la hN => by
    refine (tag_at H _ k _ 1 1 [⟨some ⟨w.heap.size + 1, 0, none⟩, 8, 8, [b0, b1, b2, b3, b4, b5, b6, b7]⟩] (x : Nat) hk (litP _ hN rfl rfl (fun q hq => by obtain rfl := List.mem_singleton.1 hq; exact BH.out.below la) (by decide)) (fun q hq => by obtain rfl := List.mem_singleton.1 hq; exact hy) (by decide) (by simp [totalP]) (by rw [hx]; simp [joinP])).mono ?_
    rintro e w4 ⟨rfl, l4⟩
    exact ⟨rfl, la.trans (l4.mono la.size)⟩
  have K0 : Hid (∀ w', Below V.heap.size V w' → w'.cell? ⟨w.heap.size, 0, none⟩ = some (.int .u32 (k.id : Nat)) ∧ w'.cell? ⟨w.heap.size, 1, none⟩ = some (.int .u64 (k.a : Nat)) ∧ w'.cell? ⟨w.heap.size, 2, none⟩ = some (.int .u64 (k.b : Nat))) := fun w' hb => by
    have c0 := blk_cell (o := 0) HK0.out
    have c1 := blk_cell (o := 1) HK0.out
    have c2 := blk_cell (o := 2) HK0.out
    exact ⟨(hb.cell (World.block_lt_of_cell? V _ c0)).trans c0, (hb.cell (World.block_lt_of_cell? V _ c1)).trans c1, (hb.cell (World.block_lt_of_cell? V _ c2)).trans c2⟩
  have HB0 : Below V.heap.size V V := Below.refl _ _
  replace hx := Lib.hid hx
  go_region_held3 (fun w' => w'.cell? ⟨w.heap.size, 0, none⟩ = some (.int .u32 (k.id : Nat)) ∧ w'.cell? ⟨w.heap.size, 1, none⟩ = some (.int .u64 (k.a : Nat)) ∧ w'.cell? ⟨w.heap.size, 2, none⟩ = some (.int .u64 (k.b : Nat)))
    (first | exact K0.out _ HB0 | exact K0.out _ HB0.drew | exact K0.out _ (HB0.alloc HB0.size _).drew | exact K0.out _ (HB0.alloc HB0.size _))
    (first
      | (go_at_call 10; refine (PT.out _ _ (by first | exact (HB0.alloc HB0.size _).drew | exact HB0.alloc HB0.size _) (by exact heap_alloc_new _ _)).mono ?_; rintro e w4 ⟨rfl, o4⟩; have HB0 := o4; clear o4))
  obtain ⟨es, hes⟩ : ∃ es, es = [b0, b1, b2, b3, b4, b5, b6, b7].set q z := ⟨_, rfl⟩
  have CH : Hid (Holds V (some ⟨w.heap.size + 1 + 1 + 1, 0, none⟩) 8 8 (valsN .u8 es)) := by
    have o := own_of_blk (B := 0) KC.out (n := 8) (by simp) (by decide) (Nat.zero_le _)
    obtain ⟨p, c, e, hh⟩ := own_holds o
    injection e with e1 e2 e3
    subst e1 e3
    have f : valsN .u8 es = (#[Value.int .u8 (b0 : Nat), .int .u8 (b1 : Nat), .int .u8 (b2 : Nat), .int .u8 (b3 : Nat), .int .u8 (b4 : Nat), .int .u8 (b5 : Nat), .int .u8 (b6 : Nat), .int .u8 (b7 : Nat)].set! q (.int .u8 (z : Nat))).toList := by
      rw [hes, Array.set!_eq_setIfInBounds, Array.toList_setIfInBounds]
      unfold valsN
      rw [List.map_set]
      rfl
    rw [f]
    exact hh
  have EB : Byt es := by
    intro d hd
    rw [hes] at hd
    rcases List.mem_or_eq_of_mem_set hd with h | h
    · exact hy d h
    · omega
  have EL : es.length = 8 := by rw [hes]; simp
  obtain ⟨xc, hxc⟩ : ∃ xc, xc = tagN k.a k.b es := ⟨_, rfl⟩
  have hko : KeyOk ⟨id, k.a, k.b⟩ := ⟨hi, hk.2.1, hk.2.2⟩
  have x64 : W64 x := by rw [hx.out]; exact tag_lt hk.2.1 hk.2.2 hy
  have GEN : ∀ (i : Nat) (ps : List Prt) (cs : Array Value) (n X : Nat), KeyOk ⟨i, k.a, k.b⟩ → cs.toList = ps.map (fun q => .slice q.p q.n q.c) → ps.length = n → n ≤ 1000 → (∀ q ∈ ps, Holds V q.p q.n q.c (valsN .u8 q.ds) ∧ Byt q.ds) → totalP ps ≤ 2000000 → tagN k.a k.b (joinP ps) = X → FactG V k.a k.b i cs n X :=
    fun i ps cs n X h1 h2 h3 h4 h5 h6 h7 => ⟨ps, h1, h2, h3, h4, h5, h6, h7⟩
  have B0 := seg8 BH.out 0 4 (by omega) (by omega) (by omega)
  have B4 := seg8 BH.out 4 8 (by omega) (by omega) (by omega)
  have C0 := seg8 CH.out 0 7 (by omega) (by omega) (by omega)
  have C7 := seg8 CH.out 7 8 (by omega) (by omega) (by omega)
  have J2 : joinP [⟨some ⟨w.heap.size + 1 + 1 + 1, 0, none⟩, 7 - 0, 8 - 0, (es.drop 0).take (7 - 0)⟩, ⟨some ⟨w.heap.size + 1 + 1 + 1, 7, none⟩, 8 - 7, 8 - 7, (es.drop 7).take (8 - 7)⟩] = es := by
    simp only [joinP, List.flatMap_cons, List.flatMap_nil, List.append_nil, List.drop_zero]
    rw [List.take_of_length_le (l := es.drop 7) (by rw [List.length_drop, EL]; exact Nat.le_refl _)]
    exact List.take_append_drop 7 es
  have P1 := Lib.hid (GEN id [⟨some ⟨w.heap.size + 1, 0, none⟩, 8, 8, [b0, b1, b2, b3, b4, b5, b6, b7]⟩] #[.slice (some ⟨w.heap.size + 1, 0, none⟩) 8 8] 1 x hko rfl rfl (by decide) (fun q hq => by obtain rfl := List.mem_singleton.1 hq; exact ⟨BH.out, hy⟩) (by simp [totalP]) (by rw [hx.out]; simp [joinP]))
  have P2 := Lib.hid (GEN k.id [⟨some ⟨w.heap.size + 1, 0, none⟩, 4 - 0, 8 - 0, (List.drop 0 [b0, b1, b2, b3, b4, b5, b6, b7]).take (4 - 0)⟩, ⟨some ⟨w.heap.size + 1, 4, none⟩, 8 - 4, 8 - 4, (List.drop 4 [b0, b1, b2, b3, b4, b5, b6, b7]).take (8 - 4)⟩] #[.slice (some ⟨w.heap.size + 1, 0, none⟩) 4 8, .slice (some ⟨w.heap.size + 1, 4, none⟩) 4 4] 2 x hk rfl rfl (by decide)
    (fun q hq => by
      rcases List.mem_cons.1 hq with rfl | hq
      · exact ⟨B0, fun d hd => hy d (List.mem_of_mem_drop (List.mem_of_mem_take hd))⟩
      · obtain rfl := List.mem_singleton.1 hq
        exact ⟨B4, fun d hd => hy d (List.mem_of_mem_drop (List.mem_of_mem_take hd))⟩) (by simp [totalP]) (by rw [hx.out]; simp [joinP]))
  have P4 := Lib.hid (GEN k.id [⟨some ⟨w.heap.size + 1 + 1 + 1, 0, none⟩, 8, 8, es⟩] #[.slice (some ⟨w.heap.size + 1 + 1 + 1, 0, none⟩) 8 8] 1 xc hk rfl rfl (by decide) (fun q hq => by obtain rfl := List.mem_singleton.1 hq; exact ⟨CH.out, EB⟩) (by simp [totalP]) (by rw [hxc]; simp [joinP]))
  have P5 := Lib.hid (GEN id [⟨some ⟨w.heap.size + 1 + 1 + 1, 0, none⟩, 7 - 0, 8 - 0, (es.drop 0).take (7 - 0)⟩, ⟨some ⟨w.heap.size + 1 + 1 + 1, 7, none⟩, 8 - 7, 8 - 7, (es.drop 7).take (8 - 7)⟩] #[.slice (some ⟨w.heap.size + 1 + 1 + 1, 0, none⟩) 7 8, .slice (some ⟨w.heap.size + 1 + 1 + 1, 7, none⟩) 1 1] 2 xc hko rfl rfl (by decide)
    (fun q hq => by
      rcases List.mem_cons.1 hq with rfl | hq
      · exact ⟨C0, fun d hd => EB d (List.mem_of_mem_drop (List.mem_of_mem_take hd))⟩
      · obtain rfl := List.mem_singleton.1 hq
        exact ⟨C7, fun d hd => EB d (List.mem_of_mem_drop (List.mem_of_mem_take hd))⟩) (by simp [totalP]) (by rw [J2, hxc]))
  have P3 : Hid (∀ w' N, Below V.heap.size V w' → w'.heap[N]? = some (.cells #[.slice (some ⟨w.heap.size + 1, 0, none⟩) 8 8] 28 (0, 0)) → Calls Try.prog 11 #[.agg #[.int .u32 (id : Nat), .int .u64 (k.a : Nat), .int .u64 (k.b : Nat)], .int .u64 (x : Nat), .slice (some ⟨N, 0, none⟩) 1 1] w' fun e w4 => e = .returned (.bool true) ∧ Below V.heap.size V w4) := fun w' N la hN => by
    refine (right_at H w' ⟨id, k.a, k.b⟩ x _ 1 1 [⟨some ⟨w.heap.size + 1, 0, none⟩, 8, 8, [b0, b1, b2, b3, b4, b5, b6, b7]⟩] true hko x64 (litP _ hN rfl rfl (fun q hq => by obtain rfl := List.mem_singleton.1 hq; exact BH.out.below la) (by decide)) (fun q hq => by obtain rfl := List.mem_singleton.1 hq; exact hy) (by decide) (by simp [totalP]) (by rw [hx.out]; simp [joinP])).mono ?_
    rintro e w4 ⟨rfl, l4⟩
    exact ⟨rfl, la.trans (l4.mono la.size)⟩
  have KK : Hid (∀ w', Below V.heap.size V w' → (w'.cell? ⟨w.heap.size, 0, none⟩ = some (.int .u32 (k.id : Nat)) ∧ w'.cell? ⟨w.heap.size, 1, none⟩ = some (.int .u64 (k.a : Nat)) ∧ w'.cell? ⟨w.heap.size, 2, none⟩ = some (.int .u64 (k.b : Nat))) ∧ w'.cell? ⟨w.heap.size + 1 + 1, 0, none⟩ = some (.int .u32 (id : Nat)) ∧ w'.cell? ⟨w.heap.size + 1 + 1, 1, none⟩ = some (.int .u64 (k.a : Nat)) ∧ w'.cell? ⟨w.heap.size + 1 + 1, 2, none⟩ = some (.int .u64 (k.b : Nat))) := fun w' hb => by
    have c0 := blk_cell (o := 0) HK2.out
    have c1 := blk_cell (o := 1) HK2.out
    have c2 := blk_cell (o := 2) HK2.out
    exact ⟨K0.out w' hb, (hb.cell (World.block_lt_of_cell? V _ c0)).trans c0, (hb.cell (World.block_lt_of_cell? V _ c1)).trans c1, (hb.cell (World.block_lt_of_cell? V _ c2)).trans c2⟩
  clear GEN B0 B4 C0 C7 J2 hes hxc EB EL hko x64 q8 y8 z8 e1 qi hi hb hbI hk hy
  go_wp2_with fail
  go_region_held3 (fun w' => (w'.cell? ⟨w.heap.size, 0, none⟩ = some (.int .u32 (k.id : Nat)) ∧ w'.cell? ⟨w.heap.size, 1, none⟩ = some (.int .u64 (k.a : Nat)) ∧ w'.cell? ⟨w.heap.size, 2, none⟩ = some (.int .u64 (k.b : Nat))) ∧ w'.cell? ⟨w.heap.size + 1 + 1, 0, none⟩ = some (.int .u32 (id : Nat)) ∧ w'.cell? ⟨w.heap.size + 1 + 1, 1, none⟩ = some (.int .u64 (k.a : Nat)) ∧ w'.cell? ⟨w.heap.size + 1 + 1, 2, none⟩ = some (.int .u64 (k.b : Nat)))
    (first | exact KK.out _ HB0 | exact KK.out _ HB0.drew | exact KK.out _ (HB0.alloc HB0.size _).drew | exact KK.out _ ((HB0.alloc HB0.size _).alloc (HB0.alloc HB0.size _).size _).drew | exact KK.out _ ((HB0.alloc HB0.size _).alloc (HB0.alloc HB0.size _).size _) | exact KK.out _ (HB0.alloc HB0.size _))
    (first
      | (go_at_call 10; refine (fact_tag H (V := V) (by first | exact (HB0.alloc HB0.size _).drew | exact HB0.alloc HB0.size _) (by exact heap_alloc_new _ _) (by first | exact P1.out | exact P2.out | exact P4.out | exact P5.out)).mono ?_; rintro e w5 ⟨rfl, o5, -⟩; have HB0 := o5; clear o5)
      | (go_at_call 10; refine (fact_tag H (V := V) (by first | exact ((HB0.alloc HB0.size _).alloc (HB0.alloc HB0.size _).size _).drew | exact (HB0.alloc HB0.size _).alloc (HB0.alloc HB0.size _).size _) (by first | exact two_first _ _ _ | exact two_second _ _ _) (by first | exact P1.out | exact P2.out | exact P4.out | exact P5.out)).mono ?_; rintro e w5 ⟨rfl, o5, o6⟩; have HB2 := kept_second rfl o6; have HB3 := kept_first rfl o6; have HB0 := o5; clear o5 o6)
      | (go_at_call 10; refine (fact_tag H (V := V) (by first | exact HB0 | exact HB0.drew) (by first | exact HB2 | exact HB3) (by first | exact P1.out | exact P2.out | exact P4.out | exact P5.out)).mono ?_; rintro e w5 ⟨rfl, o5, -⟩; have HB0 := o5; clear o5)
      | (go_at_call 11; refine (P3.out _ _ (by first | exact (HB0.alloc HB0.size _).drew | exact HB0.alloc HB0.size _) (by exact heap_alloc_new _ _)).mono ?_; rintro e w5 ⟨rfl, o5⟩; have HB0 := o5; clear o5)
      | (go_at_call 12; refine (wakes6_any H _).mono ?_; rintro e w5 ⟨rfl, o5⟩; have HB0 := HB0.trans (o5.mono HB0.size); clear o5))
  all_goals
    go_wp2
    go_ret
    exact ⟨rfl, LC.out.trans (HB0.mono LC.out.size)⟩
end Go.Proofs.Ytkojgegfmhoomaa
