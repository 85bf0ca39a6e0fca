/- HeapOrder: what slices.SortFunc leaves of a row of items. -/
import Derived.Test.YtlfbenlojiiknaaHpL
import Derived.Test.YtlfbenlojiiknaaShelfG
import Derived.Shelf.SlSortCmp.NoneTotal
set_option maxRecDepth 100000
namespace Go.Proofs.Ytlfbenlojiiknaa
open Go.ChangeShapes Go.WideShapes Go.ChangeAt Go.RowKit HeapM

instance inhIt : Inhabited It := ⟨zeroI⟩
def encI (x : It) : List Value := [.int .u64 (x.id : Nat), .int .u64 (x.seq : Nat), .int .i64 x.t]
def cfI (a b : It) : Int := if ahd a b = true then -1 else 1
theorem lt_cfI (a b : It) : ltOf cfI a b = ahd a b := by
  unfold ltOf cfI
  cases ahd a b
  · rw [if_neg (by decide)]; rfl
  · rw [if_pos rfl]; rfl
theorem swoI : Go.Sort.SWO (ltOf cfI) where
  irrefl x := by rw [lt_cfI]; exact ahd_irrefl x
  trans x y z h1 h2 := by rw [lt_cfI] at *; exact ahd_trans h1 h2
  ntrans x y z h1 h2 := by rw [lt_cfI] at *; exact nah_trans h2 h1
theorem get_gt (d : Array It) (i : Nat) : d[i]! = gt d.toList i := by
  unfold gt
  rw [List.getD_eq_getElem?_getD, Array.getElem?_toList, Array.getElem!_eq_getD, Array.getD_eq_getD_getElem?]
  rfl
theorem holdsI_K {w : World} {T : TypeId} {g n c : Nat} {l : List It} (h : OwnI w T 0 (some ⟨g, 0, none⟩) n c l) : Go.Sort.HoldsK encI 3 w g 0 l.toArray := by
  intro j hj
  rw [Go.Sort.size_flatK] at hj
  have hl := h.holds.len
  have hi : j / 3 < n := by rw [← hl]; simp at hj; omega
  rw [Go.Sort.get_flatK _ _ _ _ hj, get_gt]
  obtain ⟨-, cur, hg⟩ := own_base0 h
  refine ⟨?_, blk_free hg⟩
  obtain ⟨a, e, c0, c1, c2⟩ := h.holds.cell (j / 3) hi
  injection e with e
  subst e
  rw [add_zero'] at c0 c1 c2
  rw [Nat.zero_add]
  have hr : j % 3 < 3 := Nat.mod_lt _ (by decide)
  have hd : j = j / 3 * 3 + j % 3 := by omega
  show w.cell? ⟨g, j, none⟩ = some ((encI (gt l (j / 3)))[j % 3]!)
  generalize j / 3 = q at *
  generalize j % 3 = r at *
  subst hd
  rcases (by omega : r = 0 ∨ r = 1 ∨ r = 2) with e | e | e
  · subst e; exact c0
  · subst e; exact c1
  · subst e; exact c2
theorem holdsK_I {w : World} {g n c : Nat} {d : Array It} (h : Go.Sort.HoldsK encI 3 w g 0 d) (hn : d.size = n) (h1 : n ≤ c) (h2 : c ≤ maxLen) : HoldsI w (some ⟨g, 0, none⟩) n c d.toList := by
  refine ⟨by simpa using hn, h1, h2, (fun e => by cases e), fun i hi => ⟨_, rfl, ?_⟩⟩
  have k := fun r (hr : r < 3) => (Go.Sort.HoldsK.cell h (i := i) (c := r) (by omega) hr).1
  rw [add_zero', add_zero', add_zero']
  have k0 := k 0 (by decide)
  have k1 := k 1 (by decide)
  have k2 := k 2 (by decide)
  rw [get_gt] at k0 k1 k2
  simp only [Nat.zero_add, Nat.add_zero] at k0 k1 k2
  exact ⟨k0, k1, k2⟩

/-- Ahead draws once, and lays blocks. -/
theorem pahead13_grow (w : World) (a b : It) :
    Calls Try.prog 27 #[itV a, itV b] w fun e w' => e = .returned (.bool (ahd a b)) ∧ ∃ q os, w' = Go.Sort.grow (w.drewN q) os := by
  have OA := or_ahd a b
  obtain ⟨z, hz⟩ : ∃ z, ahd a b = z := ⟨_, rfl⟩
  rw [hz] at OA ⊢
  obtain ⟨i, s, t⟩ := a
  obtain ⟨j, r, u⟩ := b
  obtain ⟨l, B1, B2, sz⟩ := two_blocks w (itC ⟨i, s, t⟩) (itC ⟨j, r, u⟩) 34 34
  dsimp only at OA
  have C1 := Lib.hid (fun w' => pcmp_i w' t u)
  have C2 := Lib.hid (fun w' => pcmp_u w' s r)
  have C3 := Lib.hid (fun w' => pcmp_u w' i j)
  have CO := Lib.hid (fun w' B => por_any w' B (cmpZ t u) (cmpZ s r) (cmpZ i j))
  generalize cmpZ t u = c1 at *
  generalize cmpZ s r = c2 at *
  generalize cmpZ i j = c3 at *
  generalize or3 c1 c2 c3 = q at *
  have GR : Hid (∀ o, ∃ q os, (((w.alloc (.cells (itC ⟨i, s, t⟩) 34)).alloc (.cells (itC ⟨j, r, u⟩) 34)).drew.alloc o) = Go.Sort.grow (w.drewN q) os) := fun o => ⟨1, #[.cells (itC ⟨i, s, t⟩) 34] ++ #[.cells (itC ⟨j, r, u⟩) 34] ++ #[o], by
    rw [Go.Sort.alloc_eq_grow, Go.Sort.alloc_eq_grow, Go.Sort.alloc_eq_grow, Go.Sort.grow_grow, Go.Sort.drew_grow, Go.Sort.grow_grow]
    rfl⟩
  unfold itC at B1 B2 l sz GR
  unfold itV
  dsimp only at B1 B2 l sz GR ⊢
  clear hz
  go_enter Try.func27, Try.ntmps27
  go_wp2_with fail
  generalize (w.alloc (.cells #[.int .u64 (i : Nat), .int .u64 (s : Nat), .int .i64 t] 34)).alloc (.cells #[.int .u64 (j : Nat), .int .u64 (r : Nat), .int .i64 u] 34) = v at *
  obtain ⟨n1, hn1⟩ : ∃ n, w.heap.size = n := ⟨_, rfl⟩
  rw [hn1] at B1 B2 ⊢
  have HB1 := Lib.hid B1
  have HB2 := Lib.hid B2
  clear B1 B2 sz l hn1
  have KX : Hid (∀ w' : World, Below v.heap.size v w' → w'.cell? ⟨n1, 0, none⟩ = some (.int .u64 (i : Nat)) ∧ w'.cell? ⟨n1, 1, none⟩ = some (.int .u64 (s : Nat)) ∧ w'.cell? ⟨n1, 2, none⟩ = some (.int .i64 t) ∧ w'.cell? ⟨n1 + 1, 0, none⟩ = some (.int .u64 (j : Nat)) ∧ w'.cell? ⟨n1 + 1, 1, none⟩ = some (.int .u64 (r : Nat)) ∧ w'.cell? ⟨n1 + 1, 2, none⟩ = some (.int .i64 u)) := fun w' b => by
    have e1 := (b.block n1 (Array.getElem?_eq_some_iff.1 HB1.out).1).trans HB1.out
    have e2 := (b.block (n1 + 1) (Array.getElem?_eq_some_iff.1 HB2.out).1).trans HB2.out
    exact ⟨blk_cell e1, blk_cell e1, blk_cell e1, blk_cell e2, blk_cell e2, blk_cell e2⟩
  have HB0 : Below v.heap.size v v := Below.refl _ _
  have AW : Below v.heap.size v (v.drew.alloc (.cells #[.int .i64 c1, .int .i64 c2, .int .i64 c3] 3)) := HB0.drew.alloc (Nat.le_refl _) _
  have AC := heap_alloc_new v.drew (.cells #[.int .i64 c1, .int .i64 c2, .int .i64 c3] 3)
  go_region_held3 (fun w' => w'.cell? ⟨n1, 0, none⟩ = some (.int .u64 (i : Nat)) ∧ w'.cell? ⟨n1, 1, none⟩ = some (.int .u64 (s : Nat)) ∧ w'.cell? ⟨n1, 2, none⟩ = some (.int .i64 t) ∧ w'.cell? ⟨n1 + 1, 0, none⟩ = some (.int .u64 (j : Nat)) ∧ w'.cell? ⟨n1 + 1, 1, none⟩ = some (.int .u64 (r : Nat)) ∧ w'.cell? ⟨n1 + 1, 2, none⟩ = some (.int .i64 u))
    (first | exact KX.out _ HB0 | exact KX.out _ HB0.drew | exact KX.out _ AW)
    (first
      | (go_at_call 43; refine (C1.out _).mono ?_; rintro e w5 ⟨rfl, rfl⟩)
      | (go_at_call_of 44 s; refine (C2.out _).mono ?_; rintro e w5 ⟨rfl, rfl⟩)
      | (go_at_call_of 44 i; refine (C3.out _).mono ?_; rintro e w5 ⟨rfl, rfl⟩)
      | (go_at_call 42; refine (CO.out _ _ (blk_cell AC) (blk_cell AC) (blk_cell AC)).mono ?_; rintro e w5 ⟨rfl, rfl⟩))
  have G := Lib.hid (GR.out (.cells #[.int .i64 c1, .int .i64 c2, .int .i64 c3] 3))
  clear GR
  go_wp2
  go_ret
  exact ⟨rfl, G.out⟩

/-- The law's closure. -/
theorem pcmp13 (w : World) (a b : It) : Calls Try.prog 29 #[itV a, itV b] w fun e w' => e = .returned (.int .i64 (cfI a b)) ∧ ∃ q os, w' = Go.Sort.grow (w.drewN q) os := by
  have AH := Lib.hid (pahead13_grow ((w.alloc (.cells (itC a) 34)).alloc (.cells (itC b) 34)) a b)
  obtain ⟨l, B1, B2, sz⟩ := two_blocks w (itC a) (itC b) 34 34
  have GR : Hid (∀ w', (∃ q os, w' = Go.Sort.grow (((w.alloc (.cells (itC a) 34)).alloc (.cells (itC b) 34)).drewN q) os) → ∃ q os, w' = Go.Sort.grow (w.drewN q) os) := fun w' ⟨q, os, h⟩ => ⟨q, #[.cells (itC a) 34] ++ (#[.cells (itC b) 34] ++ os), by
    rw [h, Go.Sort.alloc_eq_grow, Go.Sort.alloc_eq_grow]
    show Go.Sort.grow (Go.Sort.grow (Go.Sort.grow (w.drewN q) #[.cells (itC a) 34]) #[.cells (itC b) 34]) os = _
    rw [Go.Sort.grow_grow, Go.Sort.grow_grow]⟩
  have CF : Hid (cfI a b = if ahd a b = true then -1 else 1) := rfl
  obtain ⟨z, hz⟩ : ∃ z, ahd a b = z := ⟨_, rfl⟩
  rw [hz] at AH CF
  obtain ⟨i, s, t⟩ := a
  obtain ⟨j, r, u⟩ := b
  unfold itC at B1 B2 AH GR
  unfold itV at AH ⊢
  dsimp only at B1 B2 AH GR ⊢
  have x0 := blk_cell (o := 0) B1
  have x1 := blk_cell (o := 1) B1
  have x2 := blk_cell (o := 2) B1
  have y0 := blk_cell (o := 0) B2
  have y1 := blk_cell (o := 1) B2
  have y2 := blk_cell (o := 2) B2
  simp only [List.getElem?_toArray, List.getElem?_cons_zero, List.getElem?_cons_succ] at x0 x1 x2 y0 y1 y2
  clear l B1 B2 sz hz
  go_enter Try.func29, Try.ntmps29
  go_wp2_with fail
  refine AH.out.mono ?_; rintro e w5 ⟨rfl, g5⟩
  have G := Lib.hid (GR.out _ g5)
  clear g5 AH GR x0 x1 x2 y0 y1 y2
  cases z
  · have e1 : cfI ⟨i, s, t⟩ ⟨j, r, u⟩ = 1 := CF.out
    have E1 := Lib.hid e1
    clear CF e1
    go_wp2
    go_ret
    exact ⟨by rw [E1.out]; rfl, G.out⟩
  · have e1 : cfI ⟨i, s, t⟩ ⟨j, r, u⟩ = -1 := CF.out
    have E1 := Lib.hid e1
    clear CF e1
    go_wp2
    go_ret
    exact ⟨by rw [E1.out]; rfl, G.out⟩

/-- A row of items is sorted. -/
theorem psort13 (w : World) (p : Option Addr) (n c : Nat) (l : List It) (h : OwnI w 34 0 p n c l) (hn : n ≤ 1048576) :
    Calls Try.prog 28 #[.slice p n c, .func (.func 29) #[] #[]] w fun e w' => e = .returned (.tuple #[]) ∧ ∃ m, m.Perm l ∧ (∀ i j, i < j → j < n → ahd (gt m j) (gt m i) = false) ∧ HoldsI w' p n c m ∧ w.grownBy w' (Value.slice p n c).ownBlock := by
  have hl := h.holds.len
  have hc := h.holds.cap
  have hm := h.holds.max
  cases p with
  | none =>
    have c0 := h.holds.bare rfl
    have n0 : n = 0 := by omega
    subst c0 n0
    obtain rfl : l = [] := List.length_eq_zero_iff.1 hl
    have k := AnyF.slices_SortFunc_none Try.sortItems none 0 (.func (.func 29) #[] #[]) w
    change Calls Try.prog 28 _ _ _ at k
    refine k.mono ?_
    rintro e w' ⟨rfl, rfl⟩
    exact ⟨rfl, [], List.Perm.refl _, fun i j _ hj => absurd hj (by omega), h.holds, World.grownBy.refl _ _⟩
  | some a =>
    obtain ⟨ea, -⟩ := own_base0 h
    obtain ⟨g, o, f⟩ := a
    injection ea with _ e1 e2
    subst e1 e2
    have hK := holdsI_K h
    have hb : g < w.heap.size := h.lt
    have hsz : l.toArray.size = n := by simpa using hl
    have cl : CmpLays Try.prog 29 #[] encI 3 cfI g 0 l.toArray.size w := fun m os dk _ x y => pcmp13 _ x y
    have k := AnyQ.slices_SortFunc Try.sortItems 3 (fun w => Try.isAgg34 w) (fun w => Try.sizeOf34 w) encI (fun _ => rfl) (fun x v hv => by simp [encI] at hv; rcases hv with rfl | rfl | rfl <;> rfl) cfI swoI 29 #[] g 0 c l.toArray w
      (enters_of Try.func29 (by kernel_rfl) rfl) cl hK hb (by rw [hsz]; omega)
    rw [hsz] at k
    change Calls Try.prog 28 _ _ _ at k
    refine k.mono ?_
    rintro e w' ⟨rfl, d', m, os, hp, hs, rfl⟩
    have ds : d'.size = n := by rw [hp.1, hsz]
    refine ⟨rfl, d'.toList, ?_, fun i j hi hj => ?_, ?_, ?_⟩
    · have q := hp.2.2
      rw [← hsz] at q
      rw [show d'.extract 0 l.toArray.size = d' by rw [hsz, ← ds]; simp] at q
      simpa using q
    · have q := hs i j (Nat.zero_le _) hi hj
      rw [lt_cfI, get_gt, get_gt] at q
      exact q
    · exact holdsK_I (holdsK_sortWorldK_c encI 3 w g 0 l.toArray d' m os hK hb (by rw [ds, hsz])) ds hc hm
    · refine ⟨rfl, rfl, rfl, size_sortWorldK_c encI 3 w g 0 m d' os, fun k hk hne => ?_⟩
      have : g ≠ k := fun e => hne (by rw [e]; rfl)
      unfold sortWorldK
      rw [Go.Sort.heap_grow_old _ _ (by rw [Go.Sort.size_putRowK]; exact hk)]
      simp [Go.Sort.putRowK, Go.Sort.putRow, Go.Sort.mapBlock, Go.Sort.ahead, Array.getElem?_modify, this]
end Go.Proofs.Ytlfbenlojiiknaa
