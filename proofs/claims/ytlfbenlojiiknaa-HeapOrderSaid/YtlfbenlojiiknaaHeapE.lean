/- Layer 13 (heap), the document's own: New, Push. -/
import Derived.Test.YtlfbenlojiiknaaHeapD
import Derived.Deep.AppendLies
set_option maxRecDepth 100000
namespace Go.Proofs.Ytlfbenlojiiknaa
open Go.ChangeShapes Go.WideShapes Go.ChangeAt Go.RowKit HeapM

/-- Of all that was there, a heap's own block and its row's alone have turned. -/
structure HTurn (M : Nat) (p : Option Addr) (w w' : World) : Prop where
  keep : ∀ K, K ≠ M → (∀ a, p = some a → K ≠ a.block) → K < w.heap.size → w'.heap[K]? = w.heap[K]?
  low : ∀ B, B ≤ M → (∀ a, p = some a → B ≤ a.block) → B ≤ w.heap.size → Below B w w'
  size : w.heap.size ≤ w'.heap.size
theorem HTurn.of_below {M : Nat} {p : Option Addr} {w w' : World} (h : Below w.heap.size w w') : HTurn M p w w' := ⟨fun _ _ _ hK => h.block _ hK, fun _ _ _ hB => h.mono hB, h.size⟩
theorem HTurn.of_turn {M : Nat} {a : Addr} {w w' : World} (h : Turn a.block w w') : HTurn M (some a) w w' := ⟨fun _ _ hk hK => h.keep _ (hk a rfl) hK, fun _ _ hb hB => h.low _ (hb a rfl) hB, h.size⟩
theorem HTurn.trans {M : Nat} {p p' : Option Addr} {w w1 w2 : World} (h : HTurn M p w w1) (k : HTurn M p' w1 w2) (hp : p' = p ∨ ∀ a, p' = some a → w.heap.size ≤ a.block) : HTurn M p w w2 := by
  refine ⟨fun K h1 h2 h3 => ?_, fun B h1 h2 h3 => ?_, Nat.le_trans h.size k.size⟩
  · refine (k.keep K h1 (fun a ha => ?_) (Nat.lt_of_lt_of_le h3 h.size)).trans (h.keep K h1 h2 h3)
    rcases hp with e | e
    · exact h2 a (by rw [← e]; exact ha)
    · have := e a ha; omega
  · refine (h.low B h1 h2 h3).trans (k.low B h1 (fun a ha => ?_) (Nat.le_trans h3 h.size))
    rcases hp with e | e
    · exact h2 a (by rw [← e]; exact ha)
    · have := e a ha; omega
theorem HTurn.set {M o : Nat} {p : Option Addr} {w w' : World} (h : HTurn M p w w') (v : Value) : HTurn M p w (w'.setCell ⟨M, o, none⟩ v) :=
  ⟨fun K h1 h2 h3 => (Below.heap_setCell w' ⟨M, o, none⟩ v K h1).trans (h.keep K h1 h2 h3), fun B h1 h2 h3 => (h.low B h1 h2 h3).setCell h1 v, by have := h.size; simpa using this⟩
theorem HTurn.drew {M : Nat} {p : Option Addr} {w w' : World} (h : HTurn M p w w') : HTurn M p w w'.drew := ⟨h.keep, fun B h1 h2 h3 => (h.low B h1 h2 h3).drew, h.size⟩

theorem HTurn.grown {M n c : Nat} {p : Option Addr} {w w' w'' : World} (h : HTurn M p w w') (g : w'.grownBy w'' (Value.slice p n c).ownBlock) : HTurn M p w w'' := by
  refine ⟨fun K h1 h2 h3 => ?_, fun B h1 h2 h3 => ?_, Nat.le_trans h.size g.size⟩
  · refine (g.block K (Nat.lt_of_lt_of_le h3 h.size) (fun e => ?_)).trans (h.keep K h1 h2 h3)
    cases p with
    | none => cases e
    | some a => injection e with e; exact h2 a rfl e
  · refine (h.low B h1 h2 h3).grown g (Nat.le_trans h3 h.size) (fun k hk => ?_)
    cases p with
    | none => cases hk
    | some a => injection hk with hk; rw [← hk]; exact h2 a rfl

/-- What a call of the document's makes of its heap. -/
def RHpP (w : World) (M : Nat) (p : Option Addr) (sz : Int) (l : List It) (w' : World) : Prop := ∃ p' c', RHp w' M p' c' sz l ∧ HTurn M p w w' ∧ (p' = p ∨ ∀ a, p' = some a → w.heap.size ≤ a.block)
theorem RHpP.same {w w' : World} {M c : Nat} {p : Option Addr} {sz : Int} {l : List It} (h : RHp w M p c sz l) (b : Below w.heap.size w w') : RHpP w M p sz l w' := ⟨p, c, h.below b, HTurn.of_below b, .inl rfl⟩

def RNewP13 (w : World) (sz : Int) (e : Ending) (w' : World) : Prop := ∃ M, e = .returned (.tuple #[.pointer (some ⟨M, 0, none⟩), .int .i64 0]) ∧ RHp w' M none 0 sz [] ∧ w.heap.size ≤ M ∧ Below w.heap.size w w'
theorem rnew13_ok (w : World) (sz : Int) (h0 : 1 ≤ sz) (h1 : sz ≤ 1048576) : Calls Try.prog 10 #[.int .i64 sz] w (RNewP13 w sz) := by
  have F : Hid (RNewP13 w sz (.returned (.tuple #[.pointer (some ⟨w.heap.size, 0, none⟩), .int .i64 0])) (w.alloc (.cells #[.slice none 0 0, .int .i64 sz] 52))) :=
    ⟨_, rfl, ⟨heap_alloc_new _ _, OwnI.nil _ _ _, (fun a ha => by cases ha), by decide⟩, Nat.le_refl _, (Below.refl _ _).alloc (Nat.le_refl _) _⟩
  go_enter Try.func10, Try.ntmps10
  go_wp2
  go_ret2
  exact F.out
theorem rnew13_no (w : World) (sz : Int) (h : ¬ (1 ≤ sz ∧ sz ≤ 1048576)) : Calls Try.prog 10 #[.int .i64 sz] w fun e w' => e = .returned (.tuple #[.pointer none, .int .i64 1]) ∧ w = w' := by
  by_cases a : sz < 1
  · clear h
    go_enter Try.func10, Try.ntmps10
    go_wp2
    go_ret2
    exact ⟨rfl, rfl⟩
  · have b : 1048576 < sz := by omega
    have a' : 1 ≤ sz := by omega
    clear h a
    go_enter Try.func10, Try.ntmps10
    go_wp2
    go_ret2
    exact ⟨rfl, rfl⟩

/-- What Push tells, and what it makes. -/
def pushE (sz : Int) (l : List It) (x : It) : Int := if (place l x.id).isSome then 9 else if sz ≤ l.length then 7 else 0
def pushR (sz : Int) (l : List It) (x : It) : List It := if (place l x.id).isSome then l else if sz ≤ l.length then l else pushL l x
theorem push_there {sz : Int} {l : List It} {x : It} {k : Nat} (h : place l x.id = some k) : pushE sz l x = 9 ∧ pushR sz l x = l := by unfold pushE pushR; rw [h]; exact ⟨rfl, rfl⟩
theorem push_full {sz : Int} {l : List It} {x : It} (h : place l x.id = none) (f : sz ≤ l.length) : pushE sz l x = 7 ∧ pushR sz l x = l := by unfold pushE pushR; rw [h, if_pos f, if_pos f]; exact ⟨rfl, rfl⟩
theorem push_in {sz : Int} {l : List It} {x : It} (h : place l x.id = none) (f : ¬ sz ≤ l.length) : pushE sz l x = 0 ∧ pushR sz l x = pushL l x := by unfold pushE pushR; rw [h, if_neg f, if_neg f]; exact ⟨rfl, rfl⟩
theorem infoI : (Try.prog.info? 38).map (fun i => (i.zero, i.size, i.bytes)) = some (some (.agg #[.int .u64 0, .int .u64 0, .int .i64 0]), 3, 24) := by kernel_rfl
theorem infoI_of {o : Option TypeInfo} {z : Option Value} {s b : Nat} (h : o.map (fun i => (i.zero, i.size, i.bytes)) = some (z, s, b)) : ∃ i, o = some i ∧ i.zero = z ∧ i.size = s ∧ i.bytes = b := by
  obtain ⟨i, hi, h⟩ := Option.map_eq_some_iff.1 h
  simp only [Prod.mk.injEq] at h
  exact ⟨i, hi, h.1, h.2.1, h.2.2⟩

def RPushP (w : World) (M : Nat) (p : Option Addr) (sz : Int) (l : List It) (n : Int) (e : Ending) (w' : World) : Prop := e = .returned (.int .i64 n) ∧ RHpP w M p sz l w'

set_option maxHeartbeats 4000000 in
theorem rpush13_any (w : World) (M : Nat) (p : Option Addr) (c : Nat) (sz : Int) (l : List It) (x : It) (h : RHp w M p c sz l) (hs : sz ≤ 1048576) :
    Calls Try.prog 14 #[.pointer (some ⟨M, 0, none⟩), itV x] w (RPushP w M p sz (pushR sz l x) (pushE sz l x)) := by
  have AL : Below w.heap.size w (w.alloc (.cells (itC x) 38)) := (Below.refl _ _).alloc (Nat.le_refl _) _
  have BX : Hid ((w.alloc (.cells (itC x) 38)).heap[w.heap.size]? = some (.cells (itC x) 38 (0, 0))) := heap_alloc_new _ _
  have H1 := Lib.hid (h.below AL)
  have PL := Lib.hid (rplace13_any _ M p c sz l x.id (h.below AL))
  have L1 := Lib.hid AL
  have NX : Hid (M ≠ w.heap.size ∧ M < w.heap.size) := by
    have f := (Array.getElem?_eq_some_iff.1 h.b).1
    unfold Hid
    omega
  have fit := h.fit
  have H0 := Lib.hid h
  clear h AL
  cases hp : place l x.id with
  | some k =>
    have F : Hid (∀ w', Below w.heap.size w w' → RPushP w M p sz (pushR sz l x) (pushE sz l x) (.returned (.int .i64 9)) w') := fun w' b => by
      rw [(push_there hp).1, (push_there hp).2]
      exact ⟨rfl, RHpP.same H0.out b⟩
    have e : placeI l x.id = (k : Nat) := by unfold placeI; rw [hp]
    rw [e] at PL
    have k0 : (0 : Int) ≤ (k : Int) := by omega
    obtain ⟨xi, xs, xt⟩ := x
    unfold itC at BX L1 PL
    unfold itV
    dsimp only at BX L1 PL ⊢
    have x0 := blk_cell (o := 0) BX.out
    simp only [List.getElem?_toArray, List.getElem?_cons_zero] at x0
    clear hp e H1 NX H0 fit
    go_enter Try.func14, Try.ntmps14
    go_wp2_with fail
    refine PL.out.mono ?_; rintro e w1 ⟨rfl, rfl⟩
    go_wp2
    go_ret
    exact F.out _ L1.out
  | none =>
    have e : placeI l x.id = -1 := by unfold placeI; rw [hp]
    rw [e] at PL
    obtain ⟨n, hn⟩ : ∃ n, l.length = n := ⟨_, rfl⟩
    have HN := Lib.hid hn
    rw [hn] at fit
    have nb : (n : Int) ≤ 1048576 := by omega
    have c0 := blk_cell (o := 0) H1.out.b
    have c1 := blk_cell (o := 1) H1.out.b
    rw [hn] at c0
    simp only [List.getElem?_toArray, List.getElem?_cons_zero, List.getElem?_cons_succ] at c0 c1
    by_cases full : sz ≤ l.length
    · have F : Hid (∀ w', Below w.heap.size w w' → RPushP w M p sz (pushR sz l x) (pushE sz l x) (.returned (.int .i64 7)) w') := fun w' b => by
        rw [(push_full hp full).1, (push_full hp full).2]
        exact ⟨rfl, RHpP.same H0.out b⟩
      have d1 : sz ≤ (n : Int) := by rw [← hn]; exact full
      have d2 : decide (sz ≤ (n : Int)) = true := decide_eq_true d1
      obtain ⟨xi, xs, xt⟩ := x
      unfold itC at BX L1 PL c0 c1
      unfold itV
      dsimp only at BX L1 PL c0 c1 ⊢
      have x0 := blk_cell (o := 0) BX.out
      simp only [List.getElem?_toArray, List.getElem?_cons_zero] at x0
      have L2 := Lib.hid (L1.out.drew)
      clear hp e H1 NX H0 fit hn full
      go_enter Try.func14, Try.ntmps14
      go_wp2_with fail
      refine PL.out.mono ?_; rintro e w1 ⟨rfl, rfl⟩
      go_wp2_with fail
      go_region
      go_wp2
      go_ret
      exact F.out _ L2.out
    · have F : Hid (∀ w', RHpP w M p sz (pushL l x) w' → RPushP w M p sz (pushR sz l x) (pushE sz l x) (.returned (.int .i64 0)) w') := fun w' b => by
        rw [(push_in hp full).1, (push_in hp full).2]
        exact ⟨rfl, b⟩
      have d1 : (n : Int) < sz := by rw [← hn]; omega
      have d2 : decide (sz ≤ (n : Int)) = false := decide_eq_false (by omega)
      have n1 : (n : Int) + 1 ≤ 1048576 := by omega
      have hlen : Hid (∀ q, x.id = q → ∀ j, j < l.length → (gt l j).id ≠ q) := fun q hq j hj => by rw [← hq]; exact place_none hp hj
      obtain ⟨xi, xs, xt⟩ := x
      unfold itC at BX L1 PL c0 c1 H1
      unfold itV
      dsimp only at BX L1 PL c0 c1 H1 ⊢
      have x0 := blk_cell (o := 0) BX.out
      have x1 := blk_cell (o := 1) BX.out
      have x2 := blk_cell (o := 2) BX.out
      simp only [List.getElem?_toArray, List.getElem?_cons_zero, List.getElem?_cons_succ] at x0 x1 x2
      obtain ⟨iI, hi, hz0, hz1, hz2⟩ := infoI_of infoI
      clear hp e hn full
      go_enter Try.func14, Try.ntmps14
      go_wp2_with fail
      refine PL.out.mono ?_; rintro e w1 ⟨rfl, rfl⟩
      go_wp2_with fail
      clear PL
      generalize w.alloc (.cells #[.int .u64 (xi : Nat), .int .u64 (xs : Nat), .int .i64 xt] 38) = v at *
      obtain ⟨bx, hbx⟩ : ∃ b, w.heap.size = b := ⟨_, rfl⟩
      have HX := Lib.hid hbx
      rw [hbx] at BX NX L1 x0 x1 x2 ⊢
      clear hbx
      go_region
      have H2 : Hid (RHp v.drew M p c sz l) := H1.out.below (Below.refl _ _).drew
      have B2 : Hid (v.drew.heap[bx]? = some (.cells #[.int .u64 (xi : Nat), .int .u64 (xs : Nat), .int .i64 xt] 38 (0, 0))) := BX.out
      have L2 : Hid (Below bx w v.drew) := L1.out.drew
      go_wp2_with fail
      generalize v.drew = v1 at *
      clear x0 x1 x2 c0 c1 H1 BX L1
      have x0 := blk_cell (o := 0) B2.out
      have x1 := blk_cell (o := 1) B2.out
      have x2 := blk_cell (o := 2) B2.out
      have c0 := blk_cell (o := 0) H2.out.b
      have f0 := blk_free (o := 0) H2.out.b
      rw [HN.out] at c0
      simp only [List.getElem?_toArray, List.getElem?_cons_zero, List.getElem?_cons_succ] at x0 x1 x2 c0
      have AL : Below v1.heap.size v1 (v1.alloc (.cells #[.int .u64 (xi : Nat), .int .u64 (xs : Nat), .int .i64 xt] 38)) := (Below.refl _ _).alloc (Nat.le_refl _) _
      have H3 := Lib.hid (H2.out.below AL)
      have c1 := blk_cell (o := 0) H3.out.b
      rw [HN.out] at c1
      simp only [List.getElem?_toArray, List.getElem?_cons_zero] at c1
      have B3 : Hid ((v1.alloc (.cells #[.int .u64 (xi : Nat), .int .u64 (xs : Nat), .int .i64 xt] 38)).heap[bx]? = some (.cells #[.int .u64 (xi : Nat), .int .u64 (xs : Nat), .int .i64 xt] 38 (0, 0))) := (AL.block _ (Array.getElem?_eq_some_iff.1 B2.out).1).trans B2.out
      have KX : Hid (∀ w' : World, w'.heap[bx]? = some (.cells #[.int .u64 (xi : Nat), .int .u64 (xs : Nat), .int .i64 xt] 38 (0, 0)) → w'.cell? ⟨bx, 0, none⟩ = some (.int .u64 (xi : Nat)) ∧ w'.cell? ⟨bx, 1, none⟩ = some (.int .u64 (xs : Nat)) ∧ w'.cell? ⟨bx, 2, none⟩ = some (.int .i64 xt)) := fun w' h => ⟨blk_cell h, blk_cell h, blk_cell h⟩
      have ONE : Hid (∀ u ∈ ([.int .u64 (xi : Nat), .int .u64 (xs : Nat), .int .i64 xt] : List Value), u.oneCell' = true) := by
        intro u hu
        simp only [List.mem_cons, List.not_mem_nil, or_false] at hu
        rcases hu with rfl | rfl | rfl <;> rfl
      have BM : Hid (n + 1 ≤ maxLen) := by unfold Hid maxLen; omega
      have BY : Hid ((n + 1) * 24 ≤ 140737488355328) := by unfold Hid; omega
      have OW : Hid ((v1.alloc (.cells #[.int .u64 (xi : Nat), .int .u64 (xs : Nat), .int .i64 xt] 38)).drew.ownsRow 0 38 3 (.slice p n c) n (cellsI l)) := by
        have o := H3.out.o.below (Below.refl _ _).drew
        unfold OwnI at o
        rw [HN.out] at o
        exact o
      have x3 := (KX.out _ B3.out).1
      have x4 := (KX.out _ B3.out).2.1
      have x5 := (KX.out _ B3.out).2.2
      have AF : Hid (∀ gg cap w3, w3.ownsRow 0 38 3 (.slice (some ⟨gg, 0, none⟩) (n + 1) cap) (n + 1) (cellsI l ++ [.int .u64 (xi : Nat), .int .u64 (xs : Nat), .int .i64 xt]) →
          (v1.alloc (.cells #[.int .u64 (xi : Nat), .int .u64 (xs : Nat), .int .i64 xt] 38)).drew.grownBy w3 (Value.slice p n c).ownBlock → ((Value.slice p n c).ownBlock = some gg ∨ gg = (v1.alloc (.cells #[.int .u64 (xi : Nat), .int .u64 (xs : Nat), .int .i64 xt] 38)).drew.heap.size) →
          w3.heap[bx]? = some (.cells #[.int .u64 (xi : Nat), .int .u64 (xs : Nat), .int .i64 xt] 38 (0, 0)) ∧ w3.cell? ⟨M, 0, none⟩ = some (.slice p n c) ∧ w3.frozen? ⟨M, 0, none⟩ = false ∧
          ((w3.setCell ⟨M, 0, none⟩ (.slice (some ⟨gg, 0, none⟩) (n + 1) cap)).heap[bx]? = some (.cells #[.int .u64 (xi : Nat), .int .u64 (xs : Nat), .int .i64 xt] 38 (0, 0)) ∧
            RHp (w3.setCell ⟨M, 0, none⟩ (.slice (some ⟨gg, 0, none⟩) (n + 1) cap)) M (some ⟨gg, 0, none⟩) cap sz (l ++ [⟨xi, xs, xt⟩]) ∧ HTurn M p w (w3.setCell ⟨M, 0, none⟩ (.slice (some ⟨gg, 0, none⟩) (n + 1) cap)) ∧ (some ⟨gg, 0, none⟩ = p ∨ ∀ a, some (⟨gg, 0, none⟩ : Addr) = some a → w.heap.size ≤ a.block))) := by
        intro gg cap w3 o3 g3 m3
        have AD : Below v1.heap.size v1 (v1.alloc (.cells #[.int .u64 (xi : Nat), .int .u64 (xs : Nat), .int .i64 xt] 38)).drew := AL.drew
        have M2 := (AD.block M (Array.getElem?_eq_some_iff.1 H2.out.b).1).trans H2.out.b
        have S2 : v1.heap.size ≤ (v1.alloc (.cells #[.int .u64 (xi : Nat), .int .u64 (xs : Nat), .int .i64 xt] 38)).drew.heap.size := AD.size
        have X2 := (AD.block bx (Array.getElem?_eq_some_iff.1 B2.out).1).trans B2.out
        have W2 : Below w.heap.size w (v1.alloc (.cells #[.int .u64 (xi : Nat), .int .u64 (xs : Nat), .int .i64 xt] 38)).drew := by
          rw [HX.out]
          have := L2.out.size
          exact L2.out.trans (AD.mono (by have := HX.out; omega))
        have MV : M < v1.heap.size := (Array.getElem?_eq_some_iff.1 H2.out.b).1
        have XV : bx < v1.heap.size := (Array.getElem?_eq_some_iff.1 B2.out).1
        have rowB : ∀ k, (Value.slice p n c).ownBlock = some k → ∃ a, p = some a ∧ a.block = k ∧ a = ⟨k, 0, none⟩ ∧ k < bx ∧ k ≠ M := by
          intro k hk
          cases p with
          | none => cases hk
          | some a =>
            injection hk with hk
            have e := own_base0 H0.out.o
            have lt := H0.out.o.lt
            have fa := H0.out.far a rfl
            refine ⟨a, rfl, hk, by rw [← hk]; exact e.1, by rw [← hk, ← HX.out]; exact lt, by rw [← hk]; exact fa⟩
        have M3 : w3.heap[M]? = some (.cells #[.slice p n c, .int .i64 sz] 52 (0, 0)) := by
          rw [g3.block M (Nat.lt_of_lt_of_le MV S2) (fun e => by obtain ⟨a, -, -, -, -, ne⟩ := rowB M e.symm; exact ne rfl), M2, HN.out]
        have X3 := (g3.block bx (Nat.lt_of_lt_of_le XV S2) (fun e => by obtain ⟨a, -, -, -, lt, -⟩ := rowB bx e.symm; omega)).trans X2
        have gm : gg ≠ M := by
          rcases m3 with e | e
          · obtain ⟨a, -, -, -, -, ne⟩ := rowB gg e; exact ne
          · rw [e]; omega
        have ln : (l ++ [(⟨xi, xs, xt⟩ : It)]).length = n + 1 := by rw [List.length_append, HN.out]; rfl
        refine ⟨X3, blk_cell (o := 0) M3, blk_free (o := 0) M3, (Go.Deep.blk_setCell_other _ _ _ _ (Ne.symm NX.out.1)).trans X3, ⟨?_, ?_, fun a ha => by injection ha with ha; rw [← ha]; exact gm, by rw [ln]; omega⟩, ?_, ?_⟩
        · rw [ln]
          exact blk_set M3
        · rw [ln]
          have o : OwnI w3 38 0 (some ⟨gg, 0, none⟩) (n + 1) cap (l ++ [⟨xi, xs, xt⟩]) := by
            unfold OwnI
            rw [cellsI_app]
            exact o3
          refine o.keep fun a ha => ?_
          injection ha with ha
          rw [← ha]
          exact Go.Deep.blk_setCell_other _ _ _ _ gm
        · exact ((HTurn.of_below W2).grown g3).set _
        · rcases m3 with e | e
          · obtain ⟨a, ea, -, e3, -, -⟩ := rowB gg e
            left
            rw [ea, e3]
          · right
            intro a ha
            injection ha with ha
            rw [← ha]
            show w.heap.size ≤ gg
            rw [e, HX.out]
            exact Nat.le_trans (Nat.le_of_lt XV) S2
      /- the region: begin -/
      refine wp_region_held_drew (S := fun w' => w'.cell? ⟨bx, 0, none⟩ = some (.int .u64 (xi : Nat)) ∧ w'.cell? ⟨bx, 1, none⟩ = some (.int .u64 (xs : Nat)) ∧ w'.cell? ⟨bx, 2, none⟩ = some (.int .i64 xt)) (by kernel_rfl) (KX.out _ B2.out) (fun hHeld => ?_)
      refine wpAnyH_take (i := 0) (v := ?_) (by (simp only [List.getElem?_toArray, List.getElem?_cons_zero]; exact rfl)) (by kernel_rfl) (by kernel_rfl) (by kernel_rfl) (by exact fun _ _ _ h => h) (Or.inl ⟨by rfl, ?_⟩) (by assumption) ?_
      rotate_left
      · (intro w hSw; (try dsimp only at hSw); first | (go_simp; done) | (go_simp; with_reducible rfl))
      try simp only [Act.put, List.setIfInBounds_toArray, List.set_cons_zero, List.set_cons_succ]
      refine wpAnyH_take (i := 1) (v := ?_) (by (simp only [List.getElem?_toArray, List.getElem?_cons_zero, List.getElem?_cons_succ]; exact rfl)) (by kernel_rfl) (by kernel_rfl) (by kernel_rfl) (by exact fun _ _ _ h => h) (Or.inl ⟨by rfl, ?_⟩) (by assumption) ?_
      rotate_left
      · (intro w hSw; (try dsimp only at hSw); first | (go_simp; done) | (go_simp; with_reducible rfl))
      try simp only [Act.put, List.setIfInBounds_toArray, List.set_cons_zero, List.set_cons_succ]
      refine wpAnyH_take (i := 2) (v := ?_) (by (simp only [List.getElem?_toArray, List.getElem?_cons_zero, List.getElem?_cons_succ]; exact rfl)) (by kernel_rfl) (by kernel_rfl) (by kernel_rfl) (by exact fun _ _ _ h => h) (Or.inl ⟨by rfl, ?_⟩) (by assumption) ?_
      rotate_left
      · (intro w hSw; (try dsimp only at hSw); first | (go_simp; done) | (go_simp; with_reducible rfl))
      try simp only [Act.put, List.setIfInBounds_toArray, List.set_cons_zero, List.set_cons_succ]
      refine wpAnyH_take (i := 3) (v := ?_) (by (simp only [List.getElem?_toArray, List.getElem?_cons_zero, List.getElem?_cons_succ]; exact rfl)) (by kernel_rfl) (by kernel_rfl) (by kernel_rfl) (by exact fun _ _ _ h => h) (Or.inl ⟨by rfl, ?_⟩) (by assumption) ?_
      rotate_left
      · (intro w hSw; (try dsimp only at hSw); first | (go_simp; done) | (go_simp; with_reducible rfl))
      try simp only [Act.put, List.setIfInBounds_toArray, List.set_cons_zero, List.set_cons_succ]
      refine wpAnyH_take (i := 5) (v := ?_) (by (simp only [List.getElem?_toArray, List.getElem?_cons_zero, List.getElem?_cons_succ]; exact rfl)) (by kernel_rfl) (by kernel_rfl) (by kernel_rfl) (by exact fun _ _ _ h => h) (Or.inl ⟨by rfl, ?_⟩) (by assumption) ?_
      rotate_left
      · (intro w hSw; (try dsimp only at hSw); first | (go_simp; done) | (go_simp; with_reducible rfl))
      try simp only [Act.put, List.setIfInBounds_toArray, List.set_cons_zero, List.set_cons_succ]
      refine wpAnyH_ready (rs := [4, 6]) (by kernel_rfl) (by simp) ?_
      refine AllReadyH.cons (by (simp only [List.getElem?_toArray, List.getElem?_cons_zero, List.getElem?_cons_succ]; exact rfl)) (fun K hK => ?_) (AllReadyH.cons (by (simp only [List.getElem?_toArray, List.getElem?_cons_zero, List.getElem?_cons_succ]; exact rfl)) (fun K hK => ?_) AllReadyH.nil)
      · go_simp
        refine hK.out _ _ (KX.out _ B2.out) (fun hHeld => ?_)
        clear hK K
        try simp only [Act.put, List.setIfInBounds_toArray, List.set_cons_zero, List.set_cons_succ]
        refine wpAnyH_ready (rs := [6]) (by kernel_rfl) (by simp) ?_
        refine AllReadyH.cons (by (simp only [List.getElem?_toArray, List.getElem?_cons_zero, List.getElem?_cons_succ]; exact rfl)) (fun K hK => ?_) AllReadyH.nil
        go_simp
        refine hK.out _ _ (KX.out _ B3.out) (fun hHeld => ?_)
        clear hK K
        try simp only [Act.put, List.setIfInBounds_toArray, List.set_cons_zero, List.set_cons_succ]
        refine wpAnyH_ready (rs := [7]) (by kernel_rfl) (by simp) ?_
        refine AllReadyH.cons (by (simp only [List.getElem?_toArray, List.getElem?_cons_zero, List.getElem?_cons_succ]; exact rfl)) (fun K hK => ?_) AllReadyH.nil
        refine step_append_lies _ (by rfl) _ _ _ (by rfl) 0 38 iI (.agg #[.int .u64 0, .int .u64 0, .int .i64 0]) 3 24 Try.underlying50 hi hz0 hz1 hz2 (by rfl) (by decide) (.slice p n c) n (cellsI l) (by rfl) OW.out ⟨v1.heap.size, 0, none⟩ 1 1 [.int .u64 (xi : Nat), .int .u64 (xs : Nat), .int .i64 xt] (by rfl) (by rfl) (World.news_of_block (heap_alloc_new v1 _)) ONE.out (by decide) BM.out BY.out (Nat.zero_le _) _ rfl ?_
        intro gg cap w3 o3 g3 m3 lt3
        obtain ⟨B4, M4, F4, H4⟩ := AF.out gg cap w3 o3 g3 m3
        refine hK.out _ _ (KX.out _ B4) (fun hHeld => ?_)
        clear hK K
        try simp only [Act.put, List.setIfInBounds_toArray, List.set_cons_zero, List.set_cons_succ]
        refine wpAnyH_take (i := 8) (v := ?_) (by (simp only [List.getElem?_toArray, List.getElem?_cons_zero, List.getElem?_cons_succ]; exact rfl)) (by kernel_rfl) (by kernel_rfl) (by kernel_rfl) (by exact fun _ _ _ h => h) (Or.inl ⟨by rfl, ?_⟩) (by assumption) ?_
        rotate_left
        · (intro w hSw; (try dsimp only at hSw); first | (go_simp; done) | (go_simp; with_reducible rfl))
        try simp only [Act.put, List.setIfInBounds_toArray, List.set_cons_zero, List.set_cons_succ]
        refine wpAnyH_take (i := 9) (v := ?_) (by (simp only [List.getElem?_toArray, List.getElem?_cons_zero, List.getElem?_cons_succ]; exact rfl)) (by kernel_rfl) (by kernel_rfl) (by kernel_rfl) (by exact fun _ _ _ h => h) (Or.inl ⟨by rfl, ?_⟩) (by assumption) ?_
        rotate_left
        · (intro w hSw; (try dsimp only at hSw); first | (go_simp; done) | (go_simp; with_reducible rfl))
        try simp only [Act.put, List.setIfInBounds_toArray, List.set_cons_zero, List.set_cons_succ]
        refine wpAnyH_ready (rs := [10]) (by kernel_rfl) (by simp) ?_
        refine AllReadyH.cons (by (simp only [List.getElem?_toArray, List.getElem?_cons_zero, List.getElem?_cons_succ]; exact rfl)) (fun K hK => ?_) AllReadyH.nil
        go_simp
        refine hK.out _ _ (KX.out _ H4.1) (fun hHeld => ?_)
        clear hK K
        try simp only [Act.put, List.setIfInBounds_toArray, List.set_cons_zero, List.set_cons_succ]
        refine wpAnyH_done (by kernel_rfl) ?_ _
        obtain ⟨-, R5, T5, P5⟩ := H4
        obtain ⟨n2, hn2⟩ : ∃ k, n + 1 = k := ⟨_, rfl⟩
        have z0 := blk_cell (o := 0) R5.b
        have LN2 : (l ++ [(⟨xi, xs, xt⟩ : It)]).length = n2 := by rw [List.length_append, HN.out, ← hn2]; rfl
        rw [LN2] at z0
        simp only [List.getElem?_toArray, List.getElem?_cons_zero] at z0
        have u1 : (n2 : Int) - 1 = (n : Int) := by omega
        have u2 : wrap64 (n : Int) = (n : Int) := by unfold wrap64; omega
        have u3 : IntKind.i64.wrap (n : Int) = (n : Int) := by rw [IntKind.wrap_i64]; omega
        have UP := Lib.hid (rup13_any _ M ⟨gg, 0, none⟩ cap sz (l ++ [⟨xi, xs, xt⟩]) n R5 (by rw [LN2]; omega))
        have FE : Hid (∀ w6, RHp w6 M (some ⟨gg, 0, none⟩) cap sz (upL (l ++ [⟨xi, xs, xt⟩]) n) → Turn gg (w3.setCell ⟨M, 0, none⟩ (.slice (some ⟨gg, 0, none⟩) (n + 1) cap)) w6 → RHpP w M p sz (pushL l ⟨xi, xs, xt⟩) w6) := fun w6 r t => ⟨_, _, by unfold pushL; rw [HN.out]; exact r, T5.trans (HTurn.of_turn (a := ⟨gg, 0, none⟩) t) P5, P5⟩
        clear B4 M4 F4 R5 T5 P5 LN2 o3 g3 m3 lt3 AF
        generalize w3.setCell ⟨M, 0, none⟩ (.slice (some ⟨gg, 0, none⟩) (n + 1) cap) = w4 at *
        clear hn2
        go_wp2_with fail
        refine UP.out.mono ?_; rintro e w6 ⟨rfl, r6, t6⟩
        have GG := Lib.hid (F.out _ (FE.out w6 r6 t6))
        clear r6 t6 FE F
        go_wp2
        go_ret
        exact GG.out
      · go_simp
        refine hK.out _ _ (KX.out _ B3.out) (fun hHeld => ?_)
        clear hK K
        try simp only [Act.put, List.setIfInBounds_toArray, List.set_cons_zero, List.set_cons_succ]
        refine wpAnyH_ready (rs := [4]) (by kernel_rfl) (by simp) ?_
        refine AllReadyH.cons (by (simp only [List.getElem?_toArray, List.getElem?_cons_zero, List.getElem?_cons_succ]; exact rfl)) (fun K hK => ?_) AllReadyH.nil
        go_simp
        refine hK.out _ _ (KX.out _ B3.out) (fun hHeld => ?_)
        clear hK K
        try simp only [Act.put, List.setIfInBounds_toArray, List.set_cons_zero, List.set_cons_succ]
        refine wpAnyH_ready (rs := [7]) (by kernel_rfl) (by simp) ?_
        refine AllReadyH.cons (by (simp only [List.getElem?_toArray, List.getElem?_cons_zero, List.getElem?_cons_succ]; exact rfl)) (fun K hK => ?_) AllReadyH.nil
        refine step_append_lies _ (by rfl) _ _ _ (by rfl) 0 38 iI (.agg #[.int .u64 0, .int .u64 0, .int .i64 0]) 3 24 Try.underlying50 hi hz0 hz1 hz2 (by rfl) (by decide) (.slice p n c) n (cellsI l) (by rfl) OW.out ⟨v1.heap.size, 0, none⟩ 1 1 [.int .u64 (xi : Nat), .int .u64 (xs : Nat), .int .i64 xt] (by rfl) (by rfl) (World.news_of_block (heap_alloc_new v1 _)) ONE.out (by decide) BM.out BY.out (Nat.zero_le _) _ rfl ?_
        intro gg cap w3 o3 g3 m3 lt3
        obtain ⟨B4, M4, F4, H4⟩ := AF.out gg cap w3 o3 g3 m3
        refine hK.out _ _ (KX.out _ B4) (fun hHeld => ?_)
        clear hK K
        try simp only [Act.put, List.setIfInBounds_toArray, List.set_cons_zero, List.set_cons_succ]
        refine wpAnyH_take (i := 8) (v := ?_) (by (simp only [List.getElem?_toArray, List.getElem?_cons_zero, List.getElem?_cons_succ]; exact rfl)) (by kernel_rfl) (by kernel_rfl) (by kernel_rfl) (by exact fun _ _ _ h => h) (Or.inl ⟨by rfl, ?_⟩) (by assumption) ?_
        rotate_left
        · (intro w hSw; (try dsimp only at hSw); first | (go_simp; done) | (go_simp; with_reducible rfl))
        try simp only [Act.put, List.setIfInBounds_toArray, List.set_cons_zero, List.set_cons_succ]
        refine wpAnyH_take (i := 9) (v := ?_) (by (simp only [List.getElem?_toArray, List.getElem?_cons_zero, List.getElem?_cons_succ]; exact rfl)) (by kernel_rfl) (by kernel_rfl) (by kernel_rfl) (by exact fun _ _ _ h => h) (Or.inl ⟨by rfl, ?_⟩) (by assumption) ?_
        rotate_left
        · (intro w hSw; (try dsimp only at hSw); first | (go_simp; done) | (go_simp; with_reducible rfl))
        try simp only [Act.put, List.setIfInBounds_toArray, List.set_cons_zero, List.set_cons_succ]
        refine wpAnyH_ready (rs := [10]) (by kernel_rfl) (by simp) ?_
        refine AllReadyH.cons (by (simp only [List.getElem?_toArray, List.getElem?_cons_zero, List.getElem?_cons_succ]; exact rfl)) (fun K hK => ?_) AllReadyH.nil
        go_simp
        refine hK.out _ _ (KX.out _ H4.1) (fun hHeld => ?_)
        clear hK K
        try simp only [Act.put, List.setIfInBounds_toArray, List.set_cons_zero, List.set_cons_succ]
        refine wpAnyH_done (by kernel_rfl) ?_ _
        obtain ⟨-, R5, T5, P5⟩ := H4
        obtain ⟨n2, hn2⟩ : ∃ k, n + 1 = k := ⟨_, rfl⟩
        have z0 := blk_cell (o := 0) R5.b
        have LN2 : (l ++ [(⟨xi, xs, xt⟩ : It)]).length = n2 := by rw [List.length_append, HN.out, ← hn2]; rfl
        rw [LN2] at z0
        simp only [List.getElem?_toArray, List.getElem?_cons_zero] at z0
        have u1 : (n2 : Int) - 1 = (n : Int) := by omega
        have u2 : wrap64 (n : Int) = (n : Int) := by unfold wrap64; omega
        have u3 : IntKind.i64.wrap (n : Int) = (n : Int) := by rw [IntKind.wrap_i64]; omega
        have UP := Lib.hid (rup13_any _ M ⟨gg, 0, none⟩ cap sz (l ++ [⟨xi, xs, xt⟩]) n R5 (by rw [LN2]; omega))
        have FE : Hid (∀ w6, RHp w6 M (some ⟨gg, 0, none⟩) cap sz (upL (l ++ [⟨xi, xs, xt⟩]) n) → Turn gg (w3.setCell ⟨M, 0, none⟩ (.slice (some ⟨gg, 0, none⟩) (n + 1) cap)) w6 → RHpP w M p sz (pushL l ⟨xi, xs, xt⟩) w6) := fun w6 r t => ⟨_, _, by unfold pushL; rw [HN.out]; exact r, T5.trans (HTurn.of_turn (a := ⟨gg, 0, none⟩) t) P5, P5⟩
        clear B4 M4 F4 R5 T5 P5 LN2 o3 g3 m3 lt3 AF
        generalize w3.setCell ⟨M, 0, none⟩ (.slice (some ⟨gg, 0, none⟩) (n + 1) cap) = w4 at *
        clear hn2
        go_wp2_with fail
        refine UP.out.mono ?_; rintro e w6 ⟨rfl, r6, t6⟩
        have GG := Lib.hid (F.out _ (FE.out w6 r6 t6))
        clear r6 t6 FE F
        go_wp2
        go_ret
        exact GG.out
      /- the region: end -/
end Go.Proofs.Ytlfbenlojiiknaa
