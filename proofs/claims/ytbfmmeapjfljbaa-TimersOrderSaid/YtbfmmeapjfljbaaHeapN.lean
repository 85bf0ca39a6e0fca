/- Layer 13 (heap): what follows, in plain lists: the first one, all in order; items that are moved alike. No Go in sight. -/
import Derived.Test.YtbfmmeapjfljbaaHeapM
namespace Go.Proofs.Ytbfmmeapjfljbaa.HeapM

/-! ### The first one -/
theorem mem_gt {l : List It} {x : It} (h : x ∈ l) : ∃ k, k < l.length ∧ gt l k = x := by
  obtain ⟨k, hk, e⟩ := List.getElem_of_mem h
  exact ⟨k, hk, by rw [gt_of hk, e]⟩
theorem Heap.least {l : List It} (h : Heap l) {x : It} (hx : x ∈ l) : ahd x (gt l 0) = false := by
  obtain ⟨k, hk, rfl⟩ := mem_gt hx
  exact h.first k hk
theorem Heap.ahead {l : List It} (h : Heap l) {x : It} (hx : x ∈ l) (ne : x ≠ gt l 0) : ahd (gt l 0) x = true := by
  rw [ahd_total (Ne.symm ne), h.least hx]
  rfl
/-- Two heaps of the same items have the same first one. -/
theorem same_first {l m : List It} (h : Heap l) (k : Heap m) (p : l.Perm m) (h0 : 0 < l.length) : gt l 0 = gt m 0 := by
  have m0 : 0 < m.length := by rw [← p.length_eq]; exact h0
  exact nah_eq (k.least (p.mem_iff.1 (gt_mem h0))) (h.least (p.mem_iff.2 (gt_mem m0)))
/-- What is left of them is the same, too. -/
theorem same_rest {l m : List It} (h : Heap l) (k : Heap m) (p : l.Perm m) (h0 : 0 < l.length) : (remL l 0).Perm (remL m 0) := by
  have m0 : 0 < m.length := by rw [← p.length_eq]; exact h0
  have a := (rem_perm h0).trans (p.trans (rem_perm m0).symm)
  rw [same_first h k p h0] at a
  exact (List.perm_cons _).1 a
/-- All in order: the first one of a row in order of the same items; the rest. -/
theorem order_first {l ws : List It} {x : It} (h : Heap l) (p : (x :: ws).Perm l) (s : ∀ y ∈ ws, ahd y x = false) : gt l 0 = x ∧ (remL l 0).Perm ws ∧ 0 < l.length := by
  have l0 : 0 < l.length := by rw [← p.length_eq]; simp
  have e : gt l 0 = x := by
    refine nah_eq ?_ (h.least (p.mem_iff.1 (List.mem_cons_self ..)))
    have g := p.mem_iff.2 (gt_mem l0)
    rcases List.mem_cons.1 g with g | g
    · rw [g]; exact ahd_irrefl _
    · exact s _ g
  refine ⟨e, ?_, l0⟩
  have a := (rem_perm l0).trans p.symm
  rw [e] at a
  exact (List.perm_cons _).1 a

/-! ### Items that are moved alike -/
section
variable {f : It → It}
theorem gt_map {l : List It} {k : Nat} (h : k < l.length) : gt (l.map f) k = f (gt l k) := by
  rw [gt_of (by simpa using h), gt_of h]
  simp
theorem set_map (l : List It) (k : Nat) (x : It) : (l.map f).set k (f x) = (l.set k x).map f := by rw [List.map_set]
theorem sw_map {l : List It} {i k : Nat} (hi : i < l.length) (hk : k < l.length) : sw (l.map f) i k = (sw l i k).map f := by
  unfold sw
  rw [gt_map hi, gt_map hk, set_map, set_map]
variable (hf : ∀ a b, ahd (f a) (f b) = ahd a b)
include hf
theorem upB_map {l : List It} {k : Nat} (h : k < l.length) : upB (l.map f) k = upB l k := by
  unfold upB
  by_cases k0 : 0 < k
  · have := par_lt k0
    rw [gt_map h, gt_map (by omega), hf]
  · rw [decide_eq_false k0]; rfl
theorem upF_map : ∀ (m : Nat) (l : List It) (k : Nat), k < l.length → upF m (l.map f) k = (upF m l k).map f
  | 0, _, _, _ => rfl
  | m + 1, l, k, h => by
    unfold upF
    by_cases e : k = 0
    · rw [if_pos e, if_pos e]
    · rw [if_neg e, if_neg e]
      have := par_lt (k := k) (by omega)
      rw [gt_map h, gt_map (by omega), hf]
      split
      · rw [sw_map h (by omega)]
        exact upF_map m _ _ (by rw [sw_len]; omega)
      · rfl
theorem upL_map {l : List It} {k : Nat} (h : k < l.length) : upL (l.map f) k = (upL l k).map f := upF_map hf k l k h
theorem bestF_map {l : List It} {k : Nat} (h : k < l.length) : ∀ i, bestF (l.map f) k i = bestF l k i
  | 0 => rfl
  | i + 1 => by
    unfold bestF
    rw [bestF_map h i, List.length_map]
    have b : bestF l k i < l.length := by
      rcases bestF_in l k i with e | ⟨_, _, e⟩
      · rw [e]; exact h
      · exact e
    by_cases c : 4 * k + 1 + i < l.length
    · rw [gt_map c, gt_map b, hf]
    · rw [if_neg (fun g => c g.1), if_neg (fun g => c g.1)]
theorem downF_map : ∀ (m : Nat) (l : List It) (k : Nat), k < l.length → downF m (l.map f) k = (downF m l k).map f
  | 0, _, _, _ => rfl
  | m + 1, l, k, h => by
    unfold downF
    have e : best (l.map f) k = best l k := bestF_map hf h 4
    rw [e]
    rcases best_in l k with g | ⟨a, b, c⟩
    · rw [if_pos g, if_pos g]
    · rw [if_neg (by omega), if_neg (by omega), sw_map h c]
      exact downF_map m _ _ (by rw [sw_len]; exact c)
theorem downL_map {l : List It} {k : Nat} (h : k < l.length) : downL (l.map f) k = (downL l k).map f := by
  unfold downL
  rw [List.length_map]
  exact downF_map hf _ l k h
theorem settle_map {l : List It} {k : Nat} (h : k < l.length) : settleL (l.map f) k = (settleL l k).map f := by
  unfold settleL
  rw [upB_map hf h, upL_map hf h, downL_map hf h]
  split <;> rfl
theorem push_map (l : List It) (x : It) : pushL (l.map f) (f x) = (pushL l x).map f := by
  unfold pushL
  rw [List.length_map, show l.map f ++ [f x] = (l ++ [x]).map f by simp]
  exact upL_map hf (by simp)
theorem setL_map {l : List It} {k : Nat} (x : It) (h : k < l.length) : setL (l.map f) k (f x) = (setL l k x).map f := by
  unfold setL
  rw [set_map]
  exact settle_map hf (by simpa using h)
theorem rem_map {l : List It} {k : Nat} (h : k < l.length) : remL (l.map f) k = (remL l k).map f := by
  unfold remL
  rw [List.length_map]
  by_cases e : k < l.length - 1
  · rw [if_pos e, if_pos e, gt_map (by omega), ← List.map_take, set_map]
    exact settle_map hf (by simp; omega)
  · rw [if_neg e, if_neg e, List.map_take]
omit hf
theorem place_map (hi : ∀ x, (f x).id = x.id) (l : List It) (d : Nat) : place (l.map f) d = place l d := by
  unfold place
  rw [List.findIdx?_map]
  congr 1
  funext x
  show decide ((f x).id = d) = decide (x.id = d)
  rw [hi]
theorem ids_map (hi : ∀ x, (f x).id = x.id) (l : List It) : (l.map f).map It.id = l.map It.id := by
  rw [List.map_map]
  congr 1
  funext x
  exact hi x
end
/-- Moved by as much. -/
def shift (d : Int) (x : It) : It := ⟨x.id, x.seq, x.t + d⟩
theorem shift_ahd (d : Int) (a b : It) : ahd (shift d a) (shift d b) = ahd a b := by
  unfold ahd shift
  dsimp only
  by_cases e : a.t = b.t
  · rw [if_pos (by omega), if_pos e]
  · rw [if_neg (by omega), if_neg e]
    congr 1
    exact propext ⟨fun h => by omega, fun h => by omega⟩
theorem shift_id (d : Int) (x : It) : (shift d x).id = x.id := rfl

/-! ### What each call makes of the items -/
theorem push_nod {l : List It} {x : It} (h : Nod l) (e : place l x.id = none) : Nod (pushL l x) := by
  refine Nod.perm (push_perm l x).symm ?_
  unfold Nod
  rw [List.map_cons, List.nodup_cons]
  refine ⟨fun g => ?_, h⟩
  obtain ⟨y, hy, hd⟩ := List.mem_map.1 g
  obtain ⟨k, hk, rfl⟩ := mem_gt hy
  exact place_none e hk hd
theorem set_ids {l : List It} {k : Nat} {x : It} (hk : k < l.length) (e : (gt l k).id = x.id) : (l.set k x).map It.id = l.map It.id := by
  apply List.ext_getElem
  · simp
  · intro j h1 h2
    simp only [List.getElem_map, List.getElem_set]
    split
    · rename_i g
      subst g
      rw [← e, gt_of hk]
    · rfl
theorem set_nod {l : List It} {k : Nat} {x : It} (h : Nod l) (hk : k < l.length) (e : (gt l k).id = x.id) : Nod (setL l k x) := by
  refine Nod.perm (set_perm' x hk).symm ?_
  unfold Nod
  rw [set_ids hk e]
  exact h
theorem rem_nod {l : List It} {k : Nat} (h : Nod l) (hk : k < l.length) : Nod (remL l k) := by
  have g := Nod.perm (rem_perm hk).symm h
  unfold Nod at g
  rw [List.map_cons, List.nodup_cons] at g
  exact g.2
/-- Of an item that is there, what is told of it. -/
theorem mem_push {l : List It} {x y : It} : y ∈ pushL l x ↔ y = x ∨ y ∈ l := by rw [(push_perm l x).mem_iff, List.mem_cons]
theorem mem_rem {l : List It} {k : Nat} (h : Nod l) (hk : k < l.length) {y : It} : y ∈ remL l k ↔ y ∈ l ∧ y.id ≠ (gt l k).id := by
  have p := rem_perm hk
  have n := Nod.perm p.symm h
  unfold Nod at n
  rw [List.map_cons, List.nodup_cons] at n
  constructor
  · intro g
    refine ⟨p.mem_iff.1 (List.mem_cons_of_mem _ g), fun e => n.1 ?_⟩
    rw [← e]
    exact List.mem_map.2 ⟨y, g, rfl⟩
  · rintro ⟨g, e⟩
    rcases List.mem_cons.1 (p.mem_iff.2 g) with r | r
    · exact absurd (by rw [r]) e
    · exact r
theorem mem_setL {l : List It} {k : Nat} {x : It} (h : Nod l) (hk : k < l.length) (e : (gt l k).id = x.id) {y : It} : y ∈ setL l k x ↔ y = x ∨ (y ∈ l ∧ y.id ≠ x.id) := by
  rw [(set_perm' x hk).mem_iff]
  constructor
  · intro g
    obtain ⟨j, hj, rfl⟩ := mem_gt g
    have hj' : j < l.length := by simpa using hj
    rw [gt_set hk]
    by_cases c : k = j
    · rw [if_pos c]; exact .inl rfl
    · rw [if_neg c]
      refine .inr ⟨gt_mem hj', fun d => c ?_⟩
      exact h.one hk hj' (by rw [e, d])
  · rintro (rfl | ⟨g, d⟩)
    · have := gt_mem (l := l.set k y) (k := k) (by simpa using hk)
      rw [gt_set hk, if_pos rfl] at this
      exact this
    · obtain ⟨j, hj, rfl⟩ := mem_gt g
      have c : k ≠ j := fun c => d (by rw [← c, e])
      have := gt_mem (l := l.set k x) (k := j) (by simpa using hj)
      rw [gt_set hk, if_neg c] at this
      exact this
end Go.Proofs.Ytbfmmeapjfljbaa.HeapM

