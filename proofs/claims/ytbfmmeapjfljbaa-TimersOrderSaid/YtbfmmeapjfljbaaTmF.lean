/- Layer 14 (timers), the program's own: rows of what fired; all of a kind that are due fire. -/
import Derived.Test.YtbfmmeapjfljbaaTmE
import Derived.Deep.AppendLies
set_option maxRecDepth 100000
namespace Go.Proofs.Ytbfmmeapjfljbaa
open Go.ChangeShapes Go.WideShapes Go.ChangeAt Go.RowKit Go.Maps HeapM

/-! ### Rows of what fired -/
def sixF (f : FdT) : List Value := [.int .u64 (f.id : Nat), .bool f.t.ab, .int .i64 f.t.at_, .int .i64 f.t.ev, .int .i64 f.late, .int .i64 f.mis]
def cellsF (l : List FdT) : List Value := l.flatMap sixF
theorem cellsF_app (l m : List FdT) : cellsF (l ++ m) = cellsF l ++ cellsF m := by unfold cellsF; rw [List.flatMap_append]
theorem cellsF_cons (f : FdT) (l : List FdT) : cellsF (f :: l) = sixF f ++ cellsF l := by unfold cellsF; rw [List.flatMap_cons]
theorem cellsF_sing (f : FdT) : cellsF [f] = sixF f := by rw [cellsF_cons]; exact List.append_nil _
theorem cellsF_len (l : List FdT) : (cellsF l).length = l.length * 6 := by
  induction l with
  | nil => rfl
  | cons f fs ih => rw [cellsF_cons, List.length_append, ih, List.length_cons]; show 6 + _ = _; omega
theorem sixF_one (f : FdT) : ∀ u ∈ sixF f, u.oneCell' = true := by
  intro u hu
  unfold sixF at hu
  simp only [List.mem_cons, List.not_mem_nil, or_false] at hu
  rcases hu with rfl | rfl | rfl | rfl | rfl | rfl <;> rfl
theorem cellsF_one (l : List FdT) : ∀ u ∈ cellsF l, u.oneCell' = true := by
  intro u hu
  unfold cellsF at hu
  obtain ⟨f, _, hf⟩ := List.mem_flatMap.1 hu
  exact sixF_one f u hf
def zeroF : FdT := ⟨0, ⟨false, 0, 0⟩, 0, 0⟩
def gf (l : List FdT) (k : Nat) : FdT := l.getD k zeroF
theorem cellsF_get : ∀ (l : List FdT) (i : Nat), i < l.length → ∀ j, j < 6 → (cellsF l)[i * 6 + j]? = (sixF (gf l i))[j]?
  | [], i, h, _, _ => by simp at h
  | g :: fs, 0, _, j, hj => by
    rw [cellsF_cons, List.getElem?_append_left (by show _ < 6; omega), Nat.zero_mul, Nat.zero_add]
    rfl
  | g :: fs, i + 1, h, j, hj => by
    rw [cellsF_cons, List.getElem?_append_right (by show 6 ≤ _; omega)]
    have : (i + 1) * 6 + j - (sixF g).length = i * 6 + j := by show _ - 6 = _; omega
    rw [this, cellsF_get fs i (by simpa using h) j hj]
    rfl
theorem gf_of {l : List FdT} {k : Nat} (h : k < l.length) : gf l k = l[k] := by
  unfold gf
  rw [List.getD_eq_getElem?_getD, List.getElem?_eq_getElem h]
  rfl
theorem infoF : (Try.prog.info? 35).map (fun i => (i.zero, i.size, i.bytes)) = some (some (.agg #[.int .u64 0, .bool false, .int .i64 0, .int .i64 0, .int .i64 0, .int .i64 0]), 6, 48) := by kernel_rfl

/-- A row of one's own of what fired. -/
def OwnF (w : World) (B : Nat) (p : Option Addr) (n c : Nat) (l : List FdT) : Prop := w.ownsRow B 35 6 (.slice p n c) n (cellsF l)
theorem OwnF.nil (w : World) (B : Nat) : OwnF w B none 0 0 [] := ⟨rfl, .inl ⟨rfl, rfl⟩⟩
theorem OwnF.keep {w w' : World} {B : Nat} {p : Option Addr} {n c : Nat} {l : List FdT} (h : OwnF w B p n c l) (k : ∀ a, p = some a → w'.heap[a.block]? = w.heap[a.block]?) : OwnF w' B p n c l := by
  refine ⟨h.1, ?_⟩
  rcases h.2 with hn | ⟨g, cap, cur, e, hb, hg, r⟩
  · exact .inl hn
  · injection e with e1 e2 e3
    subst e1 e3
    exact .inr ⟨g, c, cur, rfl, hb, by rw [k _ rfl]; exact hg, r⟩
theorem OwnF.lt {w : World} {B : Nat} {n c : Nat} {a : Addr} {l : List FdT} (h : OwnF w B (some a) n c l) : a.block < w.heap.size ∧ B ≤ a.block ∧ a = ⟨a.block, 0, none⟩ := by
  rcases h.2 with ⟨e, -⟩ | ⟨g, cap, cur, e, hb, hg, r⟩
  · injection e with e1 _ _; cases e1
  · injection e with e1 _ _
    injection e1 with e1
    subst e1
    exact ⟨(Array.getElem?_eq_some_iff.1 hg).1, hb, rfl⟩
theorem OwnF.below {w w' : World} {B : Nat} {p : Option Addr} {n c : Nat} {l : List FdT} (h : OwnF w B p n c l) (b : Below w.heap.size w w') : OwnF w' B p n c l := h.keep fun a ha => by subst ha; exact b.block _ h.lt.1

/-! ### All of a kind -/
def fireS (s : TS) (k : Bool) (now : Int) (x : It) : FdT := fireI k (s.ev x.id) now x
theorem pmin14_none {w : World} {N b : Nat} {R : Bool → Nat} {G : Bool → Nat → Prop} {L : Bool → List It} {D : DataW Unit} {ad ca : Nat} (h : TmB w N b R G L D ad ca) (k : Bool) (h0 : (L k).length = 0) :
    Calls Try.prog 24 #[.pointer (some ⟨R k, 0, none⟩)] w fun e w' => e = .returned (.tuple #[.agg #[.int .u64 0, .int .u64 0, .int .i64 0], .bool false]) ∧ Below w.heap.size w w' := by
  obtain ⟨b', p', c', eF, Q⟩ := h.hq k
  refine (pmin13 Q).mono fun e w' ⟨e1, l⟩ => ⟨?_, l⟩
  rw [e1, (pop_none h0).2.1, h0]
  rfl
theorem pmin14_some {w : World} {N b : Nat} {R : Bool → Nat} {G : Bool → Nat → Prop} {L : Bool → List It} {D : DataW Unit} {ad ca : Nat} (h : TmB w N b R G L D ad ca) (k : Bool) (h0 : 0 < (L k).length) :
    Calls Try.prog 24 #[.pointer (some ⟨R k, 0, none⟩)] w fun e w' => e = .returned (.tuple #[itV (gt (L k) 0), .bool true]) ∧ Below w.heap.size w w' := by
  obtain ⟨b', p', c', eF, Q⟩ := h.hq k
  refine (pmin13 Q).mono fun e w' ⟨e1, l⟩ => ⟨?_, l⟩
  rw [e1, (pop_some h0).2.1, decide_eq_true h0]

/-- While a kind fires. -/
structure KS (w wr : World) (F : Nat → Prop) (N : Nat) (s : TS) (k : Bool) (now : Int) (p : Option Addr) (n c : Nat) (ds m : List It) : Prop where
  out : ∃ F', TmP wr F' N (s.putL k m) ∧ FT F w wr ∧ (∀ M, F' M → F M ∨ w.heap.size ≤ M) ∧ ∀ a, p = some a → ¬ F' a.block
  own : OwnF wr w.heap.size p n c (ds.map (fireS s k now))
  fir : FireR s k now ds m
  len : n = ds.length
  cnt : n + dueN now m = dueN now (s.l k)
  nil : n = 0 → p = none ∧ c = 0
theorem KS.size {w wr : World} {F : Nat → Prop} {N : Nat} {s : TS} {k : Bool} {now : Int} {p : Option Addr} {n c : Nat} {ds m : List It} (h : KS w wr F N s k now p n c ds m) : w.heap.size ≤ wr.heap.size := by
  obtain ⟨F', -, t, -⟩ := h.out
  exact t.size
theorem KS.below {w wr w' : World} {F : Nat → Prop} {N : Nat} {s : TS} {k : Bool} {now : Int} {p : Option Addr} {n c : Nat} {ds m : List It} (h : KS w wr F N s k now p n c ds m) (b : Below wr.heap.size wr w') : KS w w' F N s k now p n c ds m := by
  obtain ⟨F', h1, t, n1, n2⟩ := h.out
  exact ⟨⟨F', h1.below b, t.trans (FT.of_below (F := F') b) n1, n1, n2⟩, h.own.below b, h.fir, h.len, h.cnt, h.nil⟩
/-- One more. -/
theorem KS.step {w wr : World} {F : Nat → Prop} {N : Nat} {s : TS} {k : Bool} {now : Int} {p : Option Addr} {n c : Nat} {ds m : List It} (h : KS w wr F N s k now p n c ds m) (h0 : 0 < m.length) (hd : (gt m 0).t ≤ now) (hn : now ≤ topT) :
    Calls Try.prog 25 #[.pointer (some ⟨N, 0, none⟩), itV (gt m 0), .int .i64 now] wr fun r w' => r = .returned (fdV (fireS s k now (gt m 0))) ∧
      ∀ cs : Array Value, (w'.alloc (.cells cs 35)).ownsRow w.heap.size 35 6 (.slice p n c) n (cellsF (ds.map (fireS s k now))) ∧ w.heap.size ≤ (w'.alloc (.cells cs 35)).heap.size ∧
        ∀ gg cap w7, w7.ownsRow w.heap.size 35 6 (.slice (some ⟨gg, 0, none⟩) (n + 1) cap) (n + 1) (cellsF (ds.map (fireS s k now)) ++ sixF (fireS s k now (gt m 0))) →
          (w'.alloc (.cells cs 35)).grownBy w7 (Value.slice p n c).ownBlock → ((Value.slice p n c).ownBlock = some gg ∨ gg = (w'.alloc (.cells cs 35)).heap.size) →
          KS w w7 F N s k now (some ⟨gg, 0, none⟩) (n + 1) cap (ds ++ [gt m 0]) (stepL (s.ev (gt m 0).id) now m) := by
  obtain ⟨F', h1, t, n1, n2⟩ := h.out
  have e1 := putL_same s k m
  have FO := pfireone14 wr F' N _ h1 k now (by rw [e1]; exact h0) (by rw [e1]; exact hd) hn
  rw [e1] at FO
  refine FO.mono fun r w' ⟨r1, F6, h6, t6, n6⟩ => ⟨r1, fun cs => ?_⟩
  have hr : ∀ a, p = some a → a.block < wr.heap.size ∧ ¬ F' a.block ∧ w'.heap[a.block]? = wr.heap[a.block]? := fun a ha => by
    have := h.own
    rw [ha] at this
    exact ⟨this.lt.1, n2 a ha, t6.keep _ (n2 a ha) this.lt.1⟩
  have O6 : OwnF w' w.heap.size p n c (ds.map (fireS s k now)) := h.own.keep fun a ha => (hr a ha).2.2
  have AL : Below w'.heap.size w' (w'.alloc (.cells cs 35)) := (Below.refl _ _).alloc (Nat.le_refl _) _
  have sz := Nat.le_trans t.size t6.size
  refine ⟨O6.below AL, Nat.le_trans sz AL.size, fun gg cap w7 o7 g7 m7 => ⟨⟨F6, ?_, ?_, fun M hM => ?_, fun a ha => ?_⟩, ?_, h.fir.step h0 hd, by rw [h.len]; simp, ?_, fun e => by omega⟩⟩
  · rw [putL_putL] at h6
    refine h6.keep fun M hM => ?_
    have lt6 := h6.lt M hM
    refine (g7.block M (Nat.lt_of_lt_of_le lt6 AL.size) (fun e => ?_)).trans (AL.block M lt6)
    cases p with
    | none => cases e
    | some a =>
      injection e with e
      obtain ⟨b1, b2, -⟩ := hr a rfl
      rcases n6 M hM with q | q
      · exact b2 (e ▸ q)
      · rw [e] at q
        omega
  · have T6 : FT F w w' := t.trans t6 n1
    have T7 : FT F w (w'.alloc (.cells cs 35)) := T6.same (FT.of_below AL)
    refine ⟨fun K a b => ?_, fun B a b => ?_, Nat.le_trans T7.size g7.size⟩
    · refine (g7.block K (Nat.lt_of_lt_of_le b T7.size) (fun e => ?_)).trans (T7.keep K a b)
      cases hp : p with
      | none => rw [hp] at e; cases e
      | some q =>
        rw [hp] at e
        injection e with e
        have := h.own
        rw [hp] at this
        have := this.lt.2.1
        omega
    · refine (T7.low B a b).grown g7 (Nat.le_trans b T7.size) (fun j hj => ?_)
      cases hp : p with
      | none => rw [hp] at hj; cases hj
      | some q =>
        rw [hp] at hj
        injection hj with hj
        have := h.own
        rw [hp] at this
        have := this.lt.2.1
        omega
  · rcases n6 M hM with q | q
    · exact n1 M q
    · exact .inr (Nat.le_trans t.size q)
  · injection ha with ha
    subst ha
    intro f
    have lt6 := h6.lt _ f
    have lt6 : gg < w'.heap.size := lt6
    rcases m7 with e | e
    · cases hp : p with
      | none => rw [hp] at e; cases e
      | some q =>
        rw [hp] at e
        injection e with e
        obtain ⟨b1, b2, -⟩ := hr q hp
        rcases n6 gg f with z | z
        · exact b2 (by rw [e]; exact z)
        · omega
    · have := AL.size
      omega
  · unfold OwnF
    rw [List.map_append, cellsF_app, List.map_cons, List.map_nil, cellsF_sing]
    exact o7
  · have he : 0 ≤ s.ev (gt m 0).id := (h.fir.ok.evs (gt m 0).id).1
    have := due_step (e := s.ev (gt m 0).id) h0 he hd
    have := h.cnt
    omega
end Go.Proofs.Ytbfmmeapjfljbaa
