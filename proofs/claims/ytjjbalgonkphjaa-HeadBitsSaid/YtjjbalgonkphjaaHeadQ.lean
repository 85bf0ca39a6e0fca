/- Layer 4 (head): what both Parses tell of any bytes, in one form; a row whose bytes are turned one by one. -/
import Derived.Test.YtjjbalgonkphjaaHeadL
import Derived.Test.YtjjbalgonkphjaaHeadJ
namespace Go.Proofs.Ytjjbalgonkphjaa
open Go.ChangeShapes Go.WideShapes Go.ChangeAt Go.RowKit OctM

/-- A packet that has that head alone, bytes in new memory, an error's number. -/
def PQ (w : World) (hd : Hd) (L : Nat) (es : List Nat) (E : Int) (e : Ending) (w' : World) : Prop :=
  ∃ pr cr, e = .returned (.tuple #[pkV hd Xt.zero, .slice pr L cr, .int .i64 E]) ∧ New w.heap.size w' pr L cr (valsN .u8 es) ∧ Below w.heap.size w w'
theorem pq_nil {w w' : World} {E : Int} {e : Ending} (h : TellPost w (.returned (.tuple #[pkV Hd.zero Xt.zero, .slice none 0 0, .int .i64 E])) e w') : PQ w Hd.zero 0 [] E e w' := ⟨none, 0, h.1, New.nil _ _, h.2⟩
theorem pq_ok {w w' : World} {n : Nat} {ds : List Nat} {e : Ending} (h : ParsePost w n ds e w') : PQ w (hdP ds) (n - 48) (ds.drop 48) 0 e w' := by
  obtain ⟨r, rfl, o, l⟩ := h.out
  obtain ⟨p, c, rfl, nw⟩ := own_new o
  exact ⟨p, c, rfl, nw, l⟩

theorem hdZero_wf : Hd.zero.wf := ⟨by decide, by decide, by decide, by decide, by decide, by decide, by decide, by decide, by decide, by decide, by decide, by decide, by decide⟩

/-- What is told of the bytes ds. -/
structure Told (ds : List Nat) (hd : Hd) (L : Nat) (es : List Nat) (E : Int) : Prop where
  wf : hd.wf
  byt : Byt es
  len : es.length = L
  le : L ≤ ds.length
  prog : ∀ (w : World) (p : Option Addr) (c : Nat), Holds w p ds.length c (valsN .u8 ds) → Calls Try.prog 15 #[.slice p ds.length c] w (PQ w hd L es E)
  ref : ∀ (w : World) (p : Option Addr) (c : Nat), Holds w p ds.length c (valsN .u8 ds) → Calls Try.prog 16 #[.slice p ds.length c] w (PQ w hd L es E)

theorem told_short {ds : List Nat} (h : ds.length < 48) : Told ds Hd.zero 0 [] 4 :=
  ⟨hdZero_wf, fun d hd => by simp at hd, rfl, Nat.zero_le _, fun w p c _ => (pparse_short w p _ c h).mono fun _ _ k => pq_nil k, fun w p c _ => (rparse4_short w p _ c h).mono fun _ _ k => pq_nil k⟩
theorem told_form {ds : List Nat} (hy : Byt ds) (h48 : 48 ≤ ds.length) (hn : ds.length ≤ 10000) (hm : ¬ mayH (hdP ds)) : Told ds Hd.zero 0 [] 5 := by
  refine ⟨hdZero_wf, fun d hd => by simp at hd, rfl, Nat.zero_le _, fun w p c hd => (pparse_form w p _ c ds hd hy h48 hn hm).mono fun _ _ k => pq_nil k, fun w p c hd => ?_⟩
  obtain ⟨ad, z0, z1, z2, z3, q3, q6, ve, m7, sa, sb, x4, x5, x6, x7, x8, x9, x10, rfl, I⟩ := headIn hd hy h48 hn
  have v : (hdP ds).ve = ve := by rw [I.eh]
  have b1 : (hdP ds).lp = q6 := by rw [I.eh]
  have b2 : (hdP ds).mo = m7 := by rw [I.eh]
  have e6 := I.e6
  have e7 := I.e7
  have b0 := I.b0
  refine (rparse4_form w ad _ c ds z0 z1 z2 z3 q3 q6 ve m7 sa sb x4 x5 x6 x7 x8 x9 x10 I ?_).mono fun _ _ k => pq_nil k
  unfold mayH at hm
  rw [v, b1, b2] at hm
  omega
theorem told_ok {ds : List Nat} (hy : Byt ds) (h48 : 48 ≤ ds.length) (hn : ds.length ≤ 10000) (hm : mayH (hdP ds)) : Told ds (hdP ds) (ds.length - 48) (ds.drop 48) 0 := by
  refine ⟨hdP_wf hy, byt_drop hy _, List.length_drop, Nat.sub_le _ _, fun w p c hd => (pparse_ok w p _ c ds hd hy h48 hn hm).mono fun _ _ k => pq_ok k, fun w p c hd => ?_⟩
  obtain ⟨ad, z0, z1, z2, z3, q3, q6, ve, m7, sa, sb, x4, x5, x6, x7, x8, x9, x10, rfl, I⟩ := headIn hd hy h48 hn
  have v : (hdP ds).ve = ve := by rw [I.eh]
  refine (rparse4_ok w ad _ c ds z0 z1 z2 z3 q3 q6 ve m7 sa sb x4 x5 x6 x7 x8 x9 x10 I ?_).mono fun _ _ k => pq_ok k
  unfold mayH at hm
  rw [v] at hm
  omega
theorem told_any {ds : List Nat} (hy : Byt ds) (hn : ds.length ≤ 10000) : ∃ hd L es E, Told ds hd L es E := by
  by_cases h48 : 48 ≤ ds.length
  · by_cases hm : mayH (hdP ds)
    · exact ⟨_, _, _, _, told_ok hy h48 hn hm⟩
    · exact ⟨_, _, _, _, told_form hy h48 hn hm⟩
  · exact ⟨_, _, _, _, told_short (by omega)⟩

theorem add_block (a : Addr) (i : Nat) : (a.add i).block = a.block := by unfold Addr.add; split <;> rfl
theorem add_off (a : Addr) (i : Nat) : (a.add i).off = a.off + i := by
  unfold Addr.add
  by_cases h : i = 0
  · subst h; simp
  · rw [if_neg h]

/-- While the bytes of a row are turned: k of them are; nothing else is. -/
structure Turned (B : Nat) (w wr : World) (p : Option Addr) (L k : Nat) (es : List Nat) : Prop where
  cell : ∀ i, k ≤ i → i < L → ∃ a, p = some a ∧ wr.cell? (a.add i) = some (.int .u8 (es.getD i 0 : Nat)) ∧ wr.frozen? (a.add i) = false
  keep : ∀ j, (∀ a, p = some a → j ≠ a.block) → wr.heap[j]? = w.heap[j]?
  low : Below B w wr
theorem turned_start {B : Nat} {w : World} {p : Option Addr} {L c : Nat} {es : List Nat} (h : New B w p L c (valsN .u8 es)) : Turned B w w p L 0 es := by
  refine ⟨fun i _ hi => ?_, fun _ _ => rfl, Below.refl _ _⟩
  obtain ⟨a, ha, hc⟩ := h.holds.atN hi
  exact ⟨a, ha, hc, h.free a ha i hi⟩
theorem turned_next {B : Nat} {w wr : World} {a : Addr} {L k : Nat} {es : List Nat} (h : Turned B w wr (some a) L k es) (hB : B ≤ a.block) (z : Int) : Turned B w (wr.setCell (a.add k) (.int .u8 z)) (some a) L (k + 1) es := by
  refine ⟨fun i hk hi => ?_, fun j hj => ?_, h.low.setCell (by rw [add_block]; exact hB) _⟩
  · obtain ⟨a', e, hc, hf⟩ := h.cell i (by omega) hi
    cases e
    have ne : a.add k ≠ a.add i := fun e => by
      have e' := congrArg Addr.off e
      rw [add_off, add_off] at e'
      omega
    exact ⟨a, rfl, by rw [World.cell?_setCell_other _ _ _ _ ne]; exact hc, by rw [World.frozen?_setCell]; exact hf⟩
  · rw [Below.heap_setCell _ _ _ _ (by rw [add_block]; exact hj a rfl)]
    exact h.keep j hj
theorem turned_holds {B : Nat} {w wr : World} {p q : Option Addr} {L k n c : Nat} {es : List Nat} {vs : List Value} (h : Turned B w wr p L k es) (hh : Holds w q n c vs) (ap : ∀ a b, p = some a → q = some b → b.block ≠ a.block) : Holds wr q n c vs := by
  refine ⟨hh.len, hh.cap, hh.max, hh.bare, fun i u hu => ?_⟩
  obtain ⟨b, rfl, hc⟩ := hh.cell i u hu
  refine ⟨b, rfl, ?_⟩
  rw [World.cell?_of_block (w := w) (h.keep _ (fun a ha => by rw [add_block]; exact ap a b ha rfl))]
  exact hc
end Go.Proofs.Ytjjbalgonkphjaa
