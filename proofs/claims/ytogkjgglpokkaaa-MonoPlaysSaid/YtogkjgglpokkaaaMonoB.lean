/- Layer 11 (mono): New, held, Go, SetRate, Mono, Raw, Rate, Full, Copy. -/
import Derived.Test.YtogkjgglpokkaaaMonoA
import Derived.Test.YtogkjgglpokkaaaTurn
set_option maxRecDepth 100000
namespace Go.Proofs.Ytogkjgglpokkaaa
open Go.ChangeShapes Go.WideShapes Go.ChangeAt Go.RowKit MonoM

theorem Clk.lt {w : World} {N : Nat} {x : Mo} (c : Clk w N x) : N < w.heap.size := by
  unfold Clk at c
  exact (Array.getElem?_eq_some_iff.1 c).1
theorem Clk.below {w w' : World} {N : Nat} {x : Mo} (c : Clk w N x) (b : Below w.heap.size w w') : Clk w' N x := by
  have := c.lt
  unfold Clk at c ⊢
  rw [b.block N this]
  exact c
theorem Turn.clk {N M : Nat} {x : Mo} {w w' : World} (t : Turn N w w') (c : Clk w M x) (ne : M ≠ N) : Clk w' M x := by
  have := c.lt
  unfold Clk at c ⊢
  rw [t.keep M ne this]
  exact c

theorem moV_of (raw mono rate rest : Int) (full : Bool) : moV ⟨raw, mono, rate, rest, full⟩ = .agg #[.bool true, .int .i64 raw, .int .i64 mono, .int .i64 rate, .int .i64 rest, .bool full] := rfl
theorem AfterP11.of {w : World} {x : Mo} {e : Ending} {w' : World} (h : AfterP11 w x.raw x.mono x.rate x.rest x.full e w') : e = .returned (moV x) ∧ Below w.heap.size w w' := h

theorem pafter11_full (w : World) (raw mono rate rest d : Int) :
    Calls Try.prog 24 #[.agg #[.bool true, .int .i64 raw, .int .i64 mono, .int .i64 rate, .int .i64 rest, .bool true], .int .i64 d] w (AfterP11 w raw mono rate rest true) := by
  obtain ⟨l0, B1, B2, -⟩ := two_blocks w #[.bool true, .int .i64 raw, .int .i64 mono, .int .i64 rate, .int .i64 rest, .bool true] #[.bool true, .int .i64 raw, .int .i64 mono, .int .i64 rate, .int .i64 rest, .bool true] 49 49
  have L := Lib.hid l0
  have C := Lib.hid B2
  clear l0 B1 B2
  go_enter Try.func24, Try.ntmps24
  go_wp2
  refine bodyPost_ret (results_cell_row rfl _ _ (w.heap.size + 1) _ _ (0, 0) _ rfl C.out Try.underlying49 rfl (by kernel_rfl)) rfl ?_
  exact ⟨rfl, L.out⟩

/-- Behind a raw delta from 0 to MaxSpan. -/
theorem pafter11_any (w : World) (x : Mo) (d : Int) (ok : x.Ok) (h0 : 0 ≤ d) (h1 : d ≤ 1125899906842624) :
    Calls Try.prog 24 #[moV x, .int .i64 d] w fun e w' => e = .returned (moV (x.after d)) ∧ Below w.heap.size w w' := by
  obtain ⟨raw, mono, rate, rest, full⟩ := x
  cases full
  · have m := mul_rate h0 ok.s0 ok.s1
    have lo := Mo.q_lo ok h0
    have hi := Mo.q_hi ok h0
    obtain ⟨r0, r1, m0, m1, s0, s1, e0, e1⟩ := ok
    rw [Mo.after_not rfl]
    unfold Mo.q at lo hi
    unfold Mo.to Mo.q
    dsimp only at *
    obtain ⟨p, hp⟩ : ∃ p, d * rate = p := ⟨_, rfl⟩
    rw [hp] at m lo hi ⊢
    have MD := fun w => muldiv_any d rate 1000000000 ⟨by omega, by omega⟩ ⟨by omega, by omega⟩ ⟨by omega, by omega⟩ (by decide) w
    have eq : quoI (d * rate) 1000000000 false = p / 1000000000 := by rw [hp]; rfl
    have i : I64 (p / 1000000000) := ⟨by omega, by omega⟩
    simp only [eq, outN_ok i, outE_ok i] at MD
    have key : p - p / 1000000000 * 1000000000 + rest = p % 1000000000 + rest := by omega
    have A : AftN raw mono rate rest d (p / 1000000000) (wrap64 p) (wrap64 (p / 1000000000 * 1000000000)) (wrap64 (wrap64 p - wrap64 (p / 1000000000 * 1000000000))) (p % 1000000000 + rest) ((p % 1000000000 + rest) / 1000000000) ((p % 1000000000 + rest) % 1000000000) (d + p / 1000000000) (d + p / 1000000000 + (p % 1000000000 + rest) / 1000000000) (mono + (d + p / 1000000000 + (p % 1000000000 + rest) / 1000000000)) (raw + d) := by
      refine ⟨by rw [hp], rfl, rfl, ?_, by omega, by omega, rfl, rfl, rfl, rfl, rfl, rfl, ⟨by omega, by omega⟩, ⟨by omega, by omega⟩, ⟨by omega, by omega⟩, ⟨by omega, by omega⟩⟩
      unfold wrap64
      omega
    have e1 : d + p / 1000000000 + (p % 1000000000 + rest) / 1000000000 = d + (p + rest) / 1000000000 := by omega
    have e2 : (p % 1000000000 + rest) % 1000000000 = (p + rest) % 1000000000 := by omega
    have K := pafter11_core w raw mono rate rest d _ _ _ _ _ _ _ _ _ _ _ _ _ MD A rfl rfl
    rw [e1, e2] at K
    exact K
  · rw [Mo.after_full rfl]
    exact pafter11_full w raw mono rate rest d

theorem Clk.cells {w : World} {N : Nat} {raw mono rate rest : Int} {full : Bool} (c : Clk w N ⟨raw, mono, rate, rest, full⟩) : w.heap[N]? = some (.cells #[.bool true, .int .i64 raw, .int .i64 mono, .int .i64 rate, .int .i64 rest, .bool full] 49 (0, 0)) := c

theorem field11_0 (a b c d e f : Value) (w : World) : (Instr.field 49 (.agg #[a, b, c, d, e, f]) 0).run Try.prog w = .ok a w := rfl
theorem field11_1 (a b c d e f : Value) (w : World) : (Instr.field 49 (.agg #[a, b, c, d, e, f]) 1).run Try.prog w = .ok b w := rfl
theorem field11_2 (a b c d e f : Value) (w : World) : (Instr.field 49 (.agg #[a, b, c, d, e, f]) 2).run Try.prog w = .ok c w := rfl
theorem field11_3 (a b c d e f : Value) (w : World) : (Instr.field 49 (.agg #[a, b, c, d, e, f]) 3).run Try.prog w = .ok d w := rfl
theorem field11_4 (a b c d e f : Value) (w : World) : (Instr.field 49 (.agg #[a, b, c, d, e, f]) 4).run Try.prog w = .ok e w := rfl
theorem field11_5 (a b c d e f : Value) (w : World) : (Instr.field 49 (.agg #[a, b, c, d, e, f]) 5).run Try.prog w = .ok f w := rfl

/-- What a clock holds. -/
theorem pheld11_any (w : World) (N : Nat) (x : Mo) (c : Clk w N x) :
    Calls Try.prog 23 #[.pointer (some ⟨N, 0, none⟩)] w fun e w' => e = .returned (moV x) ∧ Below w.heap.size w w' := by
  obtain ⟨raw, mono, rate, rest, full⟩ := x
  have c' := c.cells
  have C0 := blk_cell (o := 0) c'
  have C1 := blk_cell (o := 1) c'
  have C2 := blk_cell (o := 2) c'
  have C3 := blk_cell (o := 3) c'
  have C4 := blk_cell (o := 4) c'
  have C5 := blk_cell (o := 5) c'
  simp only [List.getElem?_toArray, List.getElem?_cons_zero, List.getElem?_cons_succ] at C0 C1 C2 C3 C4 C5
  have NE : N ≠ w.heap.size := by have := c.lt; omega
  have L : Hid (Below w.heap.size w (w.alloc (.cells #[.bool true, .int .i64 raw, .int .i64 mono, .int .i64 rate, .int .i64 rest, .bool full] 49))) := (Below.refl _ _).alloc (Nat.le_refl _) _
  have R : Hid ((w.alloc (.cells #[.bool true, .int .i64 raw, .int .i64 mono, .int .i64 rate, .int .i64 rest, .bool full] 49)).heap[w.heap.size]? = some (.cells #[.bool true, .int .i64 raw, .int .i64 mono, .int .i64 rate, .int .i64 rest, .bool full] 49 (0, 0))) := heap_alloc_new _ _
  have Z : ∀ o v, w.cell? ⟨N, o, none⟩ = some v → (w.alloc (.cells #[.bool false, .int .i64 0, .int .i64 0, .int .i64 0, .int .i64 0, .bool false] 49)).cell? ⟨N, o, none⟩ = some v := fun o v h => by
    have b : Below w.heap.size w (w.alloc (.cells #[.bool false, .int .i64 0, .int .i64 0, .int .i64 0, .int .i64 0, .bool false] 49)) := (Below.refl _ _).alloc (Nat.le_refl _) _
    exact (b.cell (World.block_lt_of_cell? _ _ h)).trans h
  have D0 := Z _ _ C0
  have D1 := Z _ _ C1
  have D2 := Z _ _ C2
  have D3 := Z _ _ C3
  have D4 := Z _ _ C4
  have D5 := Z _ _ C5
  clear c c' Z
  go_enter Try.func23, Try.ntmps23
  go_wp2
  refine bodyPost_ret (results_cell_row rfl _ _ w.heap.size _ _ (0, 0) _ rfl R.out Try.underlying49 rfl (by kernel_rfl)) rfl ?_
  exact ⟨rfl, L.out⟩

def noneV : Value := .agg #[.bool false, .int .i64 0, .int .i64 0, .int .i64 0, .int .i64 0, .bool false]
theorem pheld11_none (w : World) :
    Calls Try.prog 23 #[.pointer none] w fun e w' => e = .returned noneV ∧ Below w.heap.size w w' := by
  have L : Hid (Below w.heap.size w (w.alloc (.cells #[.bool false, .int .i64 0, .int .i64 0, .int .i64 0, .int .i64 0, .bool false] 49))) := (Below.refl _ _).alloc (Nat.le_refl _) _
  have R : Hid ((w.alloc (.cells #[.bool false, .int .i64 0, .int .i64 0, .int .i64 0, .int .i64 0, .bool false] 49)).heap[w.heap.size]? = some (.cells #[.bool false, .int .i64 0, .int .i64 0, .int .i64 0, .int .i64 0, .bool false] 49 (0, 0))) := heap_alloc_new _ _
  go_enter Try.func23, Try.ntmps23
  go_wp2
  refine bodyPost_ret (results_cell_row rfl _ _ w.heap.size _ _ (0, 0) _ rfl R.out Try.underlying49 rfl (by kernel_rfl)) rfl ?_
  exact ⟨rfl, L.out⟩

/-- A new clock. -/
def zeroM : Mo := ⟨0, 0, 0, 0, false⟩
theorem zero_ok : zeroM.Ok := ⟨by decide, by decide, by decide, by decide, by decide, by decide, by decide, by decide⟩
def NewP11 (w : World) (x : Mo) (r : Ending) (w' : World) : Prop := ∃ N, r = .returned (.pointer (some ⟨N, 0, none⟩)) ∧ Clk w' N x ∧ w.heap.size ≤ N ∧ Below w.heap.size w w'
theorem pnew11_any (w : World) : Calls Try.prog 10 #[] w (NewP11 w zeroM) := by
  have F : Hid (NewP11 w zeroM (.returned (.pointer (some ⟨w.heap.size, 0, none⟩))) (w.alloc (.cells #[.bool true, .int .i64 0, .int .i64 0, .int .i64 0, .int .i64 0, .bool false] 49))) :=
    ⟨_, rfl, heap_alloc_new _ _, Nat.le_refl _, (Below.refl _ _).alloc (Nat.le_refl _) _⟩
  go_enter Try.func10, Try.ntmps10
  go_wp2
  go_ret
  exact F.out

theorem pmono11_any (w : World) (N : Nat) (x : Mo) (c : Clk w N x) :
    Calls Try.prog 16 #[.pointer (some ⟨N, 0, none⟩)] w fun e w' => e = .returned (.int .i64 x.mono) ∧ Below w.heap.size w w' := by
  have HE := Lib.hid (pheld11_any w N x c)
  obtain ⟨raw, mono, rate, rest, full⟩ := x
  rw [moV_of] at HE
  clear c
  have FB := fun a b c d e f w => field11_2 a b c d e f w
  go_enter Try.func16, Try.ntmps16
  go_wp2_with fail
  refine HE.out.mono ?_; rintro e w1 ⟨rfl, l⟩
  have L := Lib.hid l
  clear l
  go_wp2
  go_ret
  exact ⟨rfl, L.out⟩
theorem pmono11_none (w : World) :
    Calls Try.prog 16 #[.pointer none] w fun e w' => e = .returned (.int .i64 0) ∧ Below w.heap.size w w' := by
  have HE := Lib.hid (pheld11_none w)
  unfold noneV at HE
  have FB := fun a b c d e f w => field11_2 a b c d e f w
  go_enter Try.func16, Try.ntmps16
  go_wp2_with fail
  refine HE.out.mono ?_; rintro e w1 ⟨rfl, l⟩
  have L := Lib.hid l
  clear l
  go_wp2
  go_ret
  exact ⟨rfl, L.out⟩

theorem praw11_any (w : World) (N : Nat) (x : Mo) (c : Clk w N x) :
    Calls Try.prog 17 #[.pointer (some ⟨N, 0, none⟩)] w fun e w' => e = .returned (.int .i64 x.raw) ∧ Below w.heap.size w w' := by
  have HE := Lib.hid (pheld11_any w N x c)
  obtain ⟨raw, mono, rate, rest, full⟩ := x
  rw [moV_of] at HE
  clear c
  have FB := fun a b c d e f w => field11_1 a b c d e f w
  go_enter Try.func17, Try.ntmps17
  go_wp2_with fail
  refine HE.out.mono ?_; rintro e w1 ⟨rfl, l⟩
  have L := Lib.hid l
  clear l
  go_wp2
  go_ret
  exact ⟨rfl, L.out⟩
theorem praw11_none (w : World) :
    Calls Try.prog 17 #[.pointer none] w fun e w' => e = .returned (.int .i64 0) ∧ Below w.heap.size w w' := by
  have HE := Lib.hid (pheld11_none w)
  unfold noneV at HE
  have FB := fun a b c d e f w => field11_1 a b c d e f w
  go_enter Try.func17, Try.ntmps17
  go_wp2_with fail
  refine HE.out.mono ?_; rintro e w1 ⟨rfl, l⟩
  have L := Lib.hid l
  clear l
  go_wp2
  go_ret
  exact ⟨rfl, L.out⟩

theorem prate11_any (w : World) (N : Nat) (x : Mo) (c : Clk w N x) :
    Calls Try.prog 18 #[.pointer (some ⟨N, 0, none⟩)] w fun e w' => e = .returned (.int .i64 x.rate) ∧ Below w.heap.size w w' := by
  have HE := Lib.hid (pheld11_any w N x c)
  obtain ⟨raw, mono, rate, rest, full⟩ := x
  rw [moV_of] at HE
  clear c
  have FB := fun a b c d e f w => field11_3 a b c d e f w
  go_enter Try.func18, Try.ntmps18
  go_wp2_with fail
  refine HE.out.mono ?_; rintro e w1 ⟨rfl, l⟩
  have L := Lib.hid l
  clear l
  go_wp2
  go_ret
  exact ⟨rfl, L.out⟩
theorem prate11_none (w : World) :
    Calls Try.prog 18 #[.pointer none] w fun e w' => e = .returned (.int .i64 0) ∧ Below w.heap.size w w' := by
  have HE := Lib.hid (pheld11_none w)
  unfold noneV at HE
  have FB := fun a b c d e f w => field11_3 a b c d e f w
  go_enter Try.func18, Try.ntmps18
  go_wp2_with fail
  refine HE.out.mono ?_; rintro e w1 ⟨rfl, l⟩
  have L := Lib.hid l
  clear l
  go_wp2
  go_ret
  exact ⟨rfl, L.out⟩

theorem pfull11_any (w : World) (N : Nat) (x : Mo) (c : Clk w N x) :
    Calls Try.prog 19 #[.pointer (some ⟨N, 0, none⟩)] w fun e w' => e = .returned (.bool x.full) ∧ Below w.heap.size w w' := by
  have HE := Lib.hid (pheld11_any w N x c)
  obtain ⟨raw, mono, rate, rest, full⟩ := x
  rw [moV_of] at HE
  clear c
  have FB := fun a b c d e f w => field11_5 a b c d e f w
  go_enter Try.func19, Try.ntmps19
  go_wp2_with fail
  refine HE.out.mono ?_; rintro e w1 ⟨rfl, l⟩
  have L := Lib.hid l
  clear l
  go_wp2
  go_ret
  exact ⟨rfl, L.out⟩
theorem pfull11_none (w : World) :
    Calls Try.prog 19 #[.pointer none] w fun e w' => e = .returned (.bool false) ∧ Below w.heap.size w w' := by
  have HE := Lib.hid (pheld11_none w)
  unfold noneV at HE
  have FB := fun a b c d e f w => field11_5 a b c d e f w
  go_enter Try.func19, Try.ntmps19
  go_wp2_with fail
  refine HE.out.mono ?_; rintro e w1 ⟨rfl, l⟩
  have L := Lib.hid l
  clear l
  go_wp2
  go_ret
  exact ⟨rfl, L.out⟩

theorem pcopy11_any (w : World) (N : Nat) (x : Mo) (c : Clk w N x) :
    Calls Try.prog 15 #[.pointer (some ⟨N, 0, none⟩)] w (NewP11 w x) := by
  have HE := Lib.hid (pheld11_any w N x c)
  obtain ⟨raw, mono, rate, rest, full⟩ := x
  rw [moV_of] at HE
  clear c
  go_enter Try.func15, Try.ntmps15
  go_wp2_with fail
  refine HE.out.mono ?_; rintro e w1 ⟨rfl, l⟩
  have F : Hid (NewP11 w ⟨raw, mono, rate, rest, full⟩ (.returned (.pointer (some ⟨w1.heap.size, 0, none⟩))) (w1.alloc (.cells #[.bool true, .int .i64 raw, .int .i64 mono, .int .i64 rate, .int .i64 rest, .bool full] 49))) :=
    ⟨_, rfl, heap_alloc_new _ _, l.size, l.alloc l.size _⟩
  clear l
  go_wp2
  go_ret
  exact F.out
theorem pcopy11_none (w : World) :
    Calls Try.prog 15 #[.pointer none] w fun e w' => e = .returned (.pointer none) ∧ Below w.heap.size w w' := by
  have HE := Lib.hid (pheld11_none w)
  unfold noneV at HE
  go_enter Try.func15, Try.ntmps15
  go_wp2_with fail
  refine HE.out.mono ?_; rintro e w1 ⟨rfl, l⟩
  have L := Lib.hid (l.alloc l.size (.cells #[.bool false, .int .i64 0, .int .i64 0, .int .i64 0, .int .i64 0, .bool false] 49))
  clear l
  go_wp2
  go_ret
  exact ⟨rfl, L.out⟩
end Go.Proofs.Ytogkjgglpokkaaa
