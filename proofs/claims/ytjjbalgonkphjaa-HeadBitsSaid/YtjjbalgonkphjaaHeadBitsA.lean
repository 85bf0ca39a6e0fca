/- Arrays of 48 bytes by value, opaque in a walk; a bit of a row of bytes is turned (HeadBits). -/
import Derived.Test.YtjjbalgonkphjaaHeadP
import Derived.Test.YtjjbalgonkphjaaHeadF
import Derived.Test.YtjjbalgonkphjaaHeadQ
namespace Go.Proofs.Ytjjbalgonkphjaa
open Go.ChangeShapes Go.WideShapes Go.ChangeAt Go.RowKit OctM

theorem size_48 : (Try.prog.info? 43).map (·.size) = some 48 := by kernel_rfl
def loadR (a : Value) : Sem Value := Instr.loadAt 43 a
theorem loadR_eq (a : Value) : Instr.loadAt 43 a = loadR a := rfl
def storeR (a v : Value) : Sem Unit := Instr.storeAt 43 a v
theorem storeR_eq (a v : Value) : Instr.storeAt 43 a v = storeR a v := rfl
def boxR (v : Value) : Sem Value := Instr.box 43 v
theorem boxR_eq (v : Value) : Instr.box 43 v = boxR v := rfl
def allocR (v : Value) : Sem Value := Instr.alloc 43 true v
theorem allocR_eq (v : Value) : Instr.alloc 43 true v = allocR v := rfl
def zeroR : Array Value := #[.int .u8 0, .int .u8 0, .int .u8 0, .int .u8 0, .int .u8 0, .int .u8 0, .int .u8 0, .int .u8 0, .int .u8 0, .int .u8 0, .int .u8 0, .int .u8 0, .int .u8 0, .int .u8 0, .int .u8 0, .int .u8 0, .int .u8 0, .int .u8 0, .int .u8 0, .int .u8 0, .int .u8 0, .int .u8 0, .int .u8 0, .int .u8 0, .int .u8 0, .int .u8 0, .int .u8 0, .int .u8 0, .int .u8 0, .int .u8 0, .int .u8 0, .int .u8 0, .int .u8 0, .int .u8 0, .int .u8 0, .int .u8 0, .int .u8 0, .int .u8 0, .int .u8 0, .int .u8 0, .int .u8 0, .int .u8 0, .int .u8 0, .int .u8 0, .int .u8 0, .int .u8 0, .int .u8 0, .int .u8 0]
theorem zero_48 : (Try.prog.info? 43).map (fun i => (i.zero, i.size)) = some (some (.agg zeroR), 48) := by kernel_rfl
theorem box_r (C : Array Value) (w : World) : (boxR (.agg C)).run Try.prog w = .ok (.pointer (some ⟨w.heap.size, 0, none⟩)) (w.alloc (.cells C 43)) := by
  unfold boxR Instr.box
  simp [go_sem, Value.cells]
theorem alloc_r (w : World) : (allocR (.tuple #[])).run Try.prog w = .ok (.pointer (some ⟨w.heap.size, 0, none⟩)) (w.alloc (.cells zeroR 43)) := by
  have z := (zero_of_info zero_48).1
  unfold allocR Instr.alloc
  rw [Sem.run_bind, z]
  simp [go_sem, Value.cells, Result.andThen]
theorem load_r {w : World} {N : Nat} {C : Array Value} (hg : w.heap[N]? = some (.cells C 43 (0, 0))) (hC : C.size = 48) : (loadR (.pointer (some ⟨N, 0, none⟩))).run Try.prog w = .ok (.agg C) w := by
  unfold loadR
  simp only [Instr.loadAt, Instr.sureAddr, Sem.run_bind, Sem.run_pure, Result.andThen]
  exact run_loadVar_row w N _ _ C (0, 0) _ hg Try.underlying43 rfl (by rw [hC]; exact size_48)
theorem store_r (w : World) {C : Array Value} (hC : C.size = 48) (h1 : C.all (·.oneCell') = true) : (storeR (.pointer (some ⟨w.heap.size, 0, none⟩)) (.agg C)).run Try.prog (w.alloc (.cells zeroR 43)) = .ok () (w.alloc (.cells C 43)) := by
  unfold storeR
  simp only [Instr.storeAt, Instr.sureAddr, Sem.run_bind, Sem.run_pure, Result.andThen]
  rw [run_storeVar_row _ w.heap.size _ _ _ _ (heap_alloc_new w _) (by rw [hC]; exact size_48) (by rw [hC]; rfl) h1, World.setRow_alloc_new]

/-- a bit of a byte turned. -/
def turn8 (z r : Nat) : Nat := (bits .xor .u8 (z : Int) (IntKind.u8.wrap ((2 : Int) ^ r))).toNat
theorem turn8_xor : ∀ (z : Fin 256) (r : Fin 8), bits .xor .u8 (z.val : Int) (IntKind.u8.wrap ((2 : Int) ^ r.val)) = (turn8 z.val r.val : Int) ∧ turn8 z.val r.val < 256 ∧ turn8 z.val r.val ≠ z.val := by decide +kernel
theorem turn8_ver : ∀ (z : Fin 256) (r : Fin 8), (r.val < 3 ∨ 5 < r.val) → turn8 z.val r.val / 8 % 8 = z.val / 8 % 8 := by decide +kernel

/-- What both rows of bytes tell. -/
def BitsCase (k : Nat) (hx hy : Hd) (Ex Ey : Int) : Prop := (Ex = 0 ∧ Ey = 0 ∧ hx ≠ hy) ∨ (((Ex = 0 ∧ Ey = 5) ∨ (Ex = 5 ∧ Ey = 0)) ∧ 3 ≤ k ∧ k ≤ 5) ∨ (Ex = 5 ∧ Ey = 5)

theorem byt_set {xs : List Nat} (h : Byt xs) {q v : Nat} (hv : v < 256) : Byt (xs.set q v) := by
  intro d hd
  rcases List.mem_or_eq_of_mem_set hd with h1 | h1
  · exact h d h1
  · rw [h1]; exact hv
theorem numP_first {ds : List Nat} (h : 48 ≤ ds.length) : numP ds 0 = ds.getD 0 0 := by
  rw [numP_place ds 0 0 1 (by decide) (by decide +kernel) rfl, numN_one ds 0 (by omega)]

theorem bits_case {xs : List Nat} (lx : xs.length = 48) (hy : Byt xs) (k : Nat) (hk : k < 384) :
    ∃ hx Lx ex Ex hz Lz ez Ez, Told xs hx Lx ex Ex ∧ Told (xs.set (k / 8) (turn8 (xs.getD (k / 8) 0) (k % 8))) hz Lz ez Ez ∧ BitsCase k hx hz Ex Ez := by
  have q1 : k / 8 < 48 := by omega
  have r1 : k % 8 < 8 := by omega
  have z1 : xs.getD (k / 8) 0 < 256 := byt_get hy _
  have T := turn8_xor ⟨_, z1⟩ ⟨_, r1⟩
  have TV := turn8_ver ⟨_, z1⟩ ⟨_, r1⟩
  simp only at T TV
  obtain ⟨-, T2, T3⟩ := T
  obtain ⟨v, hv⟩ : ∃ v, v = turn8 (xs.getD (k / 8) 0) (k % 8) := ⟨_, rfl⟩
  rw [← hv] at T2 T3 TV ⊢
  clear hv
  obtain ⟨ys, hys⟩ : ∃ ys, ys = xs.set (k / 8) v := ⟨_, rfl⟩
  have yy : Byt ys := by rw [hys]; exact byt_set hy T2
  have ly : ys.length = 48 := by rw [hys, List.length_set, lx]
  have ne : xs ≠ ys := fun e => T3 (by
    have : ys.getD (k / 8) 0 = v := by rw [hys, List.getD_eq_getElem?_getD, List.getElem?_set_self (by omega)]; rfl
    rw [← this, ← e])
  have f0 : 0 < k / 8 → ys.getD 0 0 = xs.getD 0 0 := fun h => by
    rw [hys, List.getD_eq_getElem?_getD, List.getElem?_set_ne (by omega), ← List.getD_eq_getElem?_getD]
  have f1 : k / 8 = 0 → ys.getD 0 0 = v := fun h => by
    rw [hys, h, List.getD_eq_getElem?_getD, List.getElem?_set_self (by omega)]; rfl
  have ver : ¬ (3 ≤ k ∧ k ≤ 5) → numP ys 0 / 8 % 8 = numP xs 0 / 8 % 8 := fun h => by
    rw [numP_first (by omega), numP_first (by omega)]
    by_cases h0 : k / 8 = 0
    · rw [f1 h0, TV (by omega), h0]
    · rw [f0 (by omega)]
  rw [← hys]
  have mx := may_hdP hy
  have my := may_hdP yy
  by_cases vx : mayH (hdP xs)
  · by_cases vy : mayH (hdP ys)
    · refine ⟨_, _, _, _, _, _, _, _, told_ok hy (by omega) (by omega) vx, told_ok yy (by omega) (by omega) vy, .inl ⟨rfl, rfl, fun e => ne ?_⟩⟩
      have a := bytesH_hdP hy (by omega)
      have b := bytesH_hdP yy (by omega)
      rw [List.take_of_length_le (by omega)] at a b
      rw [← a, ← b, e]
    · refine ⟨_, _, _, _, _, _, _, _, told_ok hy (by omega) (by omega) vx, told_form yy (by omega) (by omega) vy, .inr (.inl ⟨.inl ⟨rfl, rfl⟩, ?_⟩)⟩
      by_cases g : 3 ≤ k ∧ k ≤ 5
      · exact g
      · exact absurd (my.2 (by rw [ver g]; exact mx.1 vx)) vy
  · by_cases vy : mayH (hdP ys)
    · refine ⟨_, _, _, _, _, _, _, _, told_form hy (by omega) (by omega) vx, told_ok yy (by omega) (by omega) vy, .inr (.inl ⟨.inr ⟨rfl, rfl⟩, ?_⟩)⟩
      by_cases g : 3 ≤ k ∧ k ≤ 5
      · exact g
      · exact absurd (mx.2 (by rw [← ver g]; exact my.1 vy)) vx
    · exact ⟨_, _, _, _, _, _, _, _, told_form hy (by omega) (by omega) vx, told_form yy (by omega) (by omega) vy, .inr (.inr ⟨rfl, rfl⟩)⟩
end Go.Proofs.Ytjjbalgonkphjaa
