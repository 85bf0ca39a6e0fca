/- Packets by value: their cells; how one is boxed, loaded, stored as a whole (opaque in a walk): for every stage. -/
import Derived.Test.YtggogcbmdillfaaDoorSlice
import Derived.Laws.Rows
import Derived.Laws.Tables
import Derived.Deep.WholeRow
namespace Go.Proofs.YtggogcbmdillfaaDoor
open Go.ChangeShapes Go.WideShapes Go.ChangeAt Go.RowKit

/-- A packet's head. -/
structure Hd where
  lp : Nat
  ve : Nat
  mo : Nat
  st : Nat
  po : Int
  pr : Int
  de : Nat
  di : Nat
  ri : Nat
  rf : Nat
  og : Nat
  rc : Nat
  xm : Nat
/-- All else of a packet. -/
structure Xt where
  p : Option Addr
  n : Nat
  c : Nat
  sg : Bool
  ky : Nat
  tg : Nat
def Xt.zero : Xt := ⟨none, 0, 0, false, 0, 0⟩
def Hd.zero : Hd := ⟨0, 0, 0, 0, 0, 0, 0, 0, 0, 0, 0, 0, 0⟩
structure Hd.wf (h : Hd) : Prop where
  lp : h.lp < 256
  ve : h.ve < 256
  mo : h.mo < 256
  st : h.st < 256
  po : -128 ≤ h.po ∧ h.po ≤ 127
  pr : -128 ≤ h.pr ∧ h.pr ≤ 127
  de : h.de < 4294967296
  di : h.di < 4294967296
  ri : h.ri < 4294967296
  rf : h.rf < 18446744073709551616
  og : h.og < 18446744073709551616
  rc : h.rc < 18446744073709551616
  xm : h.xm < 18446744073709551616
def pkC (h : Hd) (x : Xt) : Array Value := #[.int .u8 (h.lp : Nat), .int .u8 (h.ve : Nat), .int .u8 (h.mo : Nat), .int .u8 (h.st : Nat), .int .i8 h.po, .int .i8 h.pr, .int .u32 (h.de : Nat), .int .u32 (h.di : Nat), .int .u32 (h.ri : Nat), .int .u64 (h.rf : Nat), .int .u64 (h.og : Nat), .int .u64 (h.rc : Nat), .int .u64 (h.xm : Nat), .slice x.p x.n x.c, .bool x.sg, .int .u32 (x.ky : Nat), .int .u64 (x.tg : Nat)]
def pkV (h : Hd) (x : Xt) : Value := .agg (pkC h x)

theorem pk_size (h : Hd) (x : Xt) : (pkC h x).size = 17 := rfl
theorem pk_one (h : Hd) (x : Xt) : (pkC h x).all (·.oneCell') = true := by simp [pkC, Value.oneCell']
theorem size_pk : (Tryd.prog.info? 27).map (·.size) = some 17 := by kernel_rfl

/-- A whole packet is loaded, stored, boxed: under names that a walk does not open ('attribute [local go_sem ↓] loadP_eq storeP_eq boxP_eq allocP_eq' in the text that walks). -/
def loadP (a : Value) : Sem Value := Instr.loadAt 27 a
theorem loadP_eq (a : Value) : Instr.loadAt 27 a = loadP a := rfl
def storeP (a v : Value) : Sem Unit := Instr.storeAt 27 a v
theorem storeP_eq (a v : Value) : Instr.storeAt 27 a v = storeP a v := rfl
def boxP (v : Value) : Sem Value := Instr.box 27 v
theorem boxP_eq (v : Value) : Instr.box 27 v = boxP v := rfl

def allocP (v : Value) : Sem Value := Instr.alloc 27 true v
theorem allocP_eq (v : Value) : Instr.alloc 27 true v = allocP v := rfl
def zeroP : Sem Value := Instr.build 27 #[]
theorem zeroP_eq : Instr.build 27 #[] = zeroP := rfl
theorem zeroP_eq' (f : Nat × Operand → Nat × Value) : Instr.build 27 (Array.map f #[]) = zeroP := by rw [Array.map_empty]; rfl
theorem zero_pk (w : World) : zeroP.run Tryd.prog w = .ok (pkV Hd.zero Xt.zero) w := by
  unfold zeroP
  simp [go_sem, pkV, pkC, Hd.zero, Xt.zero]
theorem alloc_pk (w : World) : (allocP (.tuple #[])).run Tryd.prog w = .ok (.pointer (some ⟨w.heap.size, 0, none⟩)) (w.alloc (.cells (pkC Hd.zero Xt.zero) 27)) := by
  unfold allocP Instr.alloc
  simp [go_sem, pkC, Hd.zero, Xt.zero]
theorem box_pk (h : Hd) (x : Xt) (w : World) : (boxP (pkV h x)).run Tryd.prog w = .ok (.pointer (some ⟨w.heap.size, 0, none⟩)) (w.alloc (.cells (pkC h x) 27)) := by
  unfold boxP Instr.box
  simp [go_sem, pkV, Value.cells]

theorem load_pk {w : World} {N : Nat} {h : Hd} {x : Xt} (hg : w.heap[N]? = some (.cells (pkC h x) 27 (0, 0))) : (loadP (.pointer (some ⟨N, 0, none⟩))).run Tryd.prog w = .ok (pkV h x) w := by
  unfold loadP
  simp only [Instr.loadAt, Instr.sureAddr, Sem.run_bind, Sem.run_pure, Result.andThen]
  exact run_loadVar_row w N _ _ (pkC h x) (0, 0) _ hg Tryd.underlying27 rfl size_pk

theorem store_pk {w : World} {N : Nat} {old : Array Value} (h : Hd) (x : Xt) (hg : w.heap[N]? = some (.cells old 27 (0, 0))) (ho : old.size = 17) : (storeP (.pointer (some ⟨N, 0, none⟩)) (pkV h x)).run Tryd.prog w = .ok () (w.setRow N (pkC h x)) := by
  unfold storeP
  simp only [Instr.storeAt, Instr.sureAddr, Sem.run_bind, Sem.run_pure, Result.andThen]
  exact run_storeVar_row w N _ _ old (pkC h x) hg size_pk (by rw [ho]; rfl) (pk_one h x)
/-- into the block that was made last. -/
theorem store_new (w : World) (old : Array Value) (h : Hd) (x : Xt) (ho : old.size = 17) : (storeP (.pointer (some ⟨w.heap.size, 0, none⟩)) (pkV h x)).run Tryd.prog (w.alloc (.cells old 27)) = .ok () (w.alloc (.cells (pkC h x) 27)) := by
  rw [store_pk h x (heap_alloc_new w _) ho, World.setRow_alloc_new]

theorem setRow_same {w : World} {N : Nat} {c : Array Value} {t : TypeId} {fr : Nat × Nat} (hg : w.heap[N]? = some (.cells c t fr)) : w.setRow N c = w := by
  cases w with
  | mk heap tape drawn os output =>
    unfold World.setRow
    simp only at hg ⊢
    congr 1
    apply Array.ext_getElem?
    intro k
    rw [Array.getElem?_modify]
    by_cases e : N = k
    · subst e; rw [if_pos rfl, hg]; rfl
    · rw [if_neg e]
theorem store_same {w : World} {N : Nat} {h : Hd} {x : Xt} (hg : w.heap[N]? = some (.cells (pkC h x) 27 (0, 0))) : (storeP (.pointer (some ⟨N, 0, none⟩)) (pkV h x)).run Tryd.prog w = .ok () w := by
  rw [store_pk h x hg rfl, setRow_same hg]

theorem Below.setRow {B : Nat} {a w : World} (h : Below B a w) {g : Nat} (hg : B ≤ g) (cs : Array Value) : Below B a (w.setRow g cs) :=
  ⟨h.os, h.tape, h.output, by rw [setRow_size]; exact h.size, fun k hk => (setRow_other w g k cs (by omega)).trans (h.block k hk)⟩

theorem loadVar_pk {w : World} {N : Nat} {h : Hd} {x : Xt} (hg : w.heap[N]? = some (.cells (pkC h x) 27 (0, 0))) : (loadVar 27 ⟨N, 0, none⟩).run Tryd.prog w = .ok (pkV h x) w :=
  run_loadVar_row w N _ _ (pkC h x) (0, 0) _ hg Tryd.underlying27 rfl size_pk
/-- A packet and two more are told. -/
theorem results_pk3 {fn : Func} {p u v : Tmp} (h : fn.results = #[.cell p 27, .tmp u, .tmp v]) (tmps : Array Value) (w : World) (N : Nat) (hd : Hd) (x : Xt)
    (hp : tmps.getD p undef = .pointer (some ⟨N, 0, none⟩)) (hg : w.heap[N]? = some (.cells (pkC hd x) 27 (0, 0))) :
    (results fn tmps).run Tryd.prog w = .ok (.tuple #[pkV hd x, tmps.getD u undef, tmps.getD v undef]) w := by
  have hp' : tmps[p]?.getD undef = .pointer (some ⟨N, 0, none⟩) := by simpa using hp
  simp [results, h, hp', asAddr, loadVar_pk hg]
theorem results_pk1 {fn : Func} {p : Tmp} (h : fn.results = #[.cell p 27]) (tmps : Array Value) (w : World) (N : Nat) (hd : Hd) (x : Xt)
    (hp : tmps.getD p undef = .pointer (some ⟨N, 0, none⟩)) (hg : w.heap[N]? = some (.cells (pkC hd x) 27 (0, 0))) :
    (results fn tmps).run Tryd.prog w = .ok (pkV hd x) w := by
  have hp' : tmps[p]?.getD undef = .pointer (some ⟨N, 0, none⟩) := by simpa using hp
  simp [results, h, hp', asAddr, loadVar_pk hg]
end Go.Proofs.YtggogcbmdillfaaDoor

