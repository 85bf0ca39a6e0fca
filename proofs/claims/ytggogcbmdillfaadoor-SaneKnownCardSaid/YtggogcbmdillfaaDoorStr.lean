/- Bytes as strings, opaque in a walk: made of a row that is held, compared, put together: for every stage. ('attribute [local go_sem ↓] strB_eq eqlS_eq addS_eq' in the text that walks.) -/
import Derived.Test.YtggogcbmdillfaaDoorRow
import Derived.Test.YtggogcbmdillfaaDoorOctM
import Derived.Laws.BytesArg
import Derived.Laws.Concat
import Derived.Laws.StructEq
namespace Go.Proofs.YtggogcbmdillfaaDoor
open Go.ChangeShapes Go.WideShapes Go.ChangeAt Go.RowKit OctM

def strN (ds : List Nat) : ByteArray := strOfNums (ds.map fun d : Nat => (d : Int))
theorem strN_inj {a b : List Nat} (ha : Byt a) (hb : Byt b) (h : strN a = strN b) : a = b := by
  unfold strN strOfNums at h
  injection h with h
  have h' := congrArg Array.toList h
  simp only [List.map_map] at h'
  have key : ∀ {l : List Nat}, Byt l → (l.map ((fun n : Int => UInt8.ofNat n.toNat) ∘ fun d : Nat => (d : Int))).map UInt8.toNat = l := by
    intro l hl
    rw [List.map_map]
    conv => rhs; rw [← List.map_id l]
    refine List.map_congr_left fun d hd => ?_
    show (UInt8.ofNat ((d : Int).toNat)).toNat = d
    rw [Int.toNat_natCast, UInt8.toNat_ofNat']
    exact Nat.mod_eq_of_lt (hl d hd)
  rw [← key ha, ← key hb, h']
theorem strN_size (a : List Nat) : (strN a).size = a.length := by
  unfold strN
  rw [strOfNums_size, List.length_map]
theorem strN_append (a b : List Nat) : strN (a ++ b) = strN a ++ strN b := by
  unfold strN strOfNums
  apply ByteArray.ext
  simp

def strB (v : Value) : Sem Value := convert 44 9 v
theorem strB_eq (v : Value) : convert 44 9 v = strB v := rfl
theorem str_held {w : World} {p : Option Addr} {n c : Nat} {ds : List Nat} (h : Holds w p n c (valsN .u8 ds)) : (strB (.slice p n c)).run Tryd.prog w = .ok (.string (strN ds)) w := by
  have l := h.len
  rw [valsN_len] at l
  unfold strB
  rcases p with _ | a
  · have c0 := h.bare rfl
    have n0 : n = 0 := by have := h.cap; omega
    subst n0
    obtain rfl := List.length_eq_zero_iff.1 l
    rw [run_convert_bytes_nil w 44 5 Tryd.underlying44 Tryd.underlying5 0 c 9 Tryd.underlying9]
    rfl
  · have hl : (loadCells a n).run Tryd.prog w = .ok ((ds.map fun d : Nat => (d : Int)).map (Value.int .u8)).toArray w := by
      have := run_loadCells_list (P := Tryd.prog) w a ((ds.map fun d : Nat => (d : Int)).map (Value.int .u8)) (fun j v hj => by
        obtain ⟨a', e, hc⟩ := h.cell j v (by rw [← hj]; unfold valsN; rw [List.map_map]; rfl)
        cases e
        exact hc)
      simpa [l] using this
    rw [run_convert_bytes_string w 44 9 5 _ n c Tryd.underlying44 Tryd.underlying5 Tryd.underlying9, run_bytesToString w _ n c _ hl, foldl_push_bytes]
    simp [strN, strOfNums, ByteArray.empty, ByteArray.emptyWithCapacity]
    rfl

def eqlS (x y : Value) : Sem Value := binOp .eql 9 x y
theorem eqlS_eq (x y : Value) : binOp .eql 9 x y = eqlS x y := rfl
theorem eql_str (w : World) {a b : List Nat} (ha : Byt a) (hb : Byt b) : (eqlS (.string (strN a)) (.string (strN b))).run Tryd.prog w = .ok (.bool (decide (a = b))) w := by
  have e : ((strN a).toList == (strN b).toList) = decide (a = b) := by
    rw [Bool.eq_iff_iff, decide_eq_true_iff, beq_iff_eq, ByteArray.toList_eq, ByteArray.toList_eq]
    exact ⟨fun h => strN_inj ha hb (ByteArray.ext (Array.ext' h)), fun h => by rw [h]⟩
  unfold eqlS
  simp [go_sem]
  exact e
def addS (x y : Value) : Sem Value := binOp .add 9 x y
theorem addS_eq (x y : Value) : binOp .add 9 x y = addS x y := rfl
theorem add_str (w : World) (a b : List Nat) (h : a.length + b.length ≤ 1000000) : (addS (.string (strN a)) (.string (strN b))).run Tryd.prog w = .ok (.string (strN (a ++ b))) w := by
  unfold addS
  rw [strN_append]
  simp [go_sem]
  rw [strN_size, strN_size]
  omega
end Go.Proofs.YtggogcbmdillfaaDoor

