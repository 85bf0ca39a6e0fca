/- bytes.Equal, slices.Equal over rows as we hold them. -/
import Derived.Test.YteclcefeipjoeaaSlice
import Derived.Test.YteclcefeipjoeaaOctM
import Derived.Test.YteclcefeipjoeaaShelf
import Derived.RegionTactic
import Derived.Deep.QuietTactic
import Derived.BigQuiet
namespace Go.Proofs.Yteclcefeipjoeaa
open Go.ChangeShapes Go.WideShapes Go.ChangeAt Go.RowKit OctM

theorem bytes_eq {a b : List Nat} (ha : Byt a) (hb : Byt b) : (Lib.bytesOf (a.map fun d : Nat => (d : Int)) == Lib.bytesOf (b.map fun d : Nat => (d : Int))) = decide (a = b) := by
  have e : ∀ l : List Nat, Lib.bytesOf (l.map fun d : Nat => (d : Int)) = l.map UInt8.ofNat := by
    intro l
    unfold Lib.bytesOf
    rw [List.map_map]
    apply List.map_congr_left
    intro d _
    simp
  rw [e, e, Bool.eq_iff_iff, beq_iff_eq, decide_eq_true_iff]
  constructor
  · intro h
    induction a generalizing b with
    | nil => cases b with
      | nil => rfl
      | cons y t => simp at h
    | cons x s ih => cases b with
      | nil => simp at h
      | cons y t =>
        simp only [List.map_cons, List.cons.injEq] at h
        have hx := ha x (by simp)
        have hy := hb y (by simp)
        have := congrArg UInt8.toNat h.1
        rw [UInt8.toNat_ofNat', UInt8.toNat_ofNat'] at this
        have e1 : x = y := by omega
        rw [e1, ih (fun d hd => ha d (by simp [hd])) (fun d hd => hb d (by simp [hd])) h.2]
  · intro h; rw [h]

theorem holds_bytesIn {w : World} {p : Option Addr} {n c : Nat} {ds : List Nat} (h : Holds w p n c (valsN .u8 ds)) : Lib.BytesIn w p n (ds.map fun d : Nat => (d : Int)) := by
  by_cases h0 : n = 0
  · subst h0; exact Lib.BytesIn.nil _ _ _
  · obtain ⟨a, rfl, -⟩ := h.atN (i := 0) (by omega)
    refine Lib.BytesIn.of_cells fun i hi => ?_
    obtain ⟨a', e, hc⟩ := h.atN hi
    cases e
    rw [hc]
    have l := h.len
    rw [valsN_len] at l
    rw [List.getD_eq_getElem?_getD, List.getD_eq_getElem?_getD, List.getElem?_map, List.getElem?_eq_getElem (by omega)]
    rfl

theorem bequal_any (w : World) (p q : Option Addr) (n c m d : Nat) (a b : List Nat) (ha : Holds w p n c (valsN .u8 a)) (hb : Holds w q m d (valsN .u8 b)) (ya : Byt a) (yb : Byt b) :
    Calls Try.prog 14 #[.slice p n c, .slice q m d] w fun e w' => e = .returned (.bool (decide (a = b))) ∧ w = w' := by
  have la := ha.len
  have lb := hb.len
  rw [valsN_len] at la lb
  refine (Try.bytes_Equal_all p q n c m d (a.map fun d : Nat => (d : Int)) (b.map fun d : Nat => (d : Int)) w (by rw [List.length_map]; exact la) (by rw [List.length_map]; exact lb) (holds_bytesIn ha) (holds_bytesIn hb)).mono ?_
  rintro e w' ⟨rfl, rfl⟩
  rw [bytes_eq ya yb]
  exact ⟨rfl, rfl⟩

theorem bequal_same (w : World) (p q : Option Addr) (n c m d : Nat) (a : List Nat) (ha : Holds w p n c (valsN .u8 a)) (hb : Holds w q m d (valsN .u8 a)) (ya : Byt a) :
    Calls Try.prog 14 #[.slice p n c, .slice q m d] w fun e w' => e = .returned (.bool true) ∧ w = w' := by
  have h := bequal_any w p q n c m d a a ha hb ya ya
  rwa [decide_eq_true rfl] at h

end Go.Proofs.Yteclcefeipjoeaa

