/- Layer 6's laws: eight bytes by value. -/
import Derived.Test.YtkojgegfmhoomaaMacWordsW
import Derived.Test.YtkojgegfmhoomaaFrameR
import Derived.Test.YtkojgegfmhoomaaFrameK
namespace Go.Proofs.Ytkojgegfmhoomaa
open Go.ChangeShapes Go.WideShapes Go.ChangeAt Go.RowKit OctM

theorem nat_of {z : Int} (h : 0 ≤ z) : ∃ x : Nat, z = (x : Int) := ⟨z.toNat, by omega⟩
theorem arr8 {C : Array Value} {zs : List Int} (hs : C.size = 8) (hl : C.toList = valsI .u8 zs) (hw : ∀ z ∈ zs, (Lit.int .u8 z).wf = true) :
    ∃ b0 b1 b2 b3 b4 b5 b6 b7 : Nat, C = #[.int .u8 (b0 : Nat), .int .u8 (b1 : Nat), .int .u8 (b2 : Nat), .int .u8 (b3 : Nat), .int .u8 (b4 : Nat), .int .u8 (b5 : Nat), .int .u8 (b6 : Nat), .int .u8 (b7 : Nat)] ∧ Byt [b0, b1, b2, b3, b4, b5, b6, b7] := by
  have ln : zs.length = 8 := by
    have e := congrArg List.length hl
    rw [valsI_len, Array.length_toList, hs] at e
    exact e.symm
  have bd : ∀ z ∈ zs, 0 ≤ z ∧ z < ((256 : Nat) : Int) := fun z hz => u8_of_wf (hw z hz)
  match zs, ln with
  | [z0, z1, z2, z3, z4, z5, z6, z7], _ =>
    obtain ⟨b0, rfl⟩ := nat_of (bd z0 (by simp)).1
    obtain ⟨b1, rfl⟩ := nat_of (bd z1 (by simp)).1
    obtain ⟨b2, rfl⟩ := nat_of (bd z2 (by simp)).1
    obtain ⟨b3, rfl⟩ := nat_of (bd z3 (by simp)).1
    obtain ⟨b4, rfl⟩ := nat_of (bd z4 (by simp)).1
    obtain ⟨b5, rfl⟩ := nat_of (bd z5 (by simp)).1
    obtain ⟨b6, rfl⟩ := nat_of (bd z6 (by simp)).1
    obtain ⟨b7, rfl⟩ := nat_of (bd z7 (by simp)).1
    refine ⟨b0, b1, b2, b3, b4, b5, b6, b7, ?_, fun d hd => ?_⟩
    · rw [← Array.toArray_toList (xs := C), hl]
      rfl
    · have h := (bd (d : Int) (by
        simp only [List.mem_cons, List.not_mem_nil, or_false] at hd ⊢
        rcases hd with rfl | rfl | rfl | rfl | rfl | rfl | rfl | rfl <;> simp)).2
      omega
end Go.Proofs.Ytkojgegfmhoomaa
