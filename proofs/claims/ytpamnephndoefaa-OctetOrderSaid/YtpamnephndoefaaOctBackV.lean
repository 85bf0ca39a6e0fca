/- The walk of OctetBack, all ways. -/
import Derived.Test.YtpamnephndoefaaOctBackW
namespace Go.Proofs.Ytpamnephndoefaa
open Go.ChangeShapes Go.WideShapes Go.ChangeAt Go.RowKit OctM

/-- What the cells' helper tells, held. -/
theorem cells_held (w : World) (p : Option Addr) (n c N : Nat) (cs : List (Nat × Nat)) (hc : HoldsC w p n c cs) (hb : ∀ i, i < n → (cs.getD i (0, 0)).1 < 256 ∧ (cs.getD i (0, 0)).2 < 18446744073709551616) (hN : N = min n 30) :
    Calls Try.prog 28 #[.slice p n c] w fun e w' => ∃ p1 c1 p2 c2, e = .returned (.tuple #[.slice p1 N c1, .slice p2 N c2]) ∧ Holds w' p1 N c1 (valsI .i64 (sizesT cs N)) ∧ Holds w' p2 N c2 (valsN .u64 (numsT cs N)) ∧ Below w.heap.size w w' := by
  refine (cells_any w p n c N cs hc (fun i hi => (hb i hi).1) (fun i hi => (hb i hi).2) hN).mono ?_
  rintro e w' ⟨v1, v2, rfl, o1, o2, l⟩
  obtain ⟨p1, c1, rfl, h1⟩ := own_holds o1
  obtain ⟨p2, c2, rfl, h2⟩ := own_holds o2
  exact ⟨p1, c1, p2, c2, rfl, h1, h2, l⟩

theorem back_walk (w : World) (p0 p : Option Addr) (n0 c0 n c : Nat) (cs : List (Nat × Nat)) (ds : List Nat) (cut : Nat) (hc : HoldsC w p0 n0 c0 cs) (hb : ∀ i, i < n0 → (cs.getD i (0, 0)).1 < 256 ∧ (cs.getD i (0, 0)).2 < 18446744073709551616)
    (hd : Holds w p n c (valsN .u8 ds)) (hy : Byt ds) (h8 : cut < 256) :
    Calls Try.prog 5 #[.slice p0 n0 c0, .slice p n c, .int .u8 cut] w fun e w' => e = .returned (.bool true) ∧ Below w.heap.size w w' := by
  obtain ⟨N, hN⟩ : ∃ N, N = min n0 30 := ⟨_, rfl⟩
  have ok := sizesT_ok cs N
  have zl := sizesT_len cs N
  have xl := numsT_len cs N
  have f := nums_fit cs N (fun i hi => (hb i (by omega)).2)
  have f' : fitT (sizesT cs N) (numsT cs N) (sizesT cs N).length := by rw [zl]; exact f
  have xz : (numsT cs N).length = (sizesT cs N).length := by rw [xl, zl]
  have B := backN ok xz f'
  have l := hd.len
  rw [valsN_len] at l
  have cp := hd.cap
  have mx := hd.max
  unfold maxLen at mx
  obtain ⟨K, hK⟩ : ∃ K, K = min n cut := ⟨_, rfl⟩
  obtain ⟨M, hM⟩ : ∃ M, M = min n 300 := ⟨_, rfl⟩
  have HK := holdsN_take hd (k := K) (by omega)
  have HM := holdsN_take hd (k := M) (by omega)
  have I : BackIn w p0 p n0 c0 n c N K M cut (atT (sizesT cs N) (sizesT cs N).length) (sizesT cs N) (numsT cs N) (layT (sizesT cs N) (numsT cs N) (sizesT cs N).length) (ds.take K) (ds.take M) :=
    ⟨cells_held w p0 n0 c0 N cs hc hb hN, by omega, ok, zl, xl, fit_lt ok xz f', B, by omega, by omega, by omega, by omega, by omega, by omega, fun w' h => HK.below h, byt_take hy _, fun w' h => HM.below h, byt_take hy _, by rw [List.length_take]; omega, by rw [List.length_take]; omega, by omega⟩
  generalize atT (sizesT cs N) (sizesT cs N).length = L at *
  by_cases hL : L = 0
  · exact back_3 w p0 p n0 c0 n c N K M cut L _ _ _ _ _ I h8 hL (by omega)
  · by_cases hm : M < L
    · exact back_1 w p0 p n0 c0 n c N K M cut L _ _ _ _ _ I h8 (by omega) hm
    · exact back_2 w p0 p n0 c0 n c N K M cut L _ _ _ _ _ I h8 (by omega) (by omega)
end Go.Proofs.Ytpamnephndoefaa
