/- The walk of OctetOrder, all ways. -/
import Derived.Test.YtpamnephndoefaaOctOrdW
namespace Go.Proofs.Ytpamnephndoefaa
open Go.ChangeShapes Go.WideShapes Go.ChangeAt Go.RowKit OctM

theorem order_none (w : World) (p0 : Option Addr) (n0 c0 at' n : Nat) (cells : Calls Try.prog 28 #[.slice p0 n0 c0] w fun e w' => ∃ p1 c1 p2 c2, e = .returned (.tuple #[.slice p1 0 c1, .slice p2 0 c2]) ∧ Below w.heap.size w w') :
    Calls Try.prog 8 #[.slice p0 n0 c0, .int .u8 at', .int .u64 n] w fun e w' => e = .returned (.bool true) ∧ Below w.heap.size w w' := by
  have CC := Lib.hid cells
  clear cells
  go_enter Try.func8, Try.ntmps8
  go_wp2_with fail
  refine CC.out.mono ?_; rintro e w1 ⟨p1, c1, p2, c2, rfl, l⟩
  have W1 := Lib.hid l
  clear l
  go_wp2_with fail
  refine (awake3_any oct_code _).mono ?_; rintro e w2 ⟨rfl, l⟩
  have FIN : Hid (Below w.heap.size w w2) := seqB W1.out l
  clear l
  go_wp2
  go_ret
  exact ⟨rfl, FIN.out⟩

theorem order_walk (w : World) (p0 : Option Addr) (n0 c0 : Nat) (cs : List (Nat × Nat)) (at' n : Nat) (hc : HoldsC w p0 n0 c0 cs) (hb : ∀ i, i < n0 → (cs.getD i (0, 0)).1 < 256 ∧ (cs.getD i (0, 0)).2 < 18446744073709551616) (ha : at' < 256) (hn : n < 18446744073709551616) :
    Calls Try.prog 8 #[.slice p0 n0 c0, .int .u8 at', .int .u64 n] w fun e w' => e = .returned (.bool true) ∧ Below w.heap.size w w' := by
  obtain ⟨N, hN⟩ : ∃ N, N = min n0 30 := ⟨_, rfl⟩
  have C := cells_held w p0 n0 c0 N cs hc hb hN
  by_cases h0 : N = 0
  · subst h0
    exact order_none w p0 n0 c0 at' n (C.mono fun e w' ⟨p1, c1, p2, c2, he, _, _, l⟩ => ⟨p1, c1, p2, c2, he, l⟩)
  have ok := sizesT_ok cs N
  have zl := sizesT_len cs N
  have xl := numsT_len cs N
  have f := nums_fit cs N (fun i hi => (hb i (by omega)).2)
  have f' : fitT (sizesT cs N) (numsT cs N) (sizesT cs N).length := by rw [zl]; exact f
  have xz : (numsT cs N).length = (sizesT cs N).length := by rw [xl, zl]
  obtain ⟨k, hk⟩ : ∃ k, k = at' % N := ⟨_, rfl⟩
  have kN : k < N := by rw [hk]; exact Nat.mod_lt _ (by omega)
  obtain ⟨s, hs⟩ : ∃ s, s = sizeT cs k := ⟨_, rfl⟩
  have so := sizeT_ok cs k
  rw [← hs] at so
  have zk : (sizesT cs N).getD k 0 = (s : Int) := by rw [sizesT_get _ _ _ kN, hs]
  obtain ⟨y, hy⟩ : ∃ y, y = n / 2 ^ (64 - 8 * s) := ⟨_, rfl⟩
  have ys : y < 256 ^ s := by rw [hy]; exact shr_fits n s hn so.1 so.2
  have ys' : y < 256 ^ ((sizesT cs N).getD k 0).toNat := by rw [zk, Int.toNat_natCast]; exact ys
  have g := fit_set (k := k) (y := y) (by rw [xl]; exact kN) f' ys'
  have gl : ((numsT cs N).set k y).length = (sizesT cs N).length := by rw [List.length_set]; exact xz
  have num := order_num (k := k) (y := y) (by rw [xl]; exact kN) xz f' ys'
  have mk : ∀ r, cmpN (layT (sizesT cs N) (numsT cs N) (sizesT cs N).length) (layT (sizesT cs N) ((numsT cs N).set k y) (sizesT cs N).length) = r →
      OrdIn w p0 n0 c0 N at' n k s ((numsT cs N).getD k 0) y (sizesT cs N) (numsT cs N) (layT (sizesT cs N) (numsT cs N) (sizesT cs N).length) (layT (sizesT cs N) ((numsT cs N).set k y) (sizesT cs N).length) (atT (sizesT cs N) (sizesT cs N).length) r := fun r hr =>
    ⟨C, by omega, zl, xl, fit_lt ok xz f', fit_lt ok gl g, by rw [hk]; simp, kN, so.1, so.2, zk, rfl, by rw [hy]; simp, Nat.lt_of_lt_of_le ys (pow_le8 s so.2),
      ⟨(backN ok xz f').lay.2, (backN ok xz f').lay.1⟩, ⟨(backN ok gl g).lay.2, (backN ok gl g).lay.1⟩, (backN ok xz f').len, (backN ok gl g).len, layT_byt _ _ _, layT_byt _ _ _, hr⟩
  rcases Nat.lt_trichotomy ((numsT cs N).getD k 0) y with h | h | h
  · exact order_lt w p0 n0 c0 N at' n k s _ y _ _ _ _ _ (mk _ (num.1 h)) ha hn h
  · exact order_eq w p0 n0 c0 N at' n k s _ y _ _ _ _ _ (mk _ (num.2.1 h)) ha hn h
  · exact order_gt w p0 n0 c0 N at' n k s _ y _ _ _ _ _ (mk _ (num.2.2 h)) ha hn h
end Go.Proofs.Ytpamnephndoefaa
