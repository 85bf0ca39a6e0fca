/- Layer 6 (mac), the document's own answers: a number turned round, bytes as a number. -/
import Derived.Test.YtkojgegfmhoomaaMacM
import Derived.Test.YtkojgegfmhoomaaSlice
namespace Go.Proofs.Ytkojgegfmhoomaa
open Go.ChangeShapes Go.WideShapes Go.ChangeAt Go.RowKit OctM

theorem rturn6_any (w : World) (x n : Nat) (hx : W64 x) (hn : n ≤ 64) :
    Calls Try.prog 28 #[.int .u64 (x : Nat), .int .i64 (n : Int)] w fun e w' => e = .returned (.int .u64 (rotN x n : Nat)) ∧ w = w' := by
  have HX := Lib.hid hx
  have nb : (n : Int) ≤ 64 := by omega
  have HN := Lib.hid hn
  clear hx hn
  go_enter Try.func28, Try.ntmps28
  go_wp2_with fail
  go_loop [0, 5] (fun y i => ∃ k : Nat, y = .int .u64 (rotN x k : Nat) ∧ i = .int .i64 k ∧ Hid (k ≤ n)) (fun _ i => 100 - (intOf i).toNat)
  case atStart => exact ⟨0, rfl, rfl, Nat.zero_le _⟩
  case round =>
    obtain ⟨k, rfl, rfl, hk⟩ := hrel
    have kb : (k : Int) ≤ 64 := by have := hk.out; omega
    obtain ⟨y, hy⟩ : ∃ y, y = rotN x k := ⟨_, rfl⟩
    have yb : y < 18446744073709551616 := by rw [hy]; exact rotN_lt HX.out k
    have HY := Lib.hid hy
    rw [← hy]
    by_cases g : k < n
    · have g' : (k : Int) < (n : Int) := by omega
      have G : Hid (k + 1 ≤ n) := g
      obtain ⟨q, hq⟩ : ∃ q, q = y / 9223372036854775808 := ⟨_, rfl⟩
      obtain ⟨m, hm⟩ : ∃ m, m = 2 * y % 18446744073709551616 := ⟨_, rfl⟩
      obtain ⟨z, hz⟩ : ∃ z, z = rot1 y := ⟨_, rfl⟩
      have zz : z = m + q := by rw [hz, hm, hq]; rfl
      have e1 : (y : Int) / 9223372036854775808 = (q : Int) := by omega
      have e1' : (y : Int).tdiv 9223372036854775808 = (q : Int) := by rw [Int.tdiv_eq_ediv_of_nonneg (by omega)]; exact e1
      have w1 : IntKind.u64.wrap (q : Int) = (q : Int) := by rw [IntKind.wrap_u64]; omega
      have w2 : IntKind.u64.wrap (2 * (y : Int)) = (m : Int) := by rw [IntKind.wrap_u64]; omega
      have e2 : (m : Int) + (q : Int) = (z : Int) := by omega
      have w3 : IntKind.u64.wrap (z : Int) = (z : Int) := by rw [IntKind.wrap_u64]; omega
      have NX : Hid (z = rotN x (k + 1)) := by unfold Hid; rw [hz, HY.out]; rfl
      clear hk hy yb g hq hm hz zz
      go_wp2
      go_round
      case rel => exact ⟨k + 1, by rw [NX.out], by go_num, G⟩
      case measure => simp [intOf]; omega
    · have g' : (n : Int) ≤ (k : Int) := by omega
      have F : Hid (y = rotN x n) := by
        have e : k = n := by have := hk.out; omega
        unfold Hid
        rw [HY.out, e]
      clear g hk hy yb
      go_wp2
      go_ret
      exact ⟨ret_int (by rw [F.out]), rfl⟩

theorem leN_drop {ds : List Nat} {i : Nat} (h : i < ds.length) : leN (ds.drop i) = leN (ds.drop (i + 1)) * 256 + ds.getD i 0 := by
  rw [List.drop_eq_getElem_cons h, List.getD_eq_getElem?_getD, List.getElem?_eq_getElem h]
  rfl

theorem rword6_any (w : World) (p : Option Addr) (n c : Nat) (ds : List Nat) (hd : Holds w p n c (valsN .u8 ds)) (hy : Byt ds) (hn : n ≤ 8) :
    Calls Try.prog 27 #[.slice p n c] w fun e w' => e = .returned (.int .u64 (leN ds : Nat)) ∧ w = w' := by
  have ln : ds.length = n := by have := hd.len; rwa [valsN_len] at this
  have HD := Lib.hid hd
  have HY := Lib.hid hy
  have LN := Lib.hid ln
  have HN := Lib.hid hn
  have nb : (n : Int) ≤ 8 := by omega
  clear hd hy ln hn
  go_enter Try.func27, Try.ntmps27
  go_wp2_with fail
  go_loop [3, 4] (fun y i => ∃ k : Nat, y = .int .u64 (leN (ds.drop k) : Nat) ∧ Hid (k ≤ n) ∧ ∃ z : Int, i = .int .i64 z ∧ Hid (z = (k : Int) - 1)) (fun _ i => (intOf i + 1).toNat)
  case atStart => exact ⟨n, by rw [List.drop_of_length_le (by rw [LN.out]; exact Nat.le_refl _)]; rfl, Nat.le_refl _, (n : Int) - 1, by go_num, rfl⟩
  case round =>
    obtain ⟨k, rfl, hk, z, rfl, hz⟩ := hrel
    obtain ⟨y, hy'⟩ : ∃ y, y = leN (ds.drop k) := ⟨_, rfl⟩
    rw [← hy']
    rcases k with _ | j
    · have ez : z = -1 := by have := hz.out; omega
      subst ez
      have F : Hid (y = leN ds) := hy'
      clear hk hz hy'
      go_wp2
      go_ret
      exact ⟨ret_int (by rw [F.out]), rfl⟩
    · have ez : z = (j : Int) := by have := hz.out; omega
      subst ez
      have jn : j < n := by have := hk.out; omega
      have g' : (j : Int) < (n : Int) := by omega
      have jb : (j : Int) < 8 := by have := HN.out; omega
      obtain ⟨a, rfl, cz⟩ := HD.out.atN jn
      obtain ⟨b, hb⟩ : ∃ b, b = ds.getD j 0 := ⟨_, rfl⟩
      rw [← hb] at cz
      have bb : b < 256 := by
        rw [hb, List.getD_eq_getElem?_getD, List.getElem?_eq_getElem (by rw [LN.out]; exact jn)]
        exact HY.out _ (List.getElem_mem _)
      have yb : y < 72057594037927936 := by
        rw [hy']
        exact leN_seven (byt_drop HY.out _) (by rw [List.length_drop, LN.out]; have := HN.out; omega)
      obtain ⟨m, hm⟩ : ∃ m, m = y * 256 := ⟨_, rfl⟩
      obtain ⟨s, hs⟩ : ∃ s, s = m + b := ⟨_, rfl⟩
      have e1 : (y : Int) * 256 = (m : Int) := by omega
      have w1 : IntKind.u64.wrap (m : Int) = (m : Int) := by rw [IntKind.wrap_u64]; omega
      have w2 : IntKind.u64.wrap (b : Int) = (b : Int) := by rw [IntKind.wrap_u64]; omega
      have e2 : (m : Int) + (b : Int) = (s : Int) := by omega
      have w3 : IntKind.u64.wrap (s : Int) = (s : Int) := by rw [IntKind.wrap_u64]; omega
      have NX : Hid (s = leN (ds.drop j)) := by
        unfold Hid
        rw [leN_drop (by rw [LN.out]; exact jn), ← hb, ← hy', hs, hm]
      have JN : Hid (j ≤ n) := Nat.le_of_lt jn
      clear hk hz hy' jn hb bb yb hm hs
      go_wp2
      go_round
      case rel => exact ⟨j, by rw [NX.out], JN, (j : Int) - 1, by first | rfl | go_num, rfl⟩
      case measure => simp [intOf]
end Go.Proofs.Ytkojgegfmhoomaa
