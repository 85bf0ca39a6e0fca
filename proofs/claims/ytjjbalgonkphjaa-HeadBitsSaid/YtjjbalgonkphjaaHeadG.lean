/- The document's own answers for layer 4 (head): a number laid behind bytes; a number read; a small number with a sign. -/
import Derived.Test.YtjjbalgonkphjaaHeadA
import Derived.Test.YtjjbalgonkphjaaAppendM
import Derived.Test.YtjjbalgonkphjaaOctZ
namespace Go.Proofs.Ytjjbalgonkphjaa
open Go.ChangeShapes Go.WideShapes Go.ChangeAt Go.RowKit OctM

/-- a number's k lowest digits, the lowest one first. -/
def lowD (n : Nat) : Nat → List Nat
  | 0 => []
  | k + 1 => lowD n k ++ [n / 256 ^ k % 256]
theorem lowD_len (n k : Nat) : (lowD n k).length = k := by
  induction k with
  | zero => rfl
  | succ k ih => show (_ ++ [_]).length = _; rw [List.length_append, ih]; rfl
theorem lowD_get (n : Nat) {k i : Nat} (h : i < k) : (lowD n k).getD i 0 = n / 256 ^ i % 256 := by
  induction k with
  | zero => omega
  | succ k ih =>
    show (lowD n k ++ [n / 256 ^ k % 256]).getD i 0 = _
    rw [List.getD_eq_getElem?_getD]
    by_cases g : i < k
    · rw [List.getElem?_append_left (by rw [lowD_len]; exact g), ← List.getD_eq_getElem?_getD, ih g]
    · obtain rfl : i = k := by omega
      rw [List.getElem?_append_right (by rw [lowD_len]; omega), lowD_len, Nat.sub_self]
      rfl
theorem dig_take (n s j : Nat) (h : j < s) : (digN n s).take (s - j) = (digN n s).take (s - (j + 1)) ++ [n / 256 ^ j % 256] := by
  rw [show s - j = s - (j + 1) + 1 by omega, take_next (by rw [digN_len]; omega), dig_at _ _ _ (by omega), show s - 1 - (s - (j + 1)) = j by omega]

structure LowRel (w wr : World) (n k q : Nat) (d : Value) : Prop where
  own : wr.ownsRow w.heap.size 5 1 d k (valsN .u8 (lowD n k))
  low : Below w.heap.size w wr
  num : n / 256 ^ k = q
theorem lowrel_step {w wr w2 : World} {n k q : Nat} {d v' : Value} {o : Obj} (h : LowRel w wr n k q d) (ho : w2.ownsRow w.heap.size 5 1 v' (k + 1) (valsN .u8 (lowD n k) ++ [.int .u8 (q % 256 : Nat)])) (hg : (wr.alloc o).grownBy w2 d.ownBlock) : LowRel w w2 n (k + 1) (q / 256) v' := by
  refine ⟨?_, (h.low.alloc h.low.size o).grown hg (by simp; have := h.low.size; omega) (fun j hj => (World.ownsRow.lt h.own j hj).1), by rw [← h.num, div_step]⟩
  show w2.ownsRow _ _ _ _ _ (valsN .u8 (lowD n k ++ [n / 256 ^ k % 256]))
  rw [valsN_append, h.num]
  exact ho

/-- While the digits are laid, the highest one first: j are left. -/
structure HighRel (B : Nat) (w wr : World) (m n s j : Nat) (xs : List Nat) (v : Value) (pd : Option Addr) (cd : Nat) : Prop where
  own : wr.ownsRow B 5 1 v (m + (s - j)) (valsN .u8 (xs ++ (digN n s).take (s - j)))
  dig : wr.ownsRow B 5 1 (.slice pd s cd) s (valsN .u8 (lowD n s))
  apart : Apart v (.slice pd s cd)
  low : Below B w wr
  top : j ≤ s
theorem highrel_step {B : Nat} {w wr w2 : World} {m n s j : Nat} {xs : List Nat} {v v' : Value} {pd : Option Addr} {cd : Nat} {o : Obj} (hB : B ≤ w.heap.size) (h : HighRel B w wr m n s (j + 1) xs v pd cd)
    (ho : w2.ownsRow B 5 1 v' (m + (s - (j + 1)) + 1) (valsN .u8 (xs ++ (digN n s).take (s - (j + 1))) ++ [.int .u8 (n / 256 ^ j % 256 : Nat)])) (hg : (wr.alloc o).grownBy w2 v.ownBlock) (mv : Moved (wr.alloc o) v v') : HighRel B w w2 m n s j xs v' pd cd := by
  have t := h.top
  obtain ⟨a, b⟩ := apart_kept (World.ownsRow.alloc h.dig o) h.apart hg mv
  have bs : B ≤ wr.heap.size := Nat.le_trans hB h.low.size
  refine ⟨?_, a, b, (h.low.alloc bs o).grown hg (by simp; omega) (fun j hj => (World.ownsRow.lt h.own j hj).1), by omega⟩
  rw [dig_take n s j (by omega), show m + (s - j) = m + (s - (j + 1)) + 1 by omega, ← List.append_assoc, valsN_append]
  exact ho

set_option maxHeartbeats 3200000 in
theorem rlay4_any (w : World) (B : Nat) (v : Value) (m n s : Nat) (xs : List Nat) (hB : B ≤ w.heap.size) (ho : w.ownsRow B 5 1 v m (valsN .u8 xs)) (hn : n < 18446744073709551616) (h1 : 1 ≤ s) (h8 : s ≤ 8) (hm : m ≤ 1000) :
    Calls Try.prog 20 #[v, .int .u64 n, .int .i64 s] w fun e w' => ∃ v', e = .returned v' ∧ w'.ownsRow B 5 1 v' (m + s) (valsN .u8 (xs ++ digN n s)) ∧ Below B w w' := by
  obtain ⟨i0, hi, hz0, hz1, hz2⟩ := info_of info8
  have HB := Lib.hid hB
  have HO := Lib.hid ho
  have HN := Lib.hid hn
  have H8 := Lib.hid h8
  have HM := Lib.hid hm
  have s1 : (1 : Int) ≤ (s : Int) := by omega
  have s8 : (s : Int) ≤ 8 := by omega
  clear hB ho hn h1 h8 hm
  go_enter Try.func20, Try.ntmps20
  go_wp2_with fail
  go_loopw [1, 7, 8] (fun nn d i wr => ∃ (k q : Nat), i = .int .i64 k ∧ nn = .int .u64 q ∧ Hid (k ≤ s) ∧ Hid (q < 18446744073709551616) ∧ Hid (LowRel w wr n k q d)) (fun _ _ i _ => 100 - (intOf i).toNat)
  case atStart => exact ⟨0, n, rfl, rfl, Nat.zero_le _, HN.out, ⟨World.ownsRow_nil w _ _ 1, Below.refl _ _, by rw [Nat.pow_zero, Nat.div_one]⟩⟩
  case round =>
    obtain ⟨k, q, rfl, rfl, hk, hq, h⟩ := hrel
    by_cases g : k < s
    · have g' : (k : Int) < (s : Int) := by omega
      have G := Lib.hid g
      obtain ⟨x, hx⟩ : ∃ x, x = q % 256 := ⟨_, rfl⟩
      obtain ⟨r, hr⟩ : ∃ r, r = q / 256 := ⟨_, rfl⟩
      have e1 : (q : Int) % 256 = (x : Int) := by omega
      have e2 : IntKind.u8.wrap (x : Int) = (x : Int) := by rw [IntKind.wrap_u8]; omega
      have e3 : (q : Int) / 256 = (r : Int) := by omega
      have e4 : IntKind.u64.wrap (r : Int) = (r : Int) := by have := hq.out; rw [IntKind.wrap_u64]; omega
      have RB : Hid (r < 18446744073709551616) := by unfold Hid; have := hq.out; omega
      have BM : Hid (k + 1 ≤ maxLen) := by unfold Hid maxLen; have := H8.out; omega
      have BY : Hid ((k + 1) * 1 ≤ 140737488355328) := by unfold Hid; have := H8.out; omega
      have BS : Hid (w.heap.size ≤ (wr.alloc (.cells #[.int .u8 (x : Int)] 5)).heap.size) := by unfold Hid; simp; have := h.out.low.size; omega
      have O1 : Hid ((wr.alloc (.cells #[.int .u8 (x : Int)] 5)).ownsRow w.heap.size 5 1 u7 k (valsN .u8 (lowD n k))) := World.ownsRow.alloc h.out.own _
      have ST : Hid (∀ v' w2, w2.ownsRow w.heap.size 5 1 v' (k + 1) (valsN .u8 (lowD n k) ++ [.int .u8 (x : Int)]) → (wr.alloc (.cells #[.int .u8 (x : Int)] 5)).grownBy w2 u7.ownBlock → LowRel w w2 n (k + 1) r v') := fun v' w2 o g => by rw [hr]; rw [hx] at o; exact lowrel_step h.out o g
      have ON : Hid (Holds (wr.alloc (.cells #[.int .u8 (x : Int)] 5)) (some ⟨wr.heap.size, 0, none⟩) 1 1 [.int .u8 (x : Int)]) := blk_holds (cs := #[.int .u8 (x : Int)]) (heap_alloc_new _ _) rfl (by unfold maxLen; omega)
      clear hx hr g hk hq h
      go_wp2_with (at_builtin; refine append_more rfl _ _ 28 rfl w.heap.size 5 i0 (.int .u8 0) 1 Try.underlying28 hi hz0 hz1 hz2 rfl _ k _ rfl O1.out (some ⟨wr.heap.size, 0, none⟩) 1 1 [.int .u8 (x : Int)] rfl ON.out (one_int _ _) BM.out BY.out BS.out ?_)
      intro v' w2 o2 g2 _
      have NX := Lib.hid (ST.out v' w2 o2 g2)
      clear o2 g2
      go_wp2
      go_roundw
      case rel => exact ⟨k + 1, r, by go_num, by go_num, G.out, RB.out, NX⟩
      case measure => simp [intOf]; omega
    · have g' : (s : Int) ≤ (k : Int) := by omega
      have ks : k = s := by have := hk.out; omega
      subst ks
      obtain ⟨pd, cd, rfl, hd⟩ := own_holds h.out.own
      have ap : Apart v (.slice pd k cd) := by
        cases e : v.ownBlock with
        | none => cases e2 : (Value.slice pd k cd).ownBlock with
          | none => exact .inl e2
          | some _ => exact .inr (by rw [e, e2]; exact fun h => by cases h)
        | some g1 => cases e2 : (Value.slice pd k cd).ownBlock with
          | none => exact .inl e2
          | some g2 =>
            refine .inr fun e3 => ?_
            rw [e, e2] at e3
            injection e3 with e3
            have a := (World.ownsRow.lt HO.out g1 e).2
            have b := (World.ownsRow.lt h.out.own g2 e2).1
            omega
      have H0 : Hid (HighRel B w wr m n k k xs v pd cd) := by
        refine ⟨?_, own_base h.out.own HB.out, ap, h.out.low.mono HB.out, Nat.le_refl _⟩
        rw [Nat.sub_self, List.take_zero, List.append_nil]
        exact own_keep HO.out h.out.low
      clear g hk hq h hd ap
      go_wp2_with fail
      go_loopw [0, 9] (fun v i wr => ∃ (z : Int) (j : Nat), i = .int .i64 z ∧ Hid (z = (j : Int) - 1) ∧ Hid (HighRel B w wr m n k j xs v pd cd)) (fun _ i _ => (intOf i + 1).toNat)
      case atStart => exact ⟨_, k, rfl, rfl, H0.out⟩
      case round =>
        obtain ⟨z, j, rfl, hz, h⟩ := hrel
        rcases j with _ | j
        · obtain rfl : z = -1 := by rw [hz.out]; rfl
          have FIN : Hid (wr.ownsRow B 5 1 u0 (m + k) (valsN .u8 (xs ++ digN n k)) ∧ Below B w wr) := by
            have o := h.out.own
            rw [Nat.sub_zero, List.take_of_length_le (by rw [digN_len]; exact Nat.le_refl _)] at o
            exact ⟨o, h.out.low⟩
          clear hz h
          go_wp2
          go_ret
          exact ⟨_, rfl, FIN.out.1, FIN.out.2⟩
        · obtain rfl : z = (j : Int) := by rw [hz.out]; omega
          have jt : (j : Int) < (k : Int) := by have := h.out.top; omega
          obtain ⟨p', c', e', hd⟩ := own_holds h.out.dig
          obtain ⟨rfl, -, rfl⟩ : pd = p' ∧ k = k ∧ cd = c' := by injection e' with a b c; exact ⟨a, b, c⟩
          obtain ⟨a, rfl, ca⟩ := hd.atN (i := j) (by omega)
          rw [lowD_get n (by omega)] at ca
          obtain ⟨x, hx⟩ : ∃ x, x = n / 256 ^ j % 256 := ⟨_, rfl⟩
          rw [← hx] at ca
          have BM : Hid (m + (k - (j + 1)) + 1 ≤ maxLen) := by unfold Hid maxLen; have := H8.out; have := HM.out; omega
          have BY : Hid ((m + (k - (j + 1)) + 1) * 1 ≤ 140737488355328) := by unfold Hid; have := H8.out; have := HM.out; omega
          have BS : Hid (B ≤ (wr.alloc (.cells #[.int .u8 (x : Int)] 5)).heap.size) := by unfold Hid; simp; have := h.out.low.size; have := HB.out; omega
          have O1 : Hid ((wr.alloc (.cells #[.int .u8 (x : Int)] 5)).ownsRow B 5 1 u0 (m + (k - (j + 1))) (valsN .u8 (xs ++ (digN n k).take (k - (j + 1))))) := World.ownsRow.alloc h.out.own _
          have ST : Hid (∀ v' w2, w2.ownsRow B 5 1 v' (m + (k - (j + 1)) + 1) (valsN .u8 (xs ++ (digN n k).take (k - (j + 1))) ++ [.int .u8 (x : Int)]) → (wr.alloc (.cells #[.int .u8 (x : Int)] 5)).grownBy w2 u0.ownBlock → Moved (wr.alloc (.cells #[.int .u8 (x : Int)] 5)) u0 v' → HighRel B w w2 m n k j xs v' (some a) cd) := fun v' w2 o g mv => by
            rw [hx] at o
            exact highrel_step HB.out h.out o g mv
          have ON : Hid (Holds (wr.alloc (.cells #[.int .u8 (x : Int)] 5)) (some ⟨wr.heap.size, 0, none⟩) 1 1 [.int .u8 (x : Int)]) := blk_holds (cs := #[.int .u8 (x : Int)]) (heap_alloc_new _ _) rfl (by unfold maxLen; omega)
          clear hx hd hz h e'
          go_wp2_with (at_builtin; refine append_more rfl _ _ 28 rfl B 5 i0 (.int .u8 0) 1 Try.underlying28 hi hz0 hz1 hz2 rfl _ (m + (k - (j + 1))) _ rfl O1.out (some ⟨wr.heap.size, 0, none⟩) 1 1 [.int .u8 (x : Int)] rfl ON.out (one_int _ _) BM.out BY.out BS.out ?_)
          intro v' w2 o2 g2 m2
          have NX := Lib.hid (ST.out v' w2 o2 g2 m2)
          clear o2 g2 m2
          go_wp2
          go_roundw
          case rel => exact ⟨_, j, rfl, rfl, NX⟩
          case measure => simp [intOf]
end Go.Proofs.Ytjjbalgonkphjaa
