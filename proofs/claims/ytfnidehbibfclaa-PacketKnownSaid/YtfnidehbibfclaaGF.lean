/- Texts of earlier layers, laid together: XHeadG XHeadH XHeadI XHeadJ XHeadK XHeadL XHeadM XHeadN XHeadP XHeadQ. -/
import Derived.Test.YtfnidehbibfclaaGE
import Derived.Test.YtfnidehbibfclaaGA
import Derived.Test.YtfnidehbibfclaaGB
import Derived.Deep.RegionHeld3
import Derived.Deep.AppendLies
set_option maxRecDepth 100000
/- The document's own answers for layer 4 (head): a number laid behind bytes; a number read; a small number with a sign. -/
namespace Go.Proofs.Ytfnidehbibfclaa
open Go.ChangeShapes Go.WideShapes Go.ChangeAt Go.RowKit OctM

/-- a number's k lowest digits, the lowest one first. -/
def lowD (n : Nat) : Nat → List Nat
  | 0 => []
  | k + 1 => lowD n k ++ [n / 256 ^ k % 256]
theorem lowD_len (n k : Nat) : (lowD n k).length = k := by
  induction k with
  | zero => rfl
  | succ k ih => show (_ ++ [_]).length = _; rw [List.length_append, ih]; rfl
theorem lowD_get (n : Nat) {k i : Nat} (h : i < k) : (lowD n k).getD i 0 = n / 256 ^ i % 256 := by
  induction k with
  | zero => omega
  | succ k ih =>
    show (lowD n k ++ [n / 256 ^ k % 256]).getD i 0 = _
    rw [List.getD_eq_getElem?_getD]
    by_cases g : i < k
    · rw [List.getElem?_append_left (by rw [lowD_len]; exact g), ← List.getD_eq_getElem?_getD, ih g]
    · obtain rfl : i = k := by omega
      rw [List.getElem?_append_right (by rw [lowD_len]; omega), lowD_len, Nat.sub_self]
      rfl
theorem dig_take (n s j : Nat) (h : j < s) : (digN n s).take (s - j) = (digN n s).take (s - (j + 1)) ++ [n / 256 ^ j % 256] := by
  rw [show s - j = s - (j + 1) + 1 by omega, take_next (by rw [digN_len]; omega), dig_at _ _ _ (by omega), show s - 1 - (s - (j + 1)) = j by omega]

structure LowRel (w wr : World) (n k q : Nat) (d : Value) : Prop where
  own : wr.ownsRow w.heap.size 5 1 d k (valsN .u8 (lowD n k))
  low : Below w.heap.size w wr
  num : n / 256 ^ k = q
theorem lowrel_step {w wr w2 : World} {n k q : Nat} {d v' : Value} {o : Obj} (h : LowRel w wr n k q d) (ho : w2.ownsRow w.heap.size 5 1 v' (k + 1) (valsN .u8 (lowD n k) ++ [.int .u8 (q % 256 : Nat)])) (hg : (wr.alloc o).grownBy w2 d.ownBlock) : LowRel w w2 n (k + 1) (q / 256) v' := by
  refine ⟨?_, (h.low.alloc h.low.size o).grown hg (by simp; have := h.low.size; omega) (fun j hj => (World.ownsRow.lt h.own j hj).1), by rw [← h.num, div_step]⟩
  show w2.ownsRow _ _ _ _ _ (valsN .u8 (lowD n k ++ [n / 256 ^ k % 256]))
  rw [valsN_append, h.num]
  exact ho

/-- While the digits are laid, the highest one first: j are left. -/
structure HighRel (B : Nat) (w wr : World) (m n s j : Nat) (xs : List Nat) (v : Value) (pd : Option Addr) (cd : Nat) : Prop where
  own : wr.ownsRow B 5 1 v (m + (s - j)) (valsN .u8 (xs ++ (digN n s).take (s - j)))
  dig : wr.ownsRow B 5 1 (.slice pd s cd) s (valsN .u8 (lowD n s))
  apart : Apart v (.slice pd s cd)
  low : Below B w wr
  top : j ≤ s
theorem highrel_step {B : Nat} {w wr w2 : World} {m n s j : Nat} {xs : List Nat} {v v' : Value} {pd : Option Addr} {cd : Nat} {o : Obj} (hB : B ≤ w.heap.size) (h : HighRel B w wr m n s (j + 1) xs v pd cd)
    (ho : w2.ownsRow B 5 1 v' (m + (s - (j + 1)) + 1) (valsN .u8 (xs ++ (digN n s).take (s - (j + 1))) ++ [.int .u8 (n / 256 ^ j % 256 : Nat)])) (hg : (wr.alloc o).grownBy w2 v.ownBlock) (mv : Moved (wr.alloc o) v v') : HighRel B w w2 m n s j xs v' pd cd := by
  have t := h.top
  obtain ⟨a, b⟩ := apart_kept (World.ownsRow.alloc h.dig o) h.apart hg mv
  have bs : B ≤ wr.heap.size := Nat.le_trans hB h.low.size
  refine ⟨?_, a, b, (h.low.alloc bs o).grown hg (by simp; omega) (fun j hj => (World.ownsRow.lt h.own j hj).1), by omega⟩
  rw [dig_take n s j (by omega), show m + (s - j) = m + (s - (j + 1)) + 1 by omega, ← List.append_assoc, valsN_append]
  exact ho

set_option maxHeartbeats 3200000 in
theorem rlay4_any (w : World) (B : Nat) (v : Value) (m n s : Nat) (xs : List Nat) (hB : B ≤ w.heap.size) (ho : w.ownsRow B 5 1 v m (valsN .u8 xs)) (hn : n < 18446744073709551616) (h1 : 1 ≤ s) (h8 : s ≤ 8) (hm : m ≤ 1000) :
    Calls Try.prog 89 #[v, .int .u64 n, .int .i64 s] w fun e w' => ∃ v', e = .returned v' ∧ w'.ownsRow B 5 1 v' (m + s) (valsN .u8 (xs ++ digN n s)) ∧ Below B w w' := by
  obtain ⟨i0, hi, hz0, hz1, hz2⟩ := info_of info8
  have HB := Lib.hid hB
  have HO := Lib.hid ho
  have HN := Lib.hid hn
  have H8 := Lib.hid h8
  have HM := Lib.hid hm
  have s1 : (1 : Int) ≤ (s : Int) := by omega
  have s8 : (s : Int) ≤ 8 := by omega
  clear hB ho hn h1 h8 hm
  go_enter Try.func89, Try.ntmps89
  go_wp2_with fail
  go_loopw [1, 7, 8] (fun nn d i wr => ∃ (k q : Nat), i = .int .i64 k ∧ nn = .int .u64 q ∧ Hid (k ≤ s) ∧ Hid (q < 18446744073709551616) ∧ Hid (LowRel w wr n k q d)) (fun _ _ i _ => 100 - (intOf i).toNat)
  case atStart => exact ⟨0, n, rfl, rfl, Nat.zero_le _, HN.out, ⟨World.ownsRow_nil w _ _ 1, Below.refl _ _, by rw [Nat.pow_zero, Nat.div_one]⟩⟩
  case round =>
    obtain ⟨k, q, rfl, rfl, hk, hq, h⟩ := hrel
    by_cases g : k < s
    · have g' : (k : Int) < (s : Int) := by omega
      have G := Lib.hid g
      obtain ⟨x, hx⟩ : ∃ x, x = q % 256 := ⟨_, rfl⟩
      obtain ⟨r, hr⟩ : ∃ r, r = q / 256 := ⟨_, rfl⟩
      have e1 : (q : Int) % 256 = (x : Int) := by omega
      have e2 : IntKind.u8.wrap (x : Int) = (x : Int) := by rw [IntKind.wrap_u8]; omega
      have e3 : (q : Int) / 256 = (r : Int) := by omega
      have e4 : IntKind.u64.wrap (r : Int) = (r : Int) := by have := hq.out; rw [IntKind.wrap_u64]; omega
      have RB : Hid (r < 18446744073709551616) := by unfold Hid; have := hq.out; omega
      have BM : Hid (k + 1 ≤ maxLen) := by unfold Hid maxLen; have := H8.out; omega
      have BY : Hid ((k + 1) * 1 ≤ 140737488355328) := by unfold Hid; have := H8.out; omega
      have BS : Hid (w.heap.size ≤ (wr.alloc (.cells #[.int .u8 (x : Int)] 5)).heap.size) := by unfold Hid; simp; have := h.out.low.size; omega
      have O1 : Hid ((wr.alloc (.cells #[.int .u8 (x : Int)] 5)).ownsRow w.heap.size 5 1 u7 k (valsN .u8 (lowD n k))) := World.ownsRow.alloc h.out.own _
      have ST : Hid (∀ v' w2, w2.ownsRow w.heap.size 5 1 v' (k + 1) (valsN .u8 (lowD n k) ++ [.int .u8 (x : Int)]) → (wr.alloc (.cells #[.int .u8 (x : Int)] 5)).grownBy w2 u7.ownBlock → LowRel w w2 n (k + 1) r v') := fun v' w2 o g => by rw [hr]; rw [hx] at o; exact lowrel_step h.out o g
      have ON : Hid (Holds (wr.alloc (.cells #[.int .u8 (x : Int)] 5)) (some ⟨wr.heap.size, 0, none⟩) 1 1 [.int .u8 (x : Int)]) := blk_holds (cs := #[.int .u8 (x : Int)]) (heap_alloc_new _ _) rfl (by unfold maxLen; omega)
      clear hx hr g hk hq h
      go_wp2_with (at_builtin; refine append_more rfl _ _ 31 rfl w.heap.size 5 i0 (.int .u8 0) 1 Try.underlying31 hi hz0 hz1 hz2 rfl _ k _ rfl O1.out (some ⟨wr.heap.size, 0, none⟩) 1 1 [.int .u8 (x : Int)] rfl ON.out (one_int _ _) BM.out BY.out BS.out ?_)
      intro v' w2 o2 g2 _
      have NX := Lib.hid (ST.out v' w2 o2 g2)
      clear o2 g2
      go_wp2
      go_roundw
      case rel => exact ⟨k + 1, r, by go_num, by go_num, G.out, RB.out, NX⟩
      case measure => simp [intOf]; omega
    · have g' : (s : Int) ≤ (k : Int) := by omega
      have ks : k = s := by have := hk.out; omega
      subst ks
      obtain ⟨pd, cd, rfl, hd⟩ := own_holds h.out.own
      have ap : Apart v (.slice pd k cd) := by
        cases e : v.ownBlock with
        | none => cases e2 : (Value.slice pd k cd).ownBlock with
          | none => exact .inl e2
          | some _ => exact .inr (by rw [e, e2]; exact fun h => by cases h)
        | some g1 => cases e2 : (Value.slice pd k cd).ownBlock with
          | none => exact .inl e2
          | some g2 =>
            refine .inr fun e3 => ?_
            rw [e, e2] at e3
            injection e3 with e3
            have a := (World.ownsRow.lt HO.out g1 e).2
            have b := (World.ownsRow.lt h.out.own g2 e2).1
            omega
      have H0 : Hid (HighRel B w wr m n k k xs v pd cd) := by
        refine ⟨?_, own_base h.out.own HB.out, ap, h.out.low.mono HB.out, Nat.le_refl _⟩
        rw [Nat.sub_self, List.take_zero, List.append_nil]
        exact own_keep HO.out h.out.low
      clear g hk hq h hd ap
      go_wp2_with fail
      go_loopw [0, 9] (fun v i wr => ∃ (z : Int) (j : Nat), i = .int .i64 z ∧ Hid (z = (j : Int) - 1) ∧ Hid (HighRel B w wr m n k j xs v pd cd)) (fun _ i _ => (intOf i + 1).toNat)
      case atStart => exact ⟨_, k, rfl, rfl, H0.out⟩
      case round =>
        obtain ⟨z, j, rfl, hz, h⟩ := hrel
        rcases j with _ | j
        · obtain rfl : z = -1 := by rw [hz.out]; rfl
          have FIN : Hid (wr.ownsRow B 5 1 u0 (m + k) (valsN .u8 (xs ++ digN n k)) ∧ Below B w wr) := by
            have o := h.out.own
            rw [Nat.sub_zero, List.take_of_length_le (by rw [digN_len]; exact Nat.le_refl _)] at o
            exact ⟨o, h.out.low⟩
          clear hz h
          go_wp2
          go_ret
          exact ⟨_, rfl, FIN.out.1, FIN.out.2⟩
        · obtain rfl : z = (j : Int) := by rw [hz.out]; omega
          have jt : (j : Int) < (k : Int) := by have := h.out.top; omega
          obtain ⟨p', c', e', hd⟩ := own_holds h.out.dig
          obtain ⟨rfl, -, rfl⟩ : pd = p' ∧ k = k ∧ cd = c' := by injection e' with a b c; exact ⟨a, b, c⟩
          obtain ⟨a, rfl, ca⟩ := hd.atN (i := j) (by omega)
          rw [lowD_get n (by omega)] at ca
          obtain ⟨x, hx⟩ : ∃ x, x = n / 256 ^ j % 256 := ⟨_, rfl⟩
          rw [← hx] at ca
          have BM : Hid (m + (k - (j + 1)) + 1 ≤ maxLen) := by unfold Hid maxLen; have := H8.out; have := HM.out; omega
          have BY : Hid ((m + (k - (j + 1)) + 1) * 1 ≤ 140737488355328) := by unfold Hid; have := H8.out; have := HM.out; omega
          have BS : Hid (B ≤ (wr.alloc (.cells #[.int .u8 (x : Int)] 5)).heap.size) := by unfold Hid; simp; have := h.out.low.size; have := HB.out; omega
          have O1 : Hid ((wr.alloc (.cells #[.int .u8 (x : Int)] 5)).ownsRow B 5 1 u0 (m + (k - (j + 1))) (valsN .u8 (xs ++ (digN n k).take (k - (j + 1))))) := World.ownsRow.alloc h.out.own _
          have ST : Hid (∀ v' w2, w2.ownsRow B 5 1 v' (m + (k - (j + 1)) + 1) (valsN .u8 (xs ++ (digN n k).take (k - (j + 1))) ++ [.int .u8 (x : Int)]) → (wr.alloc (.cells #[.int .u8 (x : Int)] 5)).grownBy w2 u0.ownBlock → Moved (wr.alloc (.cells #[.int .u8 (x : Int)] 5)) u0 v' → HighRel B w w2 m n k j xs v' (some a) cd) := fun v' w2 o g mv => by
            rw [hx] at o
            exact highrel_step HB.out h.out o g mv
          have ON : Hid (Holds (wr.alloc (.cells #[.int .u8 (x : Int)] 5)) (some ⟨wr.heap.size, 0, none⟩) 1 1 [.int .u8 (x : Int)]) := blk_holds (cs := #[.int .u8 (x : Int)]) (heap_alloc_new _ _) rfl (by unfold maxLen; omega)
          clear hx hd hz h e'
          go_wp2_with (at_builtin; refine append_more rfl _ _ 31 rfl B 5 i0 (.int .u8 0) 1 Try.underlying31 hi hz0 hz1 hz2 rfl _ (m + (k - (j + 1))) _ rfl O1.out (some ⟨wr.heap.size, 0, none⟩) 1 1 [.int .u8 (x : Int)] rfl ON.out (one_int _ _) BM.out BY.out BS.out ?_)
          intro v' w2 o2 g2 m2
          have NX := Lib.hid (ST.out v' w2 o2 g2 m2)
          clear o2 g2 m2
          go_wp2
          go_roundw
          case rel => exact ⟨_, j, rfl, rfl, NX⟩
          case measure => simp [intOf]
end Go.Proofs.Ytfnidehbibfclaa
/- The document's own answers for layer 4 (head): a number read; a small number with a sign; a head's bytes. -/
namespace Go.Proofs.Ytfnidehbibfclaa
open Go.ChangeShapes Go.WideShapes Go.ChangeAt Go.RowKit OctM

theorem rsigned4_any (w : World) (z : Int) (hz : -128 ≤ z ∧ z ≤ 127) :
    Calls Try.prog 90 #[.int .i8 z] w fun e w' => e = .returned (.int .u64 (b8 z : Nat)) ∧ w = w' := by
  obtain ⟨z1, z2⟩ := hz
  obtain ⟨b, hb⟩ : ∃ b, b = b8 z := ⟨_, rfl⟩
  rw [← hb]
  have bl := b8_lt z
  rw [← hb] at bl
  by_cases g : z < 0
  · have e : 256 + z = (b : Int) := by rw [hb]; unfold b8; omega
    clear hb
    go_enter Try.func90, Try.ntmps90
    go_wp2
    go_ret
    exact ⟨ret_int rfl, rfl⟩
  · have e : z = (b : Int) := by rw [hb]; unfold b8; omega
    subst e
    clear hb
    have g' : (0 : Int) ≤ (b : Int) := by omega
    go_enter Try.func90, Try.ntmps90
    go_wp2
    go_ret
    exact ⟨ret_int rfl, rfl⟩

theorem rread4_any (w : World) (p : Option Addr) (n c at' s : Nat) (ds : List Nat) (hz : Holds w p n c (valsN .u8 ds)) (hb : Byt ds) (hs : s ≤ 8) (hat : at' + s ≤ n) (hn : n ≤ 140737488355328) (v : Nat) (hv : numN ((ds.drop at').take s) = v) :
    Calls Try.prog 81 #[.slice p n c, .int .i64 at', .int .i64 s] w fun e w' => e = .returned (.int .u64 v) ∧ w = w' := by
  have hl : ds.length = n := by have := hz.len; rwa [valsN_len] at this
  have dl : ((ds.drop at').take s).length = s := by rw [List.length_take, List.length_drop]; omega
  have dg : ∀ k, k < s → ((ds.drop at').take s).getD k 0 = ds.getD (at' + k) 0 := fun k hk => by
    rw [List.getD_eq_getElem?_getD, List.getElem?_take, if_pos hk, List.getElem?_drop, ← List.getD_eq_getElem?_getD]
  have hb2 := byt_take (byt_drop hb at') s
  obtain ⟨es, hes⟩ : ∃ es, es = (ds.drop at').take s := ⟨_, rfl⟩
  rw [← hes] at hv dl dg hb2
  have HZ := Lib.hid hz
  have HL := Lib.hid dl
  have HV := Lib.hid hv
  have HB := Lib.hid hb2
  have DG := Lib.hid dg
  have HA := Lib.hid hat
  have s8 : (s : Int) ≤ 8 := by omega
  have a8 : (at' : Int) ≤ 140737488355328 := by omega
  clear hz hl hv hb hb2 dl dg hes hat hs hn
  go_enter Try.func81, Try.ntmps81
  go_wp2_with fail
  go_loop [7, 8] (fun s' i => ∃ (k t : Nat), s' = .int .u64 t ∧ i = .int .i64 k ∧ k ≤ s ∧ numN (es.take k) = t) (fun _ i => s - (intOf i).toNat)
  case atStart => exact ⟨0, 0, rfl, rfl, Nat.zero_le _, rfl⟩
  case round =>
    obtain ⟨k, t, rfl, rfl, k1, st⟩ := hrel
    by_cases g : k < s
    · obtain ⟨ix, hix⟩ : ∃ ix, ix = at' + k := ⟨_, rfl⟩
      obtain ⟨a, rfl, hc⟩ := HZ.out.atN (i := ix) (by have := HA.out; omega)
      obtain ⟨z, ez⟩ : ∃ z, z = es.getD k 0 := ⟨_, rfl⟩
      rw [hix, ← DG.out k g, ← ez, ← hix] at hc
      have z1 : z < 256 := by rw [ez]; exact byt_get HB.out k
      have tb := numN_lt (byt_take HB.out k)
      rw [st, List.length_take, HL.out, Nat.min_eq_left k1] at tb
      have pb := Nat.pow_le_pow_right (n := 256) (by omega) (show k ≤ 7 by omega)
      have tb2 : t < 72057594037927936 := Nat.lt_of_lt_of_le tb pb
      obtain ⟨m, hm⟩ : ∃ m, m = t * 256 := ⟨_, rfl⟩
      obtain ⟨q, hq⟩ : ∃ q, q = m + z := ⟨_, rfl⟩
      have e0 : (at' : Int) + (k : Int) = (ix : Int) := by omega
      have e1 : IntKind.u64.wrap ((t : Int) * 256) = (m : Int) := by rw [IntKind.wrap_u64]; omega
      have e2 : IntKind.u64.wrap (z : Int) = (z : Int) := by rw [IntKind.wrap_u64]; omega
      have e3 : IntKind.u64.wrap ((m : Int) + (z : Int)) = (q : Int) := by rw [IntKind.wrap_u64]; omega
      have g' : (k : Int) < (s : Int) := by omega
      have gi : (ix : Int) < (n : Int) := by have := HA.out; omega
      have EQ : Hid (q = numN (es.take (k + 1))) := by unfold Hid; rw [take_next (by rw [HL.out]; exact g), ← ez, numN_snoc, st, hq, hm]
      have K8 : (k : Int) ≤ 8 := by omega
      have I8 : (ix : Int) ≤ 140737488355336 := by omega
      have G := Lib.hid g
      clear ez st k1 g tb pb tb2 hm hq z1 hix
      go_wp2
      go_round
      case rel => exact ⟨k + 1, q, rfl, by go_num, by have := G.out; omega, EQ.out.symm⟩
      case measure => simp [intOf]; have := G.out; omega
    · have g' : (s : Int) ≤ (k : Int) := by omega
      have fin : Hid (t = v) := by
        unfold Hid
        have e : es.take k = es := List.take_of_length_le (by rw [HL.out]; omega)
        rw [e] at st
        rw [← HV.out, ← st]
      clear g st k1
      go_wp2
      go_ret
      exact ⟨ret_int (by rw [fin.out]), rfl⟩
end Go.Proofs.Ytfnidehbibfclaa
/- The document's own answers for layer 4 (head): a head's bytes. (Written by wip/tools/genheadput.py.) -/
namespace Go.Proofs.Ytfnidehbibfclaa
open Go.ChangeShapes Go.WideShapes Go.ChangeAt Go.RowKit OctM

theorem pk_cell {w : World} {N : Nat} {h : Hd} {x : Xt} (hg : w.heap[N]? = some (.cells (pkC h x) 27 (0, 0))) (i : Nat) {v : Value} (hv : (pkC h x)[i]? = some v) : w.cell? ⟨N, i, none⟩ = some v := by rw [← hv]; exact blk_cell hg

attribute [local go_sem ↓] loadP_eq storeP_eq boxP_eq allocP_eq
theorem rput4_no (w : World) (h : Hd) (x : Xt) (hm : ¬ mayH h) :
    Calls Try.prog 60 #[pkV h x] w fun e w' => e = .returned (.tuple #[.slice none 0 0, .int .i64 1]) ∧ Below w.heap.size w w' := by
  have hm' := decide_eq_false hm
  have bx := box_pk h x
  have LD := load_pk (heap_alloc_new w (.cells (pkC h x) 27))
  clear hm
  go_enter Try.func60, Try.ntmps60
  go_wp2_with fail
  refine (rmay_any _ h x).mono ?_; rintro e w1 ⟨rfl, l⟩
  have FIN : Hid (Below w.heap.size w w1) := (((Out.refl w).alloc _ _).trans l).b
  clear l
  rw [hm']
  go_wp2
  go_ret2
  exact ⟨rfl, FIN.out⟩

set_option maxHeartbeats 8000000 in
theorem rput4_ok (w : World) (h : Hd) (x : Xt) (hw : h.wf) (hm : mayH h) :
    Calls Try.prog 60 #[pkV h x] w (RowPost w 48 (bytesH h)) := by
  have hm' := decide_eq_true hm
  have bx := box_pk h x
  have LD := load_pk (heap_alloc_new w (.cells (pkC h x) 27))
  obtain ⟨f, hf⟩ : ∃ f, f = first8 h := ⟨_, rfl⟩
  have BH : Hid (bytesH h = [] ++ digN f 1 ++ digN h.st 1 ++ digN (b8 h.po) 1 ++ digN (b8 h.pr) 1 ++ digN h.de 4 ++ digN h.di 4 ++ digN h.ri 4 ++ digN h.rf 8 ++ digN h.og 8 ++ digN h.rc 8 ++ digN h.xm 8) := by rw [hf]; rfl
  obtain ⟨D, hD⟩ : ∃ D, D = bytesH h := ⟨_, rfl⟩
  rw [← hD] at BH ⊢
  clear hD
  obtain ⟨C, hC⟩ : ∃ C, C = pkC h x := ⟨_, rfl⟩
  have PC : ∀ (i : Nat) (v : Value), (pkC h x)[i]? = some v → C[i]? = some v := fun i v hv => by rw [hC]; exact hv
  have p0 : C[0]? = some (.int .u8 (h.lp : Nat)) := PC 0 _ rfl
  have p1 : C[1]? = some (.int .u8 (h.ve : Nat)) := PC 1 _ rfl
  have p2 : C[2]? = some (.int .u8 (h.mo : Nat)) := PC 2 _ rfl
  have p3 : C[3]? = some (.int .u8 (h.st : Nat)) := PC 3 _ rfl
  have p4 : C[4]? = some (.int .i8 h.po) := PC 4 _ rfl
  have p5 : C[5]? = some (.int .i8 h.pr) := PC 5 _ rfl
  have p6 : C[6]? = some (.int .u32 (h.de : Nat)) := PC 6 _ rfl
  have p7 : C[7]? = some (.int .u32 (h.di : Nat)) := PC 7 _ rfl
  have p8 : C[8]? = some (.int .u32 (h.ri : Nat)) := PC 8 _ rfl
  have p9 : C[9]? = some (.int .u64 (h.rf : Nat)) := PC 9 _ rfl
  have p10 : C[10]? = some (.int .u64 (h.og : Nat)) := PC 10 _ rfl
  have p11 : C[11]? = some (.int .u64 (h.rc : Nat)) := PC 11 _ rfl
  have p12 : C[12]? = some (.int .u64 (h.xm : Nat)) := PC 12 _ rfl
  have MY := Lib.hid (fun w => rmay_any w h x)
  rw [← hC] at bx LD
  obtain ⟨V, hV⟩ : ∃ V, V = pkV h x := ⟨_, rfl⟩
  rw [← hV] at bx LD MY ⊢
  clear hC hV PC
  obtain ⟨lp, ve, mo, st, po, pr, de, di, ri, rf, og, rc, xm⟩ := h
  obtain ⟨h1, h2, h3, h4, h5, h6, h7, h8, h9, ha, hb, hc, hd⟩ := hw
  obtain ⟨m1, m2, m3, m4⟩ := hm
  unfold first8 at hf
  simp only at m1 m2 m3 m4 h4 h5 h6 h7 h8 h9 ha hb hc hd hf BH p0 p1 p2 p3 p4 p5 p6 p7 p8 p9 p10 p11 p12
  have fb : f < 256 := by omega
  have fe : (lp : Int) * 64 + (ve : Int) * 8 + (mo : Int) = (f : Int) := by omega
  have PO := Lib.hid h5
  have PR := Lib.hid h6
  clear hf h1 h2 h3 h5 h6
  go_enter Try.func60, Try.ntmps60
  go_wp2_with fail
  refine (MY.out _).mono ?_; rintro e w0 ⟨rfl, l⟩
  have B0 : Hid (w0.heap[w.heap.size]? = some (.cells C 27 (0, 0))) := (l.b.block _ (by simp)).trans (heap_alloc_new _ _)
  have W0 : Hid (Below w.heap.size w w0) := (((Out.refl w).alloc _ _).trans l).b
  have K : Hid (∀ (w' : World) (i : Nat) (v : Value), Below w0.heap.size w0 w' → C[i]? = some v → w'.cell? ⟨w.heap.size, i, none⟩ = some v) := fun w' i v g hv => by
    rw [← hv]; exact blk_cell ((g.block _ (Array.getElem?_eq_some_iff.1 B0.out).1).trans B0.out)
  clear l LD
  rw [hm']
  have O0 : Hid (w0.ownsRow w0.heap.size 5 1 (.slice none 0 0) 0 (valsN .u8 [])) := World.ownsRow_nil _ _ _ 1
  have c0 := K.out w0 0 _ (Below.refl _ _) p0
  have c1 := K.out w0 1 _ (Below.refl _ _) p1
  have c2 := K.out w0 2 _ (Below.refl _ _) p2
  go_wp2_with fail
  refine (rlay4_any _ w0.heap.size _ 0 f 1 ([]) (Nat.le_refl _) O0.out (by omega) (by omega) (by omega) (by omega)).mono ?_
  rintro e w1 ⟨v1, rfl, o1, l1⟩
  have O1 := Lib.hid o1
  have L1 : Hid (Below w0.heap.size w0 w1) := l1
  clear o1 l1
  clear c0 c1 c2 fe m1 m2 m3 m4
  have c3 := K.out w1 3 _ L1.out p3
  go_wp2_with fail
  refine (rlay4_any _ w0.heap.size _ 1 st 1 ([] ++ digN f 1) L1.out.size O1.out (by omega) (by omega) (by omega) (by omega)).mono ?_
  rintro e w2 ⟨v2, rfl, o2, l2⟩
  have O2 := Lib.hid o2
  have L2 : Hid (Below w0.heap.size w0 w2) := L1.out.trans l2
  clear o2 l2
  clear c3
  have c4 := K.out w2 4 _ L2.out p4
  go_wp2_with fail
  refine (rsigned4_any _ po PO.out).mono ?_; rintro e w' ⟨rfl, rfl⟩
  have q4 := b8_lt po
  go_wp2_with fail
  refine (rlay4_any _ w0.heap.size _ 2 (b8 po) 1 ([] ++ digN f 1 ++ digN st 1) L2.out.size O2.out (by omega) (by omega) (by omega) (by omega)).mono ?_
  rintro e w3 ⟨v3, rfl, o3, l3⟩
  have O3 := Lib.hid o3
  have L3 : Hid (Below w0.heap.size w0 w3) := L2.out.trans l3
  clear o3 l3
  clear c4
  have c5 := K.out w3 5 _ L3.out p5
  go_wp2_with fail
  refine (rsigned4_any _ pr PR.out).mono ?_; rintro e w' ⟨rfl, rfl⟩
  have q5 := b8_lt pr
  go_wp2_with fail
  refine (rlay4_any _ w0.heap.size _ 3 (b8 pr) 1 ([] ++ digN f 1 ++ digN st 1 ++ digN (b8 po) 1) L3.out.size O3.out (by omega) (by omega) (by omega) (by omega)).mono ?_
  rintro e w4 ⟨v4, rfl, o4, l4⟩
  have O4 := Lib.hid o4
  have L4 : Hid (Below w0.heap.size w0 w4) := L3.out.trans l4
  clear o4 l4
  clear c5
  have c6 := K.out w4 6 _ L4.out p6
  go_wp2_with fail
  refine (rlay4_any _ w0.heap.size _ 4 de 4 ([] ++ digN f 1 ++ digN st 1 ++ digN (b8 po) 1 ++ digN (b8 pr) 1) L4.out.size O4.out (by omega) (by omega) (by omega) (by omega)).mono ?_
  rintro e w5 ⟨v5, rfl, o5, l5⟩
  have O5 := Lib.hid o5
  have L5 : Hid (Below w0.heap.size w0 w5) := L4.out.trans l5
  clear o5 l5
  clear c6
  have c7 := K.out w5 7 _ L5.out p7
  go_wp2_with fail
  refine (rlay4_any _ w0.heap.size _ 8 di 4 ([] ++ digN f 1 ++ digN st 1 ++ digN (b8 po) 1 ++ digN (b8 pr) 1 ++ digN de 4) L5.out.size O5.out (by omega) (by omega) (by omega) (by omega)).mono ?_
  rintro e w6 ⟨v6, rfl, o6, l6⟩
  have O6 := Lib.hid o6
  have L6 : Hid (Below w0.heap.size w0 w6) := L5.out.trans l6
  clear o6 l6
  clear c7
  have c8 := K.out w6 8 _ L6.out p8
  go_wp2_with fail
  refine (rlay4_any _ w0.heap.size _ 12 ri 4 ([] ++ digN f 1 ++ digN st 1 ++ digN (b8 po) 1 ++ digN (b8 pr) 1 ++ digN de 4 ++ digN di 4) L6.out.size O6.out (by omega) (by omega) (by omega) (by omega)).mono ?_
  rintro e w7 ⟨v7, rfl, o7, l7⟩
  have O7 := Lib.hid o7
  have L7 : Hid (Below w0.heap.size w0 w7) := L6.out.trans l7
  clear o7 l7
  clear c8
  have c9 := K.out w7 9 _ L7.out p9
  go_wp2_with fail
  refine (rlay4_any _ w0.heap.size _ 16 rf 8 ([] ++ digN f 1 ++ digN st 1 ++ digN (b8 po) 1 ++ digN (b8 pr) 1 ++ digN de 4 ++ digN di 4 ++ digN ri 4) L7.out.size O7.out (by omega) (by omega) (by omega) (by omega)).mono ?_
  rintro e w8 ⟨v8, rfl, o8, l8⟩
  have O8 := Lib.hid o8
  have L8 : Hid (Below w0.heap.size w0 w8) := L7.out.trans l8
  clear o8 l8
  clear c9
  have c10 := K.out w8 10 _ L8.out p10
  go_wp2_with fail
  refine (rlay4_any _ w0.heap.size _ 24 og 8 ([] ++ digN f 1 ++ digN st 1 ++ digN (b8 po) 1 ++ digN (b8 pr) 1 ++ digN de 4 ++ digN di 4 ++ digN ri 4 ++ digN rf 8) L8.out.size O8.out (by omega) (by omega) (by omega) (by omega)).mono ?_
  rintro e w9 ⟨v9, rfl, o9, l9⟩
  have O9 := Lib.hid o9
  have L9 : Hid (Below w0.heap.size w0 w9) := L8.out.trans l9
  clear o9 l9
  clear c10
  have c11 := K.out w9 11 _ L9.out p11
  go_wp2_with fail
  refine (rlay4_any _ w0.heap.size _ 32 rc 8 ([] ++ digN f 1 ++ digN st 1 ++ digN (b8 po) 1 ++ digN (b8 pr) 1 ++ digN de 4 ++ digN di 4 ++ digN ri 4 ++ digN rf 8 ++ digN og 8) L9.out.size O9.out (by omega) (by omega) (by omega) (by omega)).mono ?_
  rintro e w10 ⟨v10, rfl, o10, l10⟩
  have O10 := Lib.hid o10
  have L10 : Hid (Below w0.heap.size w0 w10) := L9.out.trans l10
  clear o10 l10
  clear c11
  have c12 := K.out w10 12 _ L10.out p12
  go_wp2_with fail
  refine (rlay4_any _ w0.heap.size _ 40 xm 8 ([] ++ digN f 1 ++ digN st 1 ++ digN (b8 po) 1 ++ digN (b8 pr) 1 ++ digN de 4 ++ digN di 4 ++ digN ri 4 ++ digN rf 8 ++ digN og 8 ++ digN rc 8) L10.out.size O10.out (by omega) (by omega) (by omega) (by omega)).mono ?_
  rintro e w11 ⟨v11, rfl, o11, l11⟩
  have O11 := Lib.hid o11
  have L11 : Hid (Below w0.heap.size w0 w11) := L10.out.trans l11
  clear o11 l11
  clear c12
  have FIN : Hid (RowPost w 48 D (.returned (.tuple #[v11, .int .i64 0])) w11) := by
    refine ⟨v11, rfl, ?_, W0.out.trans (L11.out.mono W0.out.size)⟩
    rw [BH.out]
    exact own_base O11.out W0.out.size
  go_wp2
  go_ret2
  exact FIN.out

/-- Put, whatever the head. -/
theorem rput4_any (w : World) (h : Hd) (x : Xt) (hw : h.wf) :
    Calls Try.prog 60 #[pkV h x] w (RowR w (if mayH h then bytesH h else []) (if mayH h then 0 else 1)) := by
  by_cases hm : mayH h
  · rw [if_pos hm, if_pos hm]
    exact (rput4_ok w h x hw hm).mono fun e w' k => rowR_row (by unfold bytesH; rw [layT_at _ sizesH_ok (by decide), sizesH_at]) k
  · rw [if_neg hm, if_neg hm]
    exact (rput4_no w h x hm).mono fun e w' k => rowR_nil k
end Go.Proofs.Ytfnidehbibfclaa
/- Layer 4 (head): a head's bytes tell the head. No program. -/
namespace Go.Proofs.Ytfnidehbibfclaa
open Go.ChangeShapes Go.WideShapes Go.ChangeAt Go.RowKit OctM

theorem b8_s8 (z : Int) (h : -128 ≤ z ∧ z ≤ 127) : s8 (b8 z) = z := by unfold s8 b8; split <;> omega
theorem s8_b8 (n : Nat) (h : n < 256) : b8 (s8 n) = n := by unfold s8 b8; split <;> omega
theorem s8_in (n : Nat) (h : n < 256) : -128 ≤ s8 n ∧ s8 n ≤ 127 := by unfold s8; split <;> omega
theorem bytesH_len (h : Hd) : (bytesH h).length = 48 := by unfold bytesH; rw [layT_at _ sizesH_ok (by decide), sizesH_at]
theorem bytesH_byt (h : Hd) : Byt (bytesH h) := layT_byt _ _ _
/-- the numbers of a head's bytes. -/
theorem take_bytes (h : Hd) (hw : h.wf) (hm : mayH h) (bh : List Nat) : takT sizesH (bytesH h ++ bh) 11 = numsH h := by
  unfold bytesH
  rw [take_lay (numsH h) bh sizesH_ok (N := 11) (by decide) rfl (numsH_fit h hw hm) 11 (Nat.le_refl _)]
  rfl
/-- the head of a head's bytes. -/
theorem hdP_bytes (h : Hd) (hw : h.wf) (hm : mayH h) (bh : List Nat) : hdP (bytesH h ++ bh) = h := by
  have e := take_bytes h hw hm bh
  unfold hdP numP
  rw [e]
  obtain ⟨h1, h2, h3, h4, h5, h6, h7, h8, h9, ha, hb, hc, hd⟩ := hw
  obtain ⟨m1, m2, m3, m4⟩ := hm
  obtain ⟨lp, ve, mo, st, po, pr, de, di, ri, rf, og, rc, xm⟩ := h
  simp only at m1 m2 m3 m4 h5 h6
  simp only [numsH, hdOf, first8, List.getD_cons_zero, List.getD_cons_succ]
  rw [b8_s8 _ h5, b8_s8 _ h6]
  congr 1 <;> omega
theorem bytesH_inj {h g : Hd} (hw : h.wf) (gw : g.wf) (hm : mayH h) (gm : mayH g) (e : bytesH h = bytesH g) : h = g := by
  have a := hdP_bytes h hw hm []
  rw [e, hdP_bytes g gw gm []] at a
  exact a.symm
/-- a head out of bytes: it fits, and its bytes are these. -/
theorem hdOf_wf {f s a b de di ri rf og rc xm : Nat} (b0 : f < 256) (b1 : s < 256) (b2 : a < 256) (b3 : b < 256) (b4 : de < 4294967296) (b5 : di < 4294967296) (b6 : ri < 4294967296) (b7 : rf < 18446744073709551616) (b8' : og < 18446744073709551616) (b9 : rc < 18446744073709551616) (b10 : xm < 18446744073709551616) : (hdOf f s a b de di ri rf og rc xm).wf :=
  ⟨show f / 64 < 256 by omega, show f / 8 % 8 < 256 by omega, show f % 8 < 256 by omega, b1, s8_in _ b2, s8_in _ b3, b4, b5, b6, b7, b8', b9, b10⟩
theorem numP_b {ds : List Nat} (hy : Byt ds) (i s : Nat) (hi : i < 11) (hs : (sizesH.getD i 0).toNat = s) (B : Nat) (hB : 256 ^ s = B) : numP ds i < B := by rw [← hB, ← hs]; exact numP_lt hy i hi
theorem hdP_wf {ds : List Nat} (hy : Byt ds) : (hdP ds).wf :=
  hdOf_wf (numP_b hy 0 1 (by decide) rfl _ (by decide)) (numP_b hy 1 1 (by decide) rfl _ (by decide)) (numP_b hy 2 1 (by decide) rfl _ (by decide)) (numP_b hy 3 1 (by decide) rfl _ (by decide))
    (numP_b hy 4 4 (by decide) rfl _ (by decide)) (numP_b hy 5 4 (by decide) rfl _ (by decide)) (numP_b hy 6 4 (by decide) rfl _ (by decide)) (numP_b hy 7 8 (by decide) rfl _ (by decide)) (numP_b hy 8 8 (by decide) rfl _ (by decide)) (numP_b hy 9 8 (by decide) rfl _ (by decide)) (numP_b hy 10 8 (by decide) rfl _ (by decide))
theorem numsH_hdP {ds : List Nat} (hy : Byt ds) : numsH (hdP ds) = takT sizesH ds 11 := by
  have b0 : numP ds 0 < 256 := numP_lt hy 0 (by omega)
  have b2 : numP ds 2 < 256 := numP_lt hy 2 (by omega)
  have b3 : numP ds 3 < 256 := numP_lt hy 3 (by omega)
  rw [numP_list]
  unfold hdP hdOf numsH first8
  simp only
  rw [s8_b8 _ b2, s8_b8 _ b3]
  congr 1
  omega
theorem bytesH_hdP {ds : List Nat} (hy : Byt ds) (h48 : 48 ≤ ds.length) : bytesH (hdP ds) = ds.take 48 := by
  unfold bytesH
  rw [numsH_hdP hy, lay_take sizesH_ok hy (N := 11) (by decide) (by rw [sizesH_at]; exact h48) 11 (Nat.le_refl _), sizesH_at]
/-- whether a head out of bytes may be: its version alone tells. -/
theorem may_hdP {ds : List Nat} (hy : Byt ds) : mayH (hdP ds) ↔ 1 ≤ numP ds 0 / 8 % 8 ∧ numP ds 0 / 8 % 8 ≤ 4 := by
  have b0 : numP ds 0 < 256 := numP_lt hy 0 (by omega)
  unfold mayH hdP hdOf
  simp only
  omega
theorem numP_place (ds : List Nat) (i at' s : Nat) (hi : i < 11) (ha : atT sizesH i = at') (hs : (sizesH.getD i 0).toNat = s) : numP ds i = numN ((ds.drop at').take s) := by
  unfold numP
  rw [takT_getD sizesH ds hi, ha, hs]
theorem numN_one (ds : List Nat) (i : Nat) (h : i < ds.length) : numN ((ds.drop i).take 1) = ds.getD i 0 := by
  rw [take_next (by rw [List.length_drop]; omega), List.take_zero, List.nil_append, List.getD_eq_getElem?_getD, List.getElem?_drop, Nat.add_zero, List.getD_eq_getElem?_getD]
  show 0 * 256 + _ = _
  omega
end Go.Proofs.Ytfnidehbibfclaa
/- The document's own answers for layer 4 (head): Parse. -/
namespace Go.Proofs.Ytfnidehbibfclaa
open Go.ChangeShapes Go.WideShapes Go.ChangeAt Go.RowKit OctM

/-- What the walk asks of the 48 bytes. -/
structure HeadIn (w : World) (ad : Addr) (n c : Nat) (ds : List Nat) (z0 z1 z2 z3 q3 q6 ve m7 : Nat) (sa sb : Int) (x4 x5 x6 x7 x8 x9 x10 : Nat) : Prop where
  hd : ∀ X Y : Obj, Holds ((w.alloc X).alloc Y) (some ad) n c (valsN .u8 ds)
  hy : Byt ds
  h48 : 48 ≤ n
  hn : n ≤ 10000
  b0 : z0 < 256
  b1 : z1 < 256
  e3 : q3 = z0 / 8
  e6 : q6 = z0 / 64
  ev : ve = q3 % 8
  e7 : m7 = z0 % 8
  ea : IntKind.i8.wrap (z2 : Int) = sa
  eb : IntKind.i8.wrap (z3 : Int) = sb
  r4 : numN ((ds.drop 4).take 4) = x4
  r5 : numN ((ds.drop 8).take 4) = x5
  r6 : numN ((ds.drop 12).take 4) = x6
  r7 : numN ((ds.drop 16).take 8) = x7
  r8 : numN ((ds.drop 24).take 8) = x8
  r9 : numN ((ds.drop 32).take 8) = x9
  r10 : numN ((ds.drop 40).take 8) = x10
  c4 : x4 < 4294967296
  c5 : x5 < 4294967296
  c6 : x6 < 4294967296
  d0 : ∀ X Y : Obj, ((w.alloc X).alloc Y).cell? ad = some (.int .u8 (z0 : Nat))
  d1 : ∀ X Y : Obj, ((w.alloc X).alloc Y).cell? ⟨ad.block, ad.off + 1, none⟩ = some (.int .u8 (z1 : Nat))
  d2 : ∀ X Y : Obj, ((w.alloc X).alloc Y).cell? ⟨ad.block, ad.off + 2, none⟩ = some (.int .u8 (z2 : Nat))
  d3 : ∀ X Y : Obj, ((w.alloc X).alloc Y).cell? ⟨ad.block, ad.off + 3, none⟩ = some (.int .u8 (z3 : Nat))
  eh : hdP ds = ⟨q6, ve, m7, z1, sa, sb, x4, x5, x6, x7, x8, x9, x10⟩

theorem headIn {w : World} {p : Option Addr} {n c : Nat} {ds : List Nat} (hd : Holds w p n c (valsN .u8 ds)) (hy : Byt ds) (h48 : 48 ≤ n) (hn : n ≤ 10000) :
    ∃ ad z0 z1 z2 z3 q3 q6 ve m7 sa sb x4 x5 x6 x7 x8 x9 x10, p = some ad ∧ HeadIn w ad n c ds z0 z1 z2 z3 q3 q6 ve m7 sa sb x4 x5 x6 x7 x8 x9 x10 := by
  obtain ⟨ad, rfl, -⟩ := hd.atN (i := 0) (by omega)
  have l : ds.length = n := by have := hd.len; rwa [valsN_len] at this
  have bl : ∀ X Y : Obj, Below w.heap.size w ((w.alloc X).alloc Y) := fun X Y => ((Below.refl _ _).alloc (Nat.le_refl _) _).alloc (by simp) _
  have ce : ∀ i (hi : i < 48), ∀ X Y : Obj, ((w.alloc X).alloc Y).cell? (ad.add i) = some (.int .u8 (ds.getD i 0 : Nat)) := fun i hi X Y => by
    obtain ⟨a', e, h⟩ := (hd.below (bl X Y)).atN (i := i) (by omega)
    cases e
    exact h
  have one : ∀ i (hi : i < 4), numP ds i = ds.getD i 0 := fun i hi => by
    have : i = 0 ∨ i = 1 ∨ i = 2 ∨ i = 3 := by omega
    rcases this with rfl | rfl | rfl | rfl
    · rw [numP_place ds 0 0 1 (by decide) (by decide +kernel) rfl, numN_one ds 0 (by omega)]
    · rw [numP_place ds 1 1 1 (by decide) (by decide +kernel) rfl, numN_one ds 1 (by omega)]
    · rw [numP_place ds 2 2 1 (by decide) (by decide +kernel) rfl, numN_one ds 2 (by omega)]
    · rw [numP_place ds 3 3 1 (by decide) (by decide +kernel) rfl, numN_one ds 3 (by omega)]
  refine ⟨ad, numP ds 0, numP ds 1, numP ds 2, numP ds 3, _, _, _, _, s8 (numP ds 2), s8 (numP ds 3), numP ds 4, numP ds 5, numP ds 6, numP ds 7, numP ds 8, numP ds 9, numP ds 10, rfl,
    fun X Y => hd.below (bl X Y), hy, h48, hn, numP_b hy 0 1 (by decide) rfl _ (by decide), numP_b hy 1 1 (by decide) rfl _ (by decide), rfl, rfl, rfl, rfl, s8_wrap _ (numP_b hy 2 1 (by decide) rfl _ (by decide)), s8_wrap _ (numP_b hy 3 1 (by decide) rfl _ (by decide)),
    (numP_place ds 4 4 4 (by decide) (by decide +kernel) rfl).symm, (numP_place ds 5 8 4 (by decide) (by decide +kernel) rfl).symm, (numP_place ds 6 12 4 (by decide) (by decide +kernel) rfl).symm,
    (numP_place ds 7 16 8 (by decide) (by decide +kernel) rfl).symm, (numP_place ds 8 24 8 (by decide) (by decide +kernel) rfl).symm, (numP_place ds 9 32 8 (by decide) (by decide +kernel) rfl).symm, (numP_place ds 10 40 8 (by decide) (by decide +kernel) rfl).symm,
    numP_b hy 4 4 (by decide) rfl _ (by decide), numP_b hy 5 4 (by decide) rfl _ (by decide), numP_b hy 6 4 (by decide) rfl _ (by decide), ?_, ?_, ?_, ?_, rfl⟩
  · intro X Y; rw [one 0 (by omega)]; exact ce 0 (by omega) X Y
  · intro X Y; rw [one 1 (by omega)]; exact ce 1 (by omega) X Y
  · intro X Y; rw [one 2 (by omega)]; exact ce 2 (by omega) X Y
  · intro X Y; rw [one 3 (by omega)]; exact ce 3 (by omega) X Y

attribute [local go_sem ↓] loadP_eq storeP_eq allocP_eq
theorem rparse4_short (w : World) (p : Option Addr) (n c : Nat) (h : n < 48) :
    Calls Try.prog 51 #[.slice p n c] w (TellPost w (.returned (.tuple #[pkV Hd.zero Xt.zero, .slice none 0 0, .int .i64 4]))) := by
  have al := alloc_pk
  have B0 : ((w.alloc (.cells (pkC Hd.zero Xt.zero) 27)).alloc (.cells (pkC Hd.zero Xt.zero) 27)).heap[w.heap.size]? = some (.cells (pkC Hd.zero Xt.zero) 27 (0, 0)) := heap_alloc2_old _ _ _
  have B1 : ((w.alloc (.cells (pkC Hd.zero Xt.zero) 27)).alloc (.cells (pkC Hd.zero Xt.zero) 27)).heap[w.heap.size + 1]? = some (.cells (pkC Hd.zero Xt.zero) 27 (0, 0)) := heap_alloc2_new _ _ _
  have LD := load_pk B1
  have SS := store_same B0
  replace B0 := Lib.hid B0
  clear B1
  have h' : (n : Int) < 48 := by omega
  clear h
  go_enter Try.func51, Try.ntmps51
  go_wp2
  (try simp only [Exit.inBlock, Exit.then])
  refine bodyPost_ret (results_pk3 rfl _ _ w.heap.size Hd.zero Xt.zero rfl B0.out) rfl ?_
  exact ⟨rfl, ((Below.refl _ _).alloc (Nat.le_refl _) _).alloc (by simp) _⟩

set_option maxHeartbeats 4000000 in
theorem rparse4_form (w : World) (ad : Addr) (n c : Nat) (ds : List Nat) (z0 z1 z2 z3 q3 q6 ve m7 : Nat) (sa sb : Int) (x4 x5 x6 x7 x8 x9 x10 : Nat) (I : HeadIn w ad n c ds z0 z1 z2 z3 q3 q6 ve m7 sa sb x4 x5 x6 x7 x8 x9 x10) (hm : ve = 0 ∨ 4 < ve) :
    Calls Try.prog 51 #[.slice (some ad) n c] w (TellPost w (.returned (.tuple #[pkV Hd.zero Xt.zero, .slice none 0 0, .int .i64 5]))) := by
  have al := alloc_pk
  have B0 : ((w.alloc (.cells (pkC Hd.zero Xt.zero) 27)).alloc (.cells (pkC Hd.zero Xt.zero) 27)).heap[w.heap.size]? = some (.cells (pkC Hd.zero Xt.zero) 27 (0, 0)) := heap_alloc2_old _ _ _
  have B1 : ((w.alloc (.cells (pkC Hd.zero Xt.zero) 27)).alloc (.cells (pkC Hd.zero Xt.zero) 27)).heap[w.heap.size + 1]? = some (.cells (pkC Hd.zero Xt.zero) 27 (0, 0)) := heap_alloc2_new _ _ _
  have LD := load_pk B1
  have SS := store_same B0
  replace B0 := Lib.hid B0
  clear B1
  have h' : (48 : Int) ≤ (n : Int) := by have := I.h48; omega
  have d0 := I.d0
  have b0 := I.b0
  have e3 : (z0 : Int) / 8 = (q3 : Int) := by have := I.e3; omega
  have ev : (q3 : Int) % 8 = (ve : Int) := by have := I.ev; omega
  have q3b : q3 < 32 := by have := I.e3; omega
  have veb : ve < 8 := by have := I.ev; omega
  clear I
  rcases hm with rfl | hm
  · go_enter Try.func51, Try.ntmps51
    go_wp2
    (try simp only [Exit.inBlock, Exit.then])
    refine bodyPost_ret (results_pk3 rfl _ _ w.heap.size Hd.zero Xt.zero rfl B0.out) rfl ?_
    exact ⟨rfl, ((Below.refl _ _).alloc (Nat.le_refl _) _).alloc (by simp) _⟩
  · have v4 : (4 : Int) < (ve : Int) := by omega
    have v0 : ((ve : Int) == 0) = false := by rw [beq_eq_false_iff_ne]; omega
    clear hm
    go_enter Try.func51, Try.ntmps51
    go_wp2
    (try simp only [Exit.inBlock, Exit.then])
    refine bodyPost_ret (results_pk3 rfl _ _ w.heap.size Hd.zero Xt.zero rfl B0.out) rfl ?_
    exact ⟨rfl, ((Below.refl _ _).alloc (Nat.le_refl _) _).alloc (by simp) _⟩
end Go.Proofs.Ytfnidehbibfclaa
/- The document's own answers for layer 4 (head): Parse of bytes that have a head. -/
namespace Go.Proofs.Ytfnidehbibfclaa
open Go.ChangeShapes Go.WideShapes Go.ChangeAt Go.RowKit OctM

attribute [local go_sem ↓] loadP_eq storeP_eq
set_option maxHeartbeats 8000000 in
theorem rparse4_ok (w : World) (ad : Addr) (n c : Nat) (ds : List Nat) (z0 z1 z2 z3 q3 q6 ve m7 : Nat) (sa sb : Int) (x4 x5 x6 x7 x8 x9 x10 : Nat) (I : HeadIn w ad n c ds z0 z1 z2 z3 q3 q6 ve m7 sa sb x4 x5 x6 x7 x8 x9 x10) (hm : 1 ≤ ve ∧ ve ≤ 4) :
    Calls Try.prog 51 #[.slice (some ad) n c] w (ParsePost w n ds) := by
  have II := Lib.hid I
  have h' : (48 : Int) ≤ (n : Int) := by have := I.h48; omega
  have d0 := I.d0
  have d1 := I.d1
  have d2 := I.d2
  have d3 := I.d3
  have b0 := I.b0
  have b1 := I.b1
  have c4 := I.c4
  have c5 := I.c5
  have c6 := I.c6
  have ea := I.ea
  have eb := I.eb
  have e3 : (z0 : Int) / 8 = (q3 : Int) := by have := I.e3; omega
  have e6 : (z0 : Int) / 64 = (q6 : Int) := by have := I.e6; omega
  have e7 : (z0 : Int) % 8 = (m7 : Int) := by have := I.e7; omega
  have ev : (q3 : Int) % 8 = (ve : Int) := by have := I.ev; omega
  have q3b : q3 < 32 := by have := I.e3; omega
  have q6b : q6 < 4 := by have := I.e6; omega
  have m7b : m7 < 8 := by have := I.e7; omega
  have v4 : (ve : Int) ≤ 4 := by omega
  have v0 : ((ve : Int) == 0) = false := by rw [beq_eq_false_iff_ne]; omega
  have v1 : (1 : Int) ≤ (ve : Int) := by omega
  have cn : (n : Int) ≤ (c : Int) := by have := (I.hd default default).cap; omega
  clear I hm
  go_enter Try.func51, Try.ntmps51
  go_wp2_with fail
  refine (rread4_any _ _ n c 4 4 ds (II.out.hd _ _) II.out.hy (by omega) (by have := II.out.h48; omega) (by have := II.out.hn; omega) x4 II.out.r4).mono ?_; rintro e w' ⟨rfl, rfl⟩
  go_wp2_with fail
  refine (rread4_any _ _ n c 8 4 ds (II.out.hd _ _) II.out.hy (by omega) (by have := II.out.h48; omega) (by have := II.out.hn; omega) x5 II.out.r5).mono ?_; rintro e w' ⟨rfl, rfl⟩
  go_wp2_with fail
  refine (rread4_any _ _ n c 12 4 ds (II.out.hd _ _) II.out.hy (by omega) (by have := II.out.h48; omega) (by have := II.out.hn; omega) x6 II.out.r6).mono ?_; rintro e w' ⟨rfl, rfl⟩
  go_wp2_with fail
  refine (rread4_any _ _ n c 16 8 ds (II.out.hd _ _) II.out.hy (by omega) (by have := II.out.h48; omega) (by have := II.out.hn; omega) x7 II.out.r7).mono ?_; rintro e w' ⟨rfl, rfl⟩
  go_wp2_with fail
  refine (rread4_any _ _ n c 24 8 ds (II.out.hd _ _) II.out.hy (by omega) (by have := II.out.h48; omega) (by have := II.out.hn; omega) x8 II.out.r8).mono ?_; rintro e w' ⟨rfl, rfl⟩
  go_wp2_with fail
  refine (rread4_any _ _ n c 32 8 ds (II.out.hd _ _) II.out.hy (by omega) (by have := II.out.h48; omega) (by have := II.out.hn; omega) x9 II.out.r9).mono ?_; rintro e w' ⟨rfl, rfl⟩
  go_wp2_with fail
  refine (rread4_any _ _ n c 40 8 ds (II.out.hd _ _) II.out.hy (by omega) (by have := II.out.h48; omega) (by have := II.out.hn; omega) x10 II.out.r10).mono ?_; rintro e w' ⟨rfl, rfl⟩
  go_wp2_with fail
  have HA : Hid (((w.alloc (.cells #[.int .u8 0, .int .u8 0, .int .u8 0, .int .u8 0, .int .i8 0, .int .i8 0, .int .u32 0, .int .u32 0, .int .u32 0, .int .u64 0, .int .u64 0, .int .u64 0, .int .u64 0, .slice none 0 0, .bool false, .int .u32 0, .int .u64 0] 27)).alloc (.cells #[.int .u8 (q6 : Int), .int .u8 (ve : Int), .int .u8 (m7 : Int), .int .u8 (z1 : Int), .int .i8 sa, .int .i8 sb, .int .u32 (x4 : Int), .int .u32 (x5 : Int), .int .u32 (x6 : Int), .int .u64 (x7 : Int), .int .u64 (x8 : Int), .int .u64 (x9 : Int), .int .u64 (x10 : Int), .slice none 0 0, .bool false, .int .u32 0, .int .u64 0] 27)).heap[w.heap.size]? = some (.cells (pkC Hd.zero Xt.zero) 27 (0, 0))) := heap_alloc2_old _ _ _
  have HP : Hid (((w.alloc (.cells #[.int .u8 0, .int .u8 0, .int .u8 0, .int .u8 0, .int .i8 0, .int .i8 0, .int .u32 0, .int .u32 0, .int .u32 0, .int .u64 0, .int .u64 0, .int .u64 0, .int .u64 0, .slice none 0 0, .bool false, .int .u32 0, .int .u64 0] 27)).alloc (.cells #[.int .u8 (q6 : Int), .int .u8 (ve : Int), .int .u8 (m7 : Int), .int .u8 (z1 : Int), .int .i8 sa, .int .i8 sb, .int .u32 (x4 : Int), .int .u32 (x5 : Int), .int .u32 (x6 : Int), .int .u64 (x7 : Int), .int .u64 (x8 : Int), .int .u64 (x9 : Int), .int .u64 (x10 : Int), .slice none 0 0, .bool false, .int .u32 0, .int .u64 0] 27)).heap[w.heap.size + 1]? = some (.cells (pkC (hdP ds) Xt.zero) 27 (0, 0))) := by rw [II.out.eh]; exact heap_alloc2_new _ _ _
  have LW : Hid (Below w.heap.size w ((w.alloc (.cells #[.int .u8 0, .int .u8 0, .int .u8 0, .int .u8 0, .int .i8 0, .int .i8 0, .int .u32 0, .int .u32 0, .int .u32 0, .int .u64 0, .int .u64 0, .int .u64 0, .int .u64 0, .slice none 0 0, .bool false, .int .u32 0, .int .u64 0] 27)).alloc (.cells #[.int .u8 (q6 : Int), .int .u8 (ve : Int), .int .u8 (m7 : Int), .int .u8 (z1 : Int), .int .i8 sa, .int .i8 sb, .int .u32 (x4 : Int), .int .u32 (x5 : Int), .int .u32 (x6 : Int), .int .u64 (x7 : Int), .int .u64 (x8 : Int), .int .u64 (x9 : Int), .int .u64 (x10 : Int), .slice none 0 0, .bool false, .int .u32 0, .int .u64 0] 27))) := ((Below.refl _ _).alloc (Nat.le_refl _) _).alloc (by simp) _
  have HW := Lib.hid (II.out.hd (.cells #[.int .u8 0, .int .u8 0, .int .u8 0, .int .u8 0, .int .i8 0, .int .i8 0, .int .u32 0, .int .u32 0, .int .u32 0, .int .u64 0, .int .u64 0, .int .u64 0, .int .u64 0, .slice none 0 0, .bool false, .int .u32 0, .int .u64 0] 27) (.cells #[.int .u8 (q6 : Int), .int .u8 (ve : Int), .int .u8 (m7 : Int), .int .u8 (z1 : Int), .int .i8 sa, .int .i8 sb, .int .u32 (x4 : Int), .int .u32 (x5 : Int), .int .u32 (x6 : Int), .int .u64 (x7 : Int), .int .u64 (x8 : Int), .int .u64 (x9 : Int), .int .u64 (x10 : Int), .slice none 0 0, .bool false, .int .u32 0, .int .u64 0] 27))
  generalize ((w.alloc (.cells #[.int .u8 0, .int .u8 0, .int .u8 0, .int .u8 0, .int .i8 0, .int .i8 0, .int .u32 0, .int .u32 0, .int .u32 0, .int .u64 0, .int .u64 0, .int .u64 0, .int .u64 0, .slice none 0 0, .bool false, .int .u32 0, .int .u64 0] 27)).alloc (.cells #[.int .u8 (q6 : Int), .int .u8 (ve : Int), .int .u8 (m7 : Int), .int .u8 (z1 : Int), .int .i8 sa, .int .i8 sb, .int .u32 (x4 : Int), .int .u32 (x5 : Int), .int .u32 (x6 : Int), .int .u64 (x7 : Int), .int .u64 (x8 : Int), .int .u64 (x9 : Int), .int .u64 (x10 : Int), .slice none 0 0, .bool false, .int .u32 0, .int .u64 0] 27)) = W at *
  obtain ⟨i0, hi, hz0, hz1, hz2⟩ := info_of info8
  have K : Hid (∀ w', Below W.heap.size W w' → (loadP (.pointer (some ⟨w.heap.size + 1, 0, none⟩))).run Try.prog w' = .ok (pkV (hdP ds) Xt.zero) w') := fun w' b => load_pk ((b.block _ (Array.getElem?_eq_some_iff.1 HP.out).1).trans HP.out)
  have KS : Hid (∀ w', Below W.heap.size W w' → (loadP (.pointer (some ⟨w.heap.size + 1, 0, none⟩))).run Try.prog (w'.setRow w.heap.size (pkC (hdP ds) Xt.zero)) = .ok (pkV (hdP ds) Xt.zero) (w'.setRow w.heap.size (pkC (hdP ds) Xt.zero))) := fun w' b => load_pk ((setRow_other _ _ _ _ (by omega)).trans ((b.block _ (Array.getElem?_eq_some_iff.1 HP.out).1).trans HP.out))
  have SS : ∀ w', Below W.heap.size W w' → (storeP (.pointer (some ⟨w.heap.size, 0, none⟩)) (pkV (hdP ds) Xt.zero)).run Try.prog w' = .ok () (w'.setRow w.heap.size (pkC (hdP ds) Xt.zero)) := fun w' b => store_pk _ _ ((b.block _ (Array.getElem?_eq_some_iff.1 HA.out).1).trans HA.out) rfl
  have HB0 : Below W.heap.size W W.drew := (Below.refl _ _).drew
  have BF : Hid ((W.drew.setRow w.heap.size (pkC (hdP ds) Xt.zero)).heap[w.heap.size]? = some (.cells (pkC (hdP ds) Xt.zero) 27 (0, 0))) := setRow_heap _ _ _ _ _ _ (show W.drew.heap[w.heap.size]? = _ from HA.out)
  have LD : Hid (Below w.heap.size w (W.drew.setRow w.heap.size (pkC (hdP ds) Xt.zero))) := Below.setRow (LW.out.trans (HB0.mono LW.out.size)) (Nat.le_refl _) _
  by_cases n48 : n = 48
  · subst n48
    have D0 : ds.drop 48 = [] := List.drop_eq_nil_of_le (by have := HW.out.len; rw [valsN_len] at this; omega)
    have FN : Hid (ParsePost w 48 ds (.returned (.tuple #[pkV (hdP ds) Xt.zero, .slice none 0 0, .int .i64 0])) (W.drew.setRow w.heap.size (pkC (hdP ds) Xt.zero))) := by
      refine ⟨_, rfl, ?_, LD.out⟩
      rw [D0]
      exact World.ownsRow_nil _ _ _ 1
    clear D0
    by_cases cc : c = 48
    · go_region_held3 (fun w' => (loadP (.pointer (some ⟨w.heap.size + 1, 0, none⟩))).run Try.prog w' = .ok (pkV (hdP ds) Xt.zero) w')
        (first | exact K.out _ HB0 | exact KS.out _ HB0)
        (fail)
      go_wp2
      (try simp only [Exit.inBlock, Exit.then])
      refine bodyPost_ret (results_pk3 rfl _ _ w.heap.size _ Xt.zero rfl BF.out) rfl ?_
      exact FN.out
    · have cc' : (48 : Int) < (c : Int) := by omega
      go_region_held3 (fun w' => (loadP (.pointer (some ⟨w.heap.size + 1, 0, none⟩))).run Try.prog w' = .ok (pkV (hdP ds) Xt.zero) w')
        (first | exact K.out _ HB0 | exact KS.out _ HB0)
        (fail)
      go_wp2
      (try simp only [Exit.inBlock, Exit.then])
      refine bodyPost_ret (results_pk3 rfl _ _ w.heap.size _ Xt.zero rfl BF.out) rfl ?_
      exact FN.out
  · have nl : 48 < n := by have := II.out.h48; omega
    have lds : ds.length = n := by have := HW.out.len; rwa [valsN_len] at this
    have cl : 48 < c := by have := HW.out.cap; omega
    have nl' : (48 : Int) < (n : Int) := by omega
    have cl' : (48 : Int) < (c : Int) := by omega
    have cc : ¬ c = 48 := by omega
    have c2 : ¬ 48 = c := by omega
    have DO := drop_own (HW.out.below HB0) (Nat.le_of_lt nl)
    rw [if_neg cc] at DO
    have NW : Hid (∀ (j : Nat) (u : Value), (valsN .u8 (ds.drop 48))[j]? = some u → W.drew.cell? ((⟨ad.block, ad.off + 48, none⟩ : Addr).add j) = some u) := fun j u hu => by
      obtain ⟨a', e, h⟩ := DO.cell j u hu
      injection e with e
      rw [← e] at h
      exact h
    have NL : Hid ((valsN .u8 (ds.drop 48)).length = (n - 48) * 1) := by unfold Hid; rw [valsN_len, List.length_drop, lds]; omega
    have BM : Hid (0 + (n - 48) ≤ maxLen) := by unfold Hid maxLen; have := II.out.hn; omega
    have BY : Hid ((0 + (n - 48)) * 1 ≤ 140737488355328) := by unfold Hid; have := II.out.hn; omega
    have PS : Hid (0 < n - 48) := by unfold Hid; omega
    have MK : Hid (∀ gg cap w1, w1.ownsRow W.heap.size 5 1 (.slice (some ⟨gg, 0, none⟩) (0 + (n - 48)) cap) (0 + (n - 48)) ([] ++ valsN .u8 (ds.drop 48)) → W.drew.grownBy w1 (Value.ownBlock (.slice none 0 0)) → Below W.heap.size W w1 ∧ w1.ownsRow w.heap.size 5 1 (.slice (some ⟨gg, 0, none⟩) (0 + (n - 48)) cap) (n - 48) (valsN .u8 (ds.drop 48))) := fun gg cap w1 o g => by
      refine ⟨HB0.grown g (Nat.le_refl _) (fun j hj => by cases hj), own_base ?_ LW.out.size⟩
      have e : 0 + (n - 48) = n - 48 := by omega
      rw [e] at o ⊢
      exact o
    clear DO nl cl lds n48
    go_region_held3 (fun w' => (loadP (.pointer (some ⟨w.heap.size + 1, 0, none⟩))).run Try.prog w' = .ok (pkV (hdP ds) Xt.zero) w')
      (first | exact K.out _ HB1 | exact KS.out _ HB1 | exact K.out _ HB0)
      ((refine step_append_lies _ (by rfl) _ _ _ (by rfl) W.heap.size 5 i0 (.int .u8 0) 1 1 Try.underlying31 hi hz0 hz1 hz2 rfl (by omega) (.slice none 0 0) 0 [] (by rfl) (World.ownsRow_nil _ _ _ 1) ⟨ad.block, ad.off + 48, none⟩ (n - 48) (c - 48) (valsN .u8 (ds.drop 48)) (by rfl) NL.out NW.out (valsN_one _ _) PS.out BM.out BY.out (Nat.le_refl _) W.heap.size rfl ?_; intro gg cap w1 o1 g1 _ _; obtain ⟨HB1, OW⟩ := MK.out gg cap w1 o1 g1; replace OW := Lib.hid OW; clear o1 g1))
    have BF1 : Hid ((w1.setRow w.heap.size (pkC (hdP ds) Xt.zero)).heap[w.heap.size]? = some (.cells (pkC (hdP ds) Xt.zero) 27 (0, 0))) := setRow_heap _ _ _ _ _ _ ((HB1.block _ (Array.getElem?_eq_some_iff.1 HA.out).1).trans HA.out)
    have FN : Hid (ParsePost w n ds (.returned (.tuple #[pkV (hdP ds) Xt.zero, .slice (some ⟨gg, 0, none⟩) (0 + (n - 48)) cap, .int .i64 0])) (w1.setRow w.heap.size (pkC (hdP ds) Xt.zero))) :=
      ⟨_, rfl, own_row OW.out ((HB1.block _ (Array.getElem?_eq_some_iff.1 HA.out).1).trans HA.out) rfl, Below.setRow (LW.out.trans (HB1.mono LW.out.size)) (Nat.le_refl _) _⟩
    rw [Nat.zero_add] at FN
    go_wp2
    (try simp only [Exit.inBlock, Exit.then])
    refine bodyPost_ret (results_pk3 rfl _ _ w.heap.size _ Xt.zero rfl BF1.out) rfl ?_
    exact FN.out
end Go.Proofs.Ytfnidehbibfclaa
/- The document's own answers for layer 4 (head): Same. -/
namespace Go.Proofs.Ytfnidehbibfclaa
open Go.ChangeShapes Go.WideShapes Go.ChangeAt Go.RowKit OctM

attribute [local go_sem ↓] loadP_eq storeP_eq boxP_eq allocP_eq strB_eq eqlS_eq

/-- Put, as it is called here: a head that may be, or not. -/
theorem rput4_yes (w : World) (h : Hd) (x : Xt) (hw : h.wf) (hm : mayH h) :
    Calls Try.prog 60 #[pkV h x] w fun e w' => ∃ p c, e = .returned (.tuple #[.slice p 48 c, .int .i64 0]) ∧ Holds w' p 48 c (valsN .u8 (bytesH h)) ∧ Below w.heap.size w w' :=
  (rput4_ok w h x hw hm).mono fun e w' ⟨v, he, o, l⟩ => by
    obtain ⟨p, c, rfl, hh⟩ := own_holds o
    exact ⟨p, c, he, hh, l⟩

set_option maxHeartbeats 4000000 in
theorem rsame4_both (w : World) (h g : Hd) (x y : Xt) (hw : h.wf) (gw : g.wf) (hm : mayH h) (gm : mayH g) :
    Calls Try.prog 39 #[pkV h x, pkV g y] w fun e w' => e = .returned (.bool (decide (h = g))) ∧ Below w.heap.size w w' := by
  have bx := box_pk h x
  have by' := box_pk g y
  have ED : decide (bytesH h = bytesH g) = decide (h = g) := by
    rw [Bool.eq_iff_iff, decide_eq_true_iff, decide_eq_true_iff]
    exact ⟨bytesH_inj hw gw hm gm, fun e => by rw [e]⟩
  rw [← ED]
  have PH := Lib.hid (fun w => rput4_yes w h x hw hm)
  have PG := Lib.hid (fun w => rput4_yes w g y gw gm)
  have B1 : Hid (((w.alloc (.cells (pkC h x) 27)).alloc (.cells (pkC g y) 27)).heap[w.heap.size]? = some (.cells (pkC h x) 27 (0, 0))) := heap_alloc2_old w _ _
  have B2 : Hid (((w.alloc (.cells (pkC h x) 27)).alloc (.cells (pkC g y) 27)).heap[w.heap.size + 1]? = some (.cells (pkC g y) 27 (0, 0))) := heap_alloc2_new w _ _
  have L0 : Hid (Below w.heap.size w ((w.alloc (.cells (pkC h x) 27)).alloc (.cells (pkC g y) 27))) := ((Below.refl _ _).alloc (Nat.le_refl _) _).alloc (by simp) _
  have LD := load_pk B1.out
  clear hw gw hm gm ED
  go_enter Try.func39, Try.ntmps39
  go_wp2_with fail
  generalize (w.alloc (.cells (pkC h x) 27)).alloc (.cells (pkC g y) 27) = v at *
  refine (PH.out _).mono ?_; rintro e w1 ⟨pa, ca, rfl, ha, l1⟩
  have LG : (loadP (.pointer (some ⟨w.heap.size + 1, 0, none⟩))).run Try.prog w1 = .ok (pkV g y) w1 := load_pk ((l1.block _ (Array.getElem?_eq_some_iff.1 B2.out).1).trans B2.out)
  have HA := Lib.hid ha
  have L1 := Lib.hid l1
  clear LD ha l1
  go_wp2_with fail
  refine (PG.out _).mono ?_; rintro e w2 ⟨pb, cb, rfl, hb, l2⟩
  have SA := str_held (HA.out.below l2)
  have SB := str_held hb
  have EQ := eql_str w2 (bytesH_byt h) (bytesH_byt g)
  have FIN : Hid (Below w.heap.size w w2) := L0.out.trans ((L1.out.trans (l2.mono L1.out.size)).mono L0.out.size)
  clear LG hb l2
  go_wp2
  go_ret
  exact ⟨rfl, FIN.out⟩

set_option maxHeartbeats 4000000 in
theorem rsame4_first (w : World) (h g : Hd) (x y : Xt) (hw : h.wf) (hm : mayH h) (gm : ¬ mayH g) :
    Calls Try.prog 39 #[pkV h x, pkV g y] w fun e w' => e = .returned (.bool false) ∧ Below w.heap.size w w' := by
  have bx := box_pk h x
  have by' := box_pk g y
  have PH := Lib.hid (fun w => rput4_yes w h x hw hm)
  have PG := Lib.hid (fun w => rput4_no w g y gm)
  have B1 : Hid (((w.alloc (.cells (pkC h x) 27)).alloc (.cells (pkC g y) 27)).heap[w.heap.size]? = some (.cells (pkC h x) 27 (0, 0))) := heap_alloc2_old w _ _
  have B2 : Hid (((w.alloc (.cells (pkC h x) 27)).alloc (.cells (pkC g y) 27)).heap[w.heap.size + 1]? = some (.cells (pkC g y) 27 (0, 0))) := heap_alloc2_new w _ _
  have L0 : Hid (Below w.heap.size w ((w.alloc (.cells (pkC h x) 27)).alloc (.cells (pkC g y) 27))) := ((Below.refl _ _).alloc (Nat.le_refl _) _).alloc (by simp) _
  have LD := load_pk B1.out
  clear hw hm gm
  go_enter Try.func39, Try.ntmps39
  go_wp2_with fail
  generalize (w.alloc (.cells (pkC h x) 27)).alloc (.cells (pkC g y) 27) = v at *
  refine (PH.out _).mono ?_; rintro e w1 ⟨pa, ca, rfl, -, l1⟩
  have LG : (loadP (.pointer (some ⟨w.heap.size + 1, 0, none⟩))).run Try.prog w1 = .ok (pkV g y) w1 := load_pk ((l1.block _ (Array.getElem?_eq_some_iff.1 B2.out).1).trans B2.out)
  have L1 := Lib.hid l1
  clear LD l1
  go_wp2_with fail
  refine (PG.out _).mono ?_; rintro e w2 ⟨rfl, l2⟩
  have FIN : Hid (Below w.heap.size w w2) := L0.out.trans ((L1.out.trans (l2.mono L1.out.size)).mono L0.out.size)
  clear LG l2
  go_wp2
  go_ret
  exact ⟨rfl, FIN.out⟩

set_option maxHeartbeats 4000000 in
theorem rsame4_second (w : World) (h g : Hd) (x y : Xt) (gw : g.wf) (hm : ¬ mayH h) (gm : mayH g) :
    Calls Try.prog 39 #[pkV h x, pkV g y] w fun e w' => e = .returned (.bool false) ∧ Below w.heap.size w w' := by
  have bx := box_pk h x
  have by' := box_pk g y
  have PH := Lib.hid (fun w => rput4_no w h x hm)
  have PG := Lib.hid (fun w => rput4_yes w g y gw gm)
  have B1 : Hid (((w.alloc (.cells (pkC h x) 27)).alloc (.cells (pkC g y) 27)).heap[w.heap.size]? = some (.cells (pkC h x) 27 (0, 0))) := heap_alloc2_old w _ _
  have B2 : Hid (((w.alloc (.cells (pkC h x) 27)).alloc (.cells (pkC g y) 27)).heap[w.heap.size + 1]? = some (.cells (pkC g y) 27 (0, 0))) := heap_alloc2_new w _ _
  have L0 : Hid (Below w.heap.size w ((w.alloc (.cells (pkC h x) 27)).alloc (.cells (pkC g y) 27))) := ((Below.refl _ _).alloc (Nat.le_refl _) _).alloc (by simp) _
  have LD := load_pk B1.out
  clear gw hm gm
  go_enter Try.func39, Try.ntmps39
  go_wp2_with fail
  generalize (w.alloc (.cells (pkC h x) 27)).alloc (.cells (pkC g y) 27) = v at *
  refine (PH.out _).mono ?_; rintro e w1 ⟨rfl, l1⟩
  have LG : (loadP (.pointer (some ⟨w.heap.size + 1, 0, none⟩))).run Try.prog w1 = .ok (pkV g y) w1 := load_pk ((l1.block _ (Array.getElem?_eq_some_iff.1 B2.out).1).trans B2.out)
  have L1 := Lib.hid l1
  clear LD l1
  go_wp2_with fail
  refine (PG.out _).mono ?_; rintro e w2 ⟨pb, cb, rfl, -, l2⟩
  have FIN : Hid (Below w.heap.size w w2) := L0.out.trans ((L1.out.trans (l2.mono L1.out.size)).mono L0.out.size)
  clear LG l2
  go_wp2
  go_ret
  exact ⟨rfl, FIN.out⟩
end Go.Proofs.Ytfnidehbibfclaa
/- The document's own answers for layer 4 (head): Same of two heads that may not be. (Written by wip/tools/genheadsame.py.) -/
namespace Go.Proofs.Ytfnidehbibfclaa
open Go.ChangeShapes Go.WideShapes Go.ChangeAt Go.RowKit OctM

/-- a head whose first byte is Version 1 alone. -/
def normH (h : Hd) : Hd := { h with lp := 0, ve := 1, mo := 0 }
theorem normH_wf {h : Hd} (hw : h.wf) : (normH h).wf := by
  obtain ⟨h1, h2, h3, h4, h5, h6, h7, h8, h9, ha, hb, hc, hd⟩ := hw
  exact ⟨by simp [normH], by simp [normH], by simp [normH], h4, h5, h6, h7, h8, h9, ha, hb, hc, hd⟩
theorem normH_may (h : Hd) : mayH (normH h) := by simp [mayH, normH]
theorem normH_eq {h g : Hd} (e : normH h = normH g) (h1 : h.lp = g.lp) (h2 : h.ve = g.ve) (h3 : h.mo = g.mo) : h = g := by
  cases h; cases g
  simp only [normH, Hd.mk.injEq] at e h1 h2 h3
  simp only [Hd.mk.injEq]
  exact ⟨h1, h2, h3, e.2.2.2⟩
theorem set3 {w : World} {N : Nat} {h : Hd} {x : Xt} (hg : w.heap[N]? = some (.cells (pkC h x) 27 (0, 0))) :
    (((w.setCell ⟨N, 0, none⟩ (.int .u8 0)).setCell ⟨N, 1, none⟩ (.int .u8 1)).setCell ⟨N, 2, none⟩ (.int .u8 0)).heap[N]? = some (.cells (pkC (normH h) x) 27 (0, 0)) := by
  have e : pkC (normH h) x = (((pkC h x).set! 0 (.int .u8 0)).set! 1 (.int .u8 1)).set! 2 (.int .u8 0) := rfl
  rw [e]
  exact blk_set (blk_set (blk_set hg))
theorem keep3 {w : World} {N M : Nat} {o : Obj} (hg : w.heap[N]? = some o) (hn : N ≠ M) (a b c : Value) :
    (((w.setCell ⟨M, 0, none⟩ a).setCell ⟨M, 1, none⟩ b).setCell ⟨M, 2, none⟩ c).heap[N]? = some o := by
  rw [Below.heap_setCell _ _ _ _ hn, Below.heap_setCell _ _ _ _ hn, Below.heap_setCell _ _ _ _ hn]
  exact hg

attribute [local go_sem ↓] loadP_eq storeP_eq boxP_eq allocP_eq strB_eq eqlS_eq
set_option maxHeartbeats 8000000 in
theorem rsame4_none_a (w : World) (h g : Hd) (x y : Xt) (hm : ¬ mayH h) (gm : ¬ mayH g)  (ne : h.lp ≠ g.lp) :
    Calls Try.prog 39 #[pkV h x, pkV g y] w fun e w' => e = .returned (.bool false) ∧ Below w.heap.size w w' := by
  have bx := box_pk h x
  have by' := box_pk g y
  have PH := Lib.hid (fun w => rput4_no w h x hm)
  have PG := Lib.hid (fun w => rput4_no w g y gm)
  have B1 : Hid (((w.alloc (.cells (pkC h x) 27)).alloc (.cells (pkC g y) 27)).heap[w.heap.size]? = some (.cells (pkC h x) 27 (0, 0))) := heap_alloc2_old w _ _
  have B2 : Hid (((w.alloc (.cells (pkC h x) 27)).alloc (.cells (pkC g y) 27)).heap[w.heap.size + 1]? = some (.cells (pkC g y) 27 (0, 0))) := heap_alloc2_new w _ _
  have L0 : Hid (Below w.heap.size w ((w.alloc (.cells (pkC h x) 27)).alloc (.cells (pkC g y) 27))) := ((Below.refl _ _).alloc (Nat.le_refl _) _).alloc (by simp) _
  have LD := load_pk B1.out
  clear hm gm
  obtain ⟨n0, hn0⟩ : ∃ n, n = h.lp := ⟨_, rfl⟩
  obtain ⟨m0, hm0⟩ : ∃ n, n = g.lp := ⟨_, rfl⟩
  rw [← hn0, ← hm0] at ne
  have ne1 : ((n0 : Int) != (m0 : Int)) = true := by rw [bne_iff_ne]; omega
  have ne2 : ((n0 : Int) == (m0 : Int)) = false := by rw [beq_eq_false_iff_ne]; omega
  have ne3 : ¬ (n0 : Int) = (m0 : Int) := by omega
  go_enter Try.func39, Try.ntmps39
  go_wp2_with fail
  generalize (w.alloc (.cells (pkC h x) 27)).alloc (.cells (pkC g y) 27) = v at *
  refine (PH.out _).mono ?_; rintro e w1 ⟨rfl, l1⟩
  have LG : (loadP (.pointer (some ⟨w.heap.size + 1, 0, none⟩))).run Try.prog w1 = .ok (pkV g y) w1 := load_pk ((l1.block _ (Array.getElem?_eq_some_iff.1 B2.out).1).trans B2.out)
  have L1 := Lib.hid l1
  clear LD l1
  go_wp2_with fail
  refine (PG.out _).mono ?_; rintro e w2 ⟨rfl, l2⟩
  have L02 := L1.out.trans (l2.mono L1.out.size)
  have G1 := (L02.block _ (Array.getElem?_eq_some_iff.1 B1.out).1).trans B1.out
  have G2 := (L02.block _ (Array.getElem?_eq_some_iff.1 B2.out).1).trans B2.out
  have FIN : Hid (Below w.heap.size w w2) := L0.out.trans (L02.mono L0.out.size)
  have c0 : w2.cell? ⟨w.heap.size, 0, none⟩ = some (.int .u8 (n0 : Int)) := by rw [hn0]; exact pk_cell G1 0 rfl
  have k0 : w2.cell? ⟨w.heap.size + 1, 0, none⟩ = some (.int .u8 (m0 : Int)) := by rw [hm0]; exact pk_cell G2 0 rfl
  clear LG l2 L02 G1 G2
  go_wp2
  go_ret
  exact ⟨rfl, FIN.out⟩

set_option maxHeartbeats 8000000 in
theorem rsame4_none_b (w : World) (h g : Hd) (x y : Xt) (hm : ¬ mayH h) (gm : ¬ mayH g) (e0 : h.lp = g.lp) (ne : h.ve ≠ g.ve) :
    Calls Try.prog 39 #[pkV h x, pkV g y] w fun e w' => e = .returned (.bool false) ∧ Below w.heap.size w w' := by
  have bx := box_pk h x
  have by' := box_pk g y
  have PH := Lib.hid (fun w => rput4_no w h x hm)
  have PG := Lib.hid (fun w => rput4_no w g y gm)
  have B1 : Hid (((w.alloc (.cells (pkC h x) 27)).alloc (.cells (pkC g y) 27)).heap[w.heap.size]? = some (.cells (pkC h x) 27 (0, 0))) := heap_alloc2_old w _ _
  have B2 : Hid (((w.alloc (.cells (pkC h x) 27)).alloc (.cells (pkC g y) 27)).heap[w.heap.size + 1]? = some (.cells (pkC g y) 27 (0, 0))) := heap_alloc2_new w _ _
  have L0 : Hid (Below w.heap.size w ((w.alloc (.cells (pkC h x) 27)).alloc (.cells (pkC g y) 27))) := ((Below.refl _ _).alloc (Nat.le_refl _) _).alloc (by simp) _
  have LD := load_pk B1.out
  clear hm gm
  obtain ⟨n0, hn0⟩ : ∃ n, n = h.lp := ⟨_, rfl⟩
  rw [← hn0] at e0
  obtain ⟨n1, hn1⟩ : ∃ n, n = h.ve := ⟨_, rfl⟩
  obtain ⟨m1, hm1⟩ : ∃ n, n = g.ve := ⟨_, rfl⟩
  rw [← hn1, ← hm1] at ne
  have ne1 : ((n1 : Int) != (m1 : Int)) = true := by rw [bne_iff_ne]; omega
  have ne2 : ((n1 : Int) == (m1 : Int)) = false := by rw [beq_eq_false_iff_ne]; omega
  have ne3 : ¬ (n1 : Int) = (m1 : Int) := by omega
  go_enter Try.func39, Try.ntmps39
  go_wp2_with fail
  generalize (w.alloc (.cells (pkC h x) 27)).alloc (.cells (pkC g y) 27) = v at *
  refine (PH.out _).mono ?_; rintro e w1 ⟨rfl, l1⟩
  have LG : (loadP (.pointer (some ⟨w.heap.size + 1, 0, none⟩))).run Try.prog w1 = .ok (pkV g y) w1 := load_pk ((l1.block _ (Array.getElem?_eq_some_iff.1 B2.out).1).trans B2.out)
  have L1 := Lib.hid l1
  clear LD l1
  go_wp2_with fail
  refine (PG.out _).mono ?_; rintro e w2 ⟨rfl, l2⟩
  have L02 := L1.out.trans (l2.mono L1.out.size)
  have G1 := (L02.block _ (Array.getElem?_eq_some_iff.1 B1.out).1).trans B1.out
  have G2 := (L02.block _ (Array.getElem?_eq_some_iff.1 B2.out).1).trans B2.out
  have FIN : Hid (Below w.heap.size w w2) := L0.out.trans (L02.mono L0.out.size)
  have c0 : w2.cell? ⟨w.heap.size, 0, none⟩ = some (.int .u8 (n0 : Int)) := by rw [hn0]; exact pk_cell G1 0 rfl
  have k0 : w2.cell? ⟨w.heap.size + 1, 0, none⟩ = some (.int .u8 (n0 : Int)) := by rw [e0]; exact pk_cell G2 0 rfl
  have c1 : w2.cell? ⟨w.heap.size, 1, none⟩ = some (.int .u8 (n1 : Int)) := by rw [hn1]; exact pk_cell G1 1 rfl
  have k1 : w2.cell? ⟨w.heap.size + 1, 1, none⟩ = some (.int .u8 (m1 : Int)) := by rw [hm1]; exact pk_cell G2 1 rfl
  clear LG l2 L02 G1 G2
  go_wp2
  go_ret
  exact ⟨rfl, FIN.out⟩

set_option maxHeartbeats 8000000 in
theorem rsame4_none_c (w : World) (h g : Hd) (x y : Xt) (hm : ¬ mayH h) (gm : ¬ mayH g) (e0 : h.lp = g.lp) (e1 : h.ve = g.ve) (ne : h.mo ≠ g.mo) :
    Calls Try.prog 39 #[pkV h x, pkV g y] w fun e w' => e = .returned (.bool false) ∧ Below w.heap.size w w' := by
  have bx := box_pk h x
  have by' := box_pk g y
  have PH := Lib.hid (fun w => rput4_no w h x hm)
  have PG := Lib.hid (fun w => rput4_no w g y gm)
  have B1 : Hid (((w.alloc (.cells (pkC h x) 27)).alloc (.cells (pkC g y) 27)).heap[w.heap.size]? = some (.cells (pkC h x) 27 (0, 0))) := heap_alloc2_old w _ _
  have B2 : Hid (((w.alloc (.cells (pkC h x) 27)).alloc (.cells (pkC g y) 27)).heap[w.heap.size + 1]? = some (.cells (pkC g y) 27 (0, 0))) := heap_alloc2_new w _ _
  have L0 : Hid (Below w.heap.size w ((w.alloc (.cells (pkC h x) 27)).alloc (.cells (pkC g y) 27))) := ((Below.refl _ _).alloc (Nat.le_refl _) _).alloc (by simp) _
  have LD := load_pk B1.out
  clear hm gm
  obtain ⟨n0, hn0⟩ : ∃ n, n = h.lp := ⟨_, rfl⟩
  rw [← hn0] at e0
  obtain ⟨n1, hn1⟩ : ∃ n, n = h.ve := ⟨_, rfl⟩
  rw [← hn1] at e1
  obtain ⟨n2, hn2⟩ : ∃ n, n = h.mo := ⟨_, rfl⟩
  obtain ⟨m2, hm2⟩ : ∃ n, n = g.mo := ⟨_, rfl⟩
  rw [← hn2, ← hm2] at ne
  have ne1 : ((n2 : Int) != (m2 : Int)) = true := by rw [bne_iff_ne]; omega
  have ne2 : ((n2 : Int) == (m2 : Int)) = false := by rw [beq_eq_false_iff_ne]; omega
  have ne3 : ¬ (n2 : Int) = (m2 : Int) := by omega
  go_enter Try.func39, Try.ntmps39
  go_wp2_with fail
  generalize (w.alloc (.cells (pkC h x) 27)).alloc (.cells (pkC g y) 27) = v at *
  refine (PH.out _).mono ?_; rintro e w1 ⟨rfl, l1⟩
  have LG : (loadP (.pointer (some ⟨w.heap.size + 1, 0, none⟩))).run Try.prog w1 = .ok (pkV g y) w1 := load_pk ((l1.block _ (Array.getElem?_eq_some_iff.1 B2.out).1).trans B2.out)
  have L1 := Lib.hid l1
  clear LD l1
  go_wp2_with fail
  refine (PG.out _).mono ?_; rintro e w2 ⟨rfl, l2⟩
  have L02 := L1.out.trans (l2.mono L1.out.size)
  have G1 := (L02.block _ (Array.getElem?_eq_some_iff.1 B1.out).1).trans B1.out
  have G2 := (L02.block _ (Array.getElem?_eq_some_iff.1 B2.out).1).trans B2.out
  have FIN : Hid (Below w.heap.size w w2) := L0.out.trans (L02.mono L0.out.size)
  have c0 : w2.cell? ⟨w.heap.size, 0, none⟩ = some (.int .u8 (n0 : Int)) := by rw [hn0]; exact pk_cell G1 0 rfl
  have k0 : w2.cell? ⟨w.heap.size + 1, 0, none⟩ = some (.int .u8 (n0 : Int)) := by rw [e0]; exact pk_cell G2 0 rfl
  have c1 : w2.cell? ⟨w.heap.size, 1, none⟩ = some (.int .u8 (n1 : Int)) := by rw [hn1]; exact pk_cell G1 1 rfl
  have k1 : w2.cell? ⟨w.heap.size + 1, 1, none⟩ = some (.int .u8 (n1 : Int)) := by rw [e1]; exact pk_cell G2 1 rfl
  have c2 : w2.cell? ⟨w.heap.size, 2, none⟩ = some (.int .u8 (n2 : Int)) := by rw [hn2]; exact pk_cell G1 2 rfl
  have k2 : w2.cell? ⟨w.heap.size + 1, 2, none⟩ = some (.int .u8 (m2 : Int)) := by rw [hm2]; exact pk_cell G2 2 rfl
  clear LG l2 L02 G1 G2
  go_wp2
  go_ret
  exact ⟨rfl, FIN.out⟩

set_option maxHeartbeats 8000000 in
theorem rsame4_none_d (w : World) (h g : Hd) (x y : Xt) (hw : h.wf) (gw : g.wf) (hm : ¬ mayH h) (gm : ¬ mayH g) (e0 : h.lp = g.lp) (e1 : h.ve = g.ve) (e2 : h.mo = g.mo) :
    Calls Try.prog 39 #[pkV h x, pkV g y] w fun e w' => e = .returned (.bool (decide (h = g))) ∧ Below w.heap.size w w' := by
  have ED : decide (bytesH (normH h) = bytesH (normH g)) = decide (h = g) := by
    rw [Bool.eq_iff_iff, decide_eq_true_iff, decide_eq_true_iff]
    exact ⟨fun e => normH_eq (bytesH_inj (normH_wf hw) (normH_wf gw) (normH_may h) (normH_may g) e) e0 e1 e2, fun e => by rw [e]⟩
  rw [← ED]
  have QH := Lib.hid (fun w => rput4_yes w (normH h) x (normH_wf hw) (normH_may h))
  have QG := Lib.hid (fun w => rput4_yes w (normH g) y (normH_wf gw) (normH_may g))
  clear ED hw gw
  have bx := box_pk h x
  have by' := box_pk g y
  have PH := Lib.hid (fun w => rput4_no w h x hm)
  have PG := Lib.hid (fun w => rput4_no w g y gm)
  have B1 : Hid (((w.alloc (.cells (pkC h x) 27)).alloc (.cells (pkC g y) 27)).heap[w.heap.size]? = some (.cells (pkC h x) 27 (0, 0))) := heap_alloc2_old w _ _
  have B2 : Hid (((w.alloc (.cells (pkC h x) 27)).alloc (.cells (pkC g y) 27)).heap[w.heap.size + 1]? = some (.cells (pkC g y) 27 (0, 0))) := heap_alloc2_new w _ _
  have L0 : Hid (Below w.heap.size w ((w.alloc (.cells (pkC h x) 27)).alloc (.cells (pkC g y) 27))) := ((Below.refl _ _).alloc (Nat.le_refl _) _).alloc (by simp) _
  have LD := load_pk B1.out
  clear hm gm
  obtain ⟨n0, hn0⟩ : ∃ n, n = h.lp := ⟨_, rfl⟩
  rw [← hn0] at e0
  obtain ⟨n1, hn1⟩ : ∃ n, n = h.ve := ⟨_, rfl⟩
  rw [← hn1] at e1
  obtain ⟨n2, hn2⟩ : ∃ n, n = h.mo := ⟨_, rfl⟩
  rw [← hn2] at e2
  go_enter Try.func39, Try.ntmps39
  go_wp2_with fail
  generalize (w.alloc (.cells (pkC h x) 27)).alloc (.cells (pkC g y) 27) = v at *
  refine (PH.out _).mono ?_; rintro e w1 ⟨rfl, l1⟩
  have LG : (loadP (.pointer (some ⟨w.heap.size + 1, 0, none⟩))).run Try.prog w1 = .ok (pkV g y) w1 := load_pk ((l1.block _ (Array.getElem?_eq_some_iff.1 B2.out).1).trans B2.out)
  have L1 := Lib.hid l1
  clear LD l1
  go_wp2_with fail
  refine (PG.out _).mono ?_; rintro e w2 ⟨rfl, l2⟩
  have L02 := L1.out.trans (l2.mono L1.out.size)
  have G1 := (L02.block _ (Array.getElem?_eq_some_iff.1 B1.out).1).trans B1.out
  have G2 := (L02.block _ (Array.getElem?_eq_some_iff.1 B2.out).1).trans B2.out
  have FIN : Hid (Below w.heap.size w w2) := L0.out.trans (L02.mono L0.out.size)
  have c0 : w2.cell? ⟨w.heap.size, 0, none⟩ = some (.int .u8 (n0 : Int)) := by rw [hn0]; exact pk_cell G1 0 rfl
  have k0 : w2.cell? ⟨w.heap.size + 1, 0, none⟩ = some (.int .u8 (n0 : Int)) := by rw [e0]; exact pk_cell G2 0 rfl
  have c1 : w2.cell? ⟨w.heap.size, 1, none⟩ = some (.int .u8 (n1 : Int)) := by rw [hn1]; exact pk_cell G1 1 rfl
  have k1 : w2.cell? ⟨w.heap.size + 1, 1, none⟩ = some (.int .u8 (n1 : Int)) := by rw [e1]; exact pk_cell G2 1 rfl
  have c2 : w2.cell? ⟨w.heap.size, 2, none⟩ = some (.int .u8 (n2 : Int)) := by rw [hn2]; exact pk_cell G1 2 rfl
  have k2 : w2.cell? ⟨w.heap.size + 1, 2, none⟩ = some (.int .u8 (n2 : Int)) := by rw [e2]; exact pk_cell G2 2 rfl
  have f0 : w2.frozen? ⟨w.heap.size, 0, none⟩ = false := blk_free G1
  have g0 : w2.frozen? ⟨w.heap.size + 1, 0, none⟩ = false := blk_free G2
  have f1 : w2.frozen? ⟨w.heap.size, 1, none⟩ = false := blk_free G1
  have g1 : w2.frozen? ⟨w.heap.size + 1, 1, none⟩ = false := blk_free G2
  have f2 : w2.frozen? ⟨w.heap.size, 2, none⟩ = false := blk_free G1
  have g2 : w2.frozen? ⟨w.heap.size + 1, 2, none⟩ = false := blk_free G2
  have G3 : Hid (((((((w2.setCell ⟨w.heap.size, 0, none⟩ (.int .u8 0)).setCell ⟨w.heap.size, 1, none⟩ (.int .u8 1)).setCell ⟨w.heap.size, 2, none⟩ (.int .u8 0)).setCell ⟨w.heap.size + 1, 0, none⟩ (.int .u8 0)).setCell ⟨w.heap.size + 1, 1, none⟩ (.int .u8 1)).setCell ⟨w.heap.size + 1, 2, none⟩ (.int .u8 0)).heap[w.heap.size]? = some (.cells (pkC (normH h) x) 27 (0, 0))) := keep3 (set3 G1) (by omega) _ _ _
  have G4 : Hid (((((((w2.setCell ⟨w.heap.size, 0, none⟩ (.int .u8 0)).setCell ⟨w.heap.size, 1, none⟩ (.int .u8 1)).setCell ⟨w.heap.size, 2, none⟩ (.int .u8 0)).setCell ⟨w.heap.size + 1, 0, none⟩ (.int .u8 0)).setCell ⟨w.heap.size + 1, 1, none⟩ (.int .u8 1)).setCell ⟨w.heap.size + 1, 2, none⟩ (.int .u8 0)).heap[w.heap.size + 1]? = some (.cells (pkC (normH g) y) 27 (0, 0))) := set3 (keep3 G2 (by omega) _ _ _)
  have FV : Hid (Below w.heap.size w ((((((w2.setCell ⟨w.heap.size, 0, none⟩ (.int .u8 0)).setCell ⟨w.heap.size, 1, none⟩ (.int .u8 1)).setCell ⟨w.heap.size, 2, none⟩ (.int .u8 0)).setCell ⟨w.heap.size + 1, 0, none⟩ (.int .u8 0)).setCell ⟨w.heap.size + 1, 1, none⟩ (.int .u8 1)).setCell ⟨w.heap.size + 1, 2, none⟩ (.int .u8 0))) := (((((FIN.out.setCell (Nat.le_refl _) _).setCell (Nat.le_refl _) _).setCell (Nat.le_refl _) _).setCell (Nat.le_succ _) _).setCell (Nat.le_succ _) _).setCell (Nat.le_succ _) _
  have LH := load_pk G3.out
  clear LG l2 L02 G1 G2 hn0 hn1 hn2 e0 e1 e2
  go_wp2_with fail
  generalize ((((((w2.setCell ⟨w.heap.size, 0, none⟩ (.int .u8 0)).setCell ⟨w.heap.size, 1, none⟩ (.int .u8 1)).setCell ⟨w.heap.size, 2, none⟩ (.int .u8 0)).setCell ⟨w.heap.size + 1, 0, none⟩ (.int .u8 0)).setCell ⟨w.heap.size + 1, 1, none⟩ (.int .u8 1)).setCell ⟨w.heap.size + 1, 2, none⟩ (.int .u8 0)) = v3 at *
  refine (QH.out _).mono ?_; rintro e w3 ⟨pa, ca, rfl, ha, l3⟩
  have LG : (loadP (.pointer (some ⟨w.heap.size + 1, 0, none⟩))).run Try.prog w3 = .ok (pkV (normH g) y) w3 := load_pk ((l3.block _ (Array.getElem?_eq_some_iff.1 G4.out).1).trans G4.out)
  have HA := Lib.hid ha
  have L3 := Lib.hid l3
  clear LH ha l3 c0 c1 c2 k0 k1 k2 f0 f1 f2 g0 g1 g2
  go_wp2_with fail
  refine (QG.out _).mono ?_; rintro e w4 ⟨pb, cb, rfl, hb, l4⟩
  have SA := str_held (HA.out.below l4)
  have SB := str_held hb
  have EQ := eql_str w4 (bytesH_byt (normH h)) (bytesH_byt (normH g))
  have FN : Hid (Below w.heap.size w w4) := FV.out.trans ((L3.out.trans (l4.mono L3.out.size)).mono FV.out.size)
  clear LG hb l4
  go_wp2
  go_ret
  exact ⟨rfl, FN.out⟩

/-- Same, whatever the heads. -/
theorem rsame4_any (w : World) (h g : Hd) (x y : Xt) (hw : h.wf) (gw : g.wf) :
    Calls Try.prog 39 #[pkV h x, pkV g y] w fun e w' => e = .returned (.bool (decide (h = g))) ∧ Below w.heap.size w w' := by
  have no : h ≠ g → decide (h = g) = false := fun n => decide_eq_false n
  by_cases hm : mayH h
  · by_cases gm : mayH g
    · exact rsame4_both w h g x y hw gw hm gm
    · rw [no (fun e => gm (e ▸ hm))]
      exact rsame4_first w h g x y hw hm gm
  · by_cases gm : mayH g
    · rw [no (fun e => hm (e ▸ gm))]
      exact rsame4_second w h g x y gw hm gm
    · by_cases a : h.lp = g.lp
      · by_cases b : h.ve = g.ve
        · by_cases c : h.mo = g.mo
          · exact rsame4_none_d w h g x y hw gw hm gm a b c
          · rw [no (fun e => c (by rw [e]))]
            exact rsame4_none_c w h g x y hm gm a b c
        · rw [no (fun e => b (by rw [e]))]
          exact rsame4_none_b w h g x y hm gm a b
      · rw [no (fun e => a (by rw [e]))]
        exact rsame4_none_a w h g x y hm gm a
end Go.Proofs.Ytfnidehbibfclaa
/- Layer 4 (head): what each of its laws asks besides: the chapter's rows. -/
namespace Go.Proofs.Ytfnidehbibfclaa
open Go.ChangeShapes Go.WideShapes Go.ChangeAt Go.RowKit OctM

def row1 : Hd := ⟨0, 4, 3, 0, 0, 0, 0, 0, 0, 0, 0, 0, 0⟩
def row2 : Hd := ⟨3, 4, 4, 0, -6, 0, 0, 0, 1196446464, 0, 0, 0, 0⟩
theorem row1_bytes : bytesH row1 = [35, 0, 0, 0, 0, 0, 0, 0, 0, 0, 0, 0, 0, 0, 0, 0, 0, 0, 0, 0, 0, 0, 0, 0, 0, 0, 0, 0, 0, 0, 0, 0, 0, 0, 0, 0, 0, 0, 0, 0, 0, 0, 0, 0, 0, 0, 0, 0] := by decide +kernel
theorem row2_bytes : bytesH row2 = [228, 0, 250, 0, 0, 0, 0, 0, 0, 0, 0, 0, 71, 80, 83, 0, 0, 0, 0, 0, 0, 0, 0, 0, 0, 0, 0, 0, 0, 0, 0, 0, 0, 0, 0, 0, 0, 0, 0, 0, 0, 0, 0, 0, 0, 0, 0, 0] := by decide +kernel
theorem row1_wf : row1.wf := ⟨by decide, by decide, by decide, by decide, by decide, by decide, by decide, by decide, by decide, by decide, by decide, by decide, by decide⟩
theorem row2_wf : row2.wf := ⟨by decide, by decide, by decide, by decide, by decide, by decide, by decide, by decide, by decide, by decide, by decide, by decide, by decide⟩

theorem gps_str : strN [71, 80, 83, 0] = ⟨#[71, 80, 83, 0]⟩ := by decide +kernel

attribute [local go_sem ↓] strB_eq eqlS_eq
end Go.Proofs.Ytfnidehbibfclaa
/- Layer 4 (head): what both Parses tell of any bytes, in one form; a row whose bytes are turned one by one. -/
namespace Go.Proofs.Ytfnidehbibfclaa
open Go.ChangeShapes Go.WideShapes Go.ChangeAt Go.RowKit OctM

/-- A packet that has that head alone, bytes in new memory, an error's number. -/
def PQ (w : World) (hd : Hd) (L : Nat) (es : List Nat) (E : Int) (e : Ending) (w' : World) : Prop :=
  ∃ pr cr, e = .returned (.tuple #[pkV hd Xt.zero, .slice pr L cr, .int .i64 E]) ∧ New w.heap.size w' pr L cr (valsN .u8 es) ∧ Below w.heap.size w w'
theorem pq_nil {w w' : World} {E : Int} {e : Ending} (h : TellPost w (.returned (.tuple #[pkV Hd.zero Xt.zero, .slice none 0 0, .int .i64 E])) e w') : PQ w Hd.zero 0 [] E e w' := ⟨none, 0, h.1, New.nil _ _, h.2⟩
theorem pq_ok {w w' : World} {n : Nat} {ds : List Nat} {e : Ending} (h : ParsePost w n ds e w') : PQ w (hdP ds) (n - 48) (ds.drop 48) 0 e w' := by
  obtain ⟨r, rfl, o, l⟩ := h.out
  obtain ⟨p, c, rfl, nw⟩ := own_new o
  exact ⟨p, c, rfl, nw, l⟩

theorem hdZero_wf : Hd.zero.wf := ⟨by decide, by decide, by decide, by decide, by decide, by decide, by decide, by decide, by decide, by decide, by decide, by decide, by decide⟩

/-- What is told of the bytes ds. -/
structure Told (ds : List Nat) (hd : Hd) (L : Nat) (es : List Nat) (E : Int) : Prop where
  wf : hd.wf
  byt : Byt es
  len : es.length = L
  le : L ≤ ds.length
  prog : ∀ (w : World) (p : Option Addr) (c : Nat), Holds w p ds.length c (valsN .u8 ds) → Calls Try.prog 47 #[.slice p ds.length c] w (PQ w hd L es E)
  ref : ∀ (w : World) (p : Option Addr) (c : Nat), Holds w p ds.length c (valsN .u8 ds) → Calls Try.prog 51 #[.slice p ds.length c] w (PQ w hd L es E)

theorem told_short {ds : List Nat} (h : ds.length < 48) : Told ds Hd.zero 0 [] 4 :=
  ⟨hdZero_wf, fun d hd => by simp at hd, rfl, Nat.zero_le _, fun w p c _ => (pparse_short w p _ c h).mono fun _ _ k => pq_nil k, fun w p c _ => (rparse4_short w p _ c h).mono fun _ _ k => pq_nil k⟩
theorem told_form {ds : List Nat} (hy : Byt ds) (h48 : 48 ≤ ds.length) (hn : ds.length ≤ 10000) (hm : ¬ mayH (hdP ds)) : Told ds Hd.zero 0 [] 5 := by
  refine ⟨hdZero_wf, fun d hd => by simp at hd, rfl, Nat.zero_le _, fun w p c hd => (pparse_form w p _ c ds hd hy h48 hn hm).mono fun _ _ k => pq_nil k, fun w p c hd => ?_⟩
  obtain ⟨ad, z0, z1, z2, z3, q3, q6, ve, m7, sa, sb, x4, x5, x6, x7, x8, x9, x10, rfl, I⟩ := headIn hd hy h48 hn
  have v : (hdP ds).ve = ve := by rw [I.eh]
  have b1 : (hdP ds).lp = q6 := by rw [I.eh]
  have b2 : (hdP ds).mo = m7 := by rw [I.eh]
  have e6 := I.e6
  have e7 := I.e7
  have b0 := I.b0
  refine (rparse4_form w ad _ c ds z0 z1 z2 z3 q3 q6 ve m7 sa sb x4 x5 x6 x7 x8 x9 x10 I ?_).mono fun _ _ k => pq_nil k
  unfold mayH at hm
  rw [v, b1, b2] at hm
  omega
theorem told_ok {ds : List Nat} (hy : Byt ds) (h48 : 48 ≤ ds.length) (hn : ds.length ≤ 10000) (hm : mayH (hdP ds)) : Told ds (hdP ds) (ds.length - 48) (ds.drop 48) 0 := by
  refine ⟨hdP_wf hy, byt_drop hy _, List.length_drop, Nat.sub_le _ _, fun w p c hd => (pparse_ok w p _ c ds hd hy h48 hn hm).mono fun _ _ k => pq_ok k, fun w p c hd => ?_⟩
  obtain ⟨ad, z0, z1, z2, z3, q3, q6, ve, m7, sa, sb, x4, x5, x6, x7, x8, x9, x10, rfl, I⟩ := headIn hd hy h48 hn
  have v : (hdP ds).ve = ve := by rw [I.eh]
  refine (rparse4_ok w ad _ c ds z0 z1 z2 z3 q3 q6 ve m7 sa sb x4 x5 x6 x7 x8 x9 x10 I ?_).mono fun _ _ k => pq_ok k
  unfold mayH at hm
  rw [v] at hm
  omega
theorem told_any {ds : List Nat} (hy : Byt ds) (hn : ds.length ≤ 10000) : ∃ hd L es E, Told ds hd L es E := by
  by_cases h48 : 48 ≤ ds.length
  · by_cases hm : mayH (hdP ds)
    · exact ⟨_, _, _, _, told_ok hy h48 hn hm⟩
    · exact ⟨_, _, _, _, told_form hy h48 hn hm⟩
  · exact ⟨_, _, _, _, told_short (by omega)⟩

/-- While the bytes of a row are turned: k of them are; nothing else is. -/
structure Turned (B : Nat) (w wr : World) (p : Option Addr) (L k : Nat) (es : List Nat) : Prop where
  cell : ∀ i, k ≤ i → i < L → ∃ a, p = some a ∧ wr.cell? (a.add i) = some (.int .u8 (es.getD i 0 : Nat)) ∧ wr.frozen? (a.add i) = false
  keep : ∀ j, (∀ a, p = some a → j ≠ a.block) → wr.heap[j]? = w.heap[j]?
  low : Below B w wr
theorem turned_start {B : Nat} {w : World} {p : Option Addr} {L c : Nat} {es : List Nat} (h : New B w p L c (valsN .u8 es)) : Turned B w w p L 0 es := by
  refine ⟨fun i _ hi => ?_, fun _ _ => rfl, Below.refl _ _⟩
  obtain ⟨a, ha, hc⟩ := h.holds.atN hi
  exact ⟨a, ha, hc, h.free a ha i hi⟩
theorem turned_next {B : Nat} {w wr : World} {a : Addr} {L k : Nat} {es : List Nat} (h : Turned B w wr (some a) L k es) (hB : B ≤ a.block) (z : Int) : Turned B w (wr.setCell (a.add k) (.int .u8 z)) (some a) L (k + 1) es := by
  refine ⟨fun i hk hi => ?_, fun j hj => ?_, h.low.setCell (by rw [add_block]; exact hB) _⟩
  · obtain ⟨a', e, hc, hf⟩ := h.cell i (by omega) hi
    cases e
    have ne : a.add k ≠ a.add i := fun e => by
      have e' := congrArg Addr.off e
      rw [add_off, add_off] at e'
      omega
    exact ⟨a, rfl, by rw [World.cell?_setCell_other _ _ _ _ ne]; exact hc, by rw [World.frozen?_setCell]; exact hf⟩
  · rw [Below.heap_setCell _ _ _ _ (by rw [add_block]; exact hj a rfl)]
    exact h.keep j hj
theorem turned_holds {B : Nat} {w wr : World} {p q : Option Addr} {L k n c : Nat} {es : List Nat} {vs : List Value} (h : Turned B w wr p L k es) (hh : Holds w q n c vs) (ap : ∀ a b, p = some a → q = some b → b.block ≠ a.block) : Holds wr q n c vs := by
  refine ⟨hh.len, hh.cap, hh.max, hh.bare, fun i u hu => ?_⟩
  obtain ⟨b, rfl, hc⟩ := hh.cell i u hu
  refine ⟨b, rfl, ?_⟩
  rw [World.cell?_of_block (w := w) (h.keep _ (fun a ha => by rw [add_block]; exact ap a b ha rfl))]
  exact hc
end Go.Proofs.Ytfnidehbibfclaa
