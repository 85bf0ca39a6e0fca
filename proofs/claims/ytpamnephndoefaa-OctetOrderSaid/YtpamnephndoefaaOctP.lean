/- Contracts of the document's own answers for layer 3 (octet): a number put in its place. -/
import Derived.Test.YtpamnephndoefaaOctS
namespace Go.Proofs.Ytpamnephndoefaa
open Go.ChangeShapes Go.WideShapes Go.ChangeAt Go.RowKit OctM

theorem rput_arg (w : World) (p : Option Addr) (n c : Nat) (x z : Int) (v : Nat) (h : ¬ (okS z ∧ 0 ≤ x)) :
    Calls Try.prog 23 #[.slice p n c, .int .i64 x, .int .i64 z, .int .u64 v] w (TellPost w (.returned (.tuple #[.slice none 0 0, .int .i64 1]))) := by
  have FIN : Hid (TellPost w (.returned (.tuple #[.slice none 0 0, .int .i64 1])) (.returned (.tuple #[.slice none 0 0, .int .i64 1])) w) := ⟨rfl, Below.refl _ _⟩
  by_cases s : okS z
  · have SO := Lib.hid (rsize_ok z s)
    have c1 : x < 0 := by
      have : ¬ 0 ≤ x := fun g => h ⟨s, g⟩
      omega
    have c2 : decide (x < 0) = true := by simp; omega
    clear h s
    go_enter Try.func23, Try.ntmps23
    go_wp2_with fail
    refine (SO.out _).mono ?_; rintro e w' ⟨rfl, rfl⟩
    go_wp2
    go_ret2
    exact FIN.out
  · have SO := Lib.hid (rsize_no z s)
    clear h s
    go_enter Try.func23, Try.ntmps23
    go_wp2_with fail
    refine (SO.out _).mono ?_; rintro e w' ⟨rfl, rfl⟩
    go_wp2
    go_ret2
    exact FIN.out

theorem rput_range (w : World) (p : Option Addr) (n c : Nat) (x : Int) (s v : Nat) (hv : v < 18446744073709551616) (h1 : 1 ≤ s) (h8 : s ≤ 8) (hx : 0 ≤ x) (h : ¬ v < 256 ^ s) :
    Calls Try.prog 23 #[.slice p n c, .int .i64 x, .int .i64 s, .int .u64 v] w (TellPost w (.returned (.tuple #[.slice none 0 0, .int .i64 20]))) := by
  have SO := Lib.hid (rsize_ok (s : Int) ⟨by omega, by omega⟩)
  have DG := rdigits_any w v s hv h1 h8
  replace DG := Lib.hid DG
  have hf : Hid (decide (v < 256 ^ s) = false) := by unfold Hid; simp; omega
  have c2 : decide (x < 0) = false := by simp; omega
  clear h hv h1 h8
  go_enter Try.func23, Try.ntmps23
  go_wp2_with fail
  refine (SO.out _).mono ?_; rintro e w' ⟨rfl, rfl⟩
  go_wp2_with fail
  refine DG.out.mono ?_; rintro e w' ⟨cs, rfl, hb, hc, hl⟩
  rw [hf.out]
  have FIN : Hid (TellPost w (.returned (.tuple #[.slice none 0 0, .int .i64 20])) (.returned (.tuple #[.slice none 0 0, .int .i64 20])) w') := ⟨rfl, hl⟩
  clear hb hc hl
  go_wp2
  go_ret2
  exact FIN.out

theorem rput_short (w : World) (p : Option Addr) (n c : Nat) (x : Int) (s v : Nat) (hi : I64 x) (hn : n ≤ 140737488355328) (hv : v < 18446744073709551616) (h1 : 1 ≤ s) (h8 : s ≤ 8) (hx : 0 ≤ x) (h : v < 256 ^ s) (hs : (n : Int) < x + s) :
    Calls Try.prog 23 #[.slice p n c, .int .i64 x, .int .i64 s, .int .u64 v] w (TellPost w (.returned (.tuple #[.slice none 0 0, .int .i64 4]))) := by
  have SO := Lib.hid (rsize_ok (s : Int) ⟨by omega, by omega⟩)
  have DG := rdigits_any w v s hv h1 h8
  replace DG := Lib.hid DG
  have AT := Lib.hid (fun w => rat_no w p n c x (s : Int) hi hn (by rintro ⟨-, -, g⟩; omega))
  have hf : Hid (decide (v < 256 ^ s) = true) := by unfold Hid; simp; omega
  have c2 : decide (x < 0) = false := by simp; omega
  clear h hv h1 h8 hs hn
  go_enter Try.func23, Try.ntmps23
  go_wp2_with fail
  refine (SO.out _).mono ?_; rintro e w' ⟨rfl, rfl⟩
  go_wp2_with fail
  refine DG.out.mono ?_; rintro e w' ⟨cs, rfl, hb, hc, hl⟩
  rw [hf.out]
  have FIN : Hid (TellPost w (.returned (.tuple #[.slice none 0 0, .int .i64 4])) (.returned (.tuple #[.slice none 0 0, .int .i64 4])) w') := ⟨rfl, hl⟩
  clear hb hc hl
  go_wp2_with fail
  refine (AT.out _).mono ?_; rintro e w' ⟨rfl, rfl⟩
  go_wp2
  go_ret2
  exact FIN.out

/-- What Put leaves: new bytes, the call's own. -/
structure RowPost (w : World) (n : Nat) (ds : List Nat) (e : Ending) (w' : World) : Prop where
  out : ∃ v, e = .returned (.tuple #[v, .int .i64 0]) ∧ w'.ownsRow w.heap.size 5 1 v n (valsN .u8 ds) ∧ Below w.heap.size w w'

theorem holdsN_take {w : World} {p : Option Addr} {n c k : Nat} {ds : List Nat} (h : Holds w p n c (valsN .u8 ds)) (hk : k ≤ n) : Holds w p k c (valsN .u8 (ds.take k)) := by
  refine ⟨?_, by have := h.cap; omega, h.max, h.bare, fun i u hu => ?_⟩
  · have := h.len
    rw [valsN_len] at this ⊢
    rw [List.length_take]
    omega
  · refine h.cell i u ?_
    unfold valsN at hu ⊢
    rw [List.map_take, List.getElem?_take] at hu
    split at hu
    · exact hu
    · cases hu
theorem holdsN_drop {w : World} {a : Addr} {n c k : Nat} {ds : List Nat} (h : Holds w (some a) n c (valsN .u8 ds)) : ∀ j u, (valsN .u8 (ds.drop k))[j]? = some u → w.cell? ((a.add k).add j) = some u := by
  intro j u hu
  unfold valsN at hu
  rw [List.map_drop, List.getElem?_drop] at hu
  obtain ⟨a', e, hc⟩ := h.cell _ _ hu
  cases e
  rw [add_add]
  exact hc

set_option maxHeartbeats 1600000 in
theorem rput_ok (w : World) (p : Option Addr) (n c at' s v : Nat) (ds : List Nat) (hz : Holds w p n c (valsN .u8 ds)) (hy : Byt ds) (hn : n ≤ 140737488355328) (hv : v < 18446744073709551616) (h1 : 1 ≤ s) (h8 : s ≤ 8) (h : v < 256 ^ s) (hat : at' + s ≤ n) :
    Calls Try.prog 23 #[.slice p n c, .int .i64 at', .int .i64 s, .int .u64 v] w (RowPost w n (ds.take at' ++ digN v s ++ ds.drop (at' + s))) := by
  obtain ⟨i0, hi, hz0, hz1, hz2⟩ := info_of info8
  have l := hz.len
  rw [valsN_len] at l
  have cp := hz.cap
  obtain ⟨a, rfl, -⟩ := hz.atN (i := at') (by omega)
  have HZ := Lib.hid hz
  have SO := Lib.hid (rsize_ok (s : Int) ⟨by omega, by omega⟩)
  have DG := rdigits_any w v s hv h1 h8
  replace DG := Lib.hid DG
  have AT := Lib.hid (fun (w' : World) (hb : Below w.heap.size w w') => rat_ok w' (some a) n c at' s ds (hz.below hb) hy h1 h8 hat hn _ rfl)
  have OW := Lib.hid (fun (w' : World) (hb : Below w.heap.size w w') => rown_any w' (some a) at' c (ds.take at') (holdsN_take (hz.below hb) (by omega)) (by omega))
  have hf : Hid (decide (v < 256 ^ s) = true) := by unfold Hid; simp; omega
  have d2 : decide ((at' : Int) < 0) = false := by simp
  have d5 : (at' : Int) + (s : Int) ≤ (n : Int) := by omega
  have d6 : (n : Int) ≤ (c : Int) := by omega
  have d7 : (n : Int) ≤ 140737488355328 := by omega
  have s1 : (1 : Int) ≤ (s : Int) := by omega
  have s8 : (s : Int) ≤ 8 := by omega
  have B1 : Hid (at' + s ≤ maxLen) := by unfold Hid maxLen; omega
  have B2 : Hid ((at' + s) * 1 ≤ 140737488355328) := by unfold Hid; omega
  have B3 : Hid (at' + s + (n - (at' + s)) ≤ maxLen) := by unfold Hid maxLen; omega
  have B4 : Hid ((at' + s + (n - (at' + s))) * 1 ≤ 140737488355328) := by unfold Hid; omega
  have L1 : Hid ((valsN .u8 (digN v s)).length = s * 1) := by unfold Hid; rw [valsN_len, digN_len, Nat.mul_one]
  have L2 : Hid ((valsN .u8 (ds.drop (at' + s))).length = (n - (at' + s)) * 1) := by unfold Hid; rw [valsN_len, List.length_drop, Nat.mul_one, l]
  have L3 : Hid (at' + s + (n - (at' + s)) = n) := by unfold Hid; omega
  have E0 : at' + s - at' = s := by omega
  have EZ : Hid (c = at' + s → ds.drop (at' + s) = []) := fun e => List.drop_eq_nil_of_le (by omega)
  clear hz hy hn hv h1 h8 h hat l cp
  go_enter Try.func23, Try.ntmps23
  go_wp2_with fail
  refine (SO.out _).mono ?_; rintro e w' ⟨rfl, rfl⟩
  go_wp2_with fail
  refine DG.out.mono ?_; rintro e w1 ⟨cs, rfl, hb, hc, hl⟩
  rw [hf.out]
  have HB := Lib.hid hb
  have HC := Lib.hid hc
  have HL := Lib.hid hl
  clear hb hc
  go_wp2_with fail
  refine (AT.out _ HL.out).mono ?_; rintro e w' ⟨rfl, rfl⟩
  go_wp2_with fail
  refine (OW.out _ HL.out).mono ?_; rintro e w2 ⟨v1, rfl, o1, l1⟩
  have l2 : Below w.heap.size w w2 := hl.trans (l1.mono hl.size)
  have O1 : Hid (w2.ownsRow w.heap.size 5 1 v1 at' (valsN .u8 (ds.take at'))) := own_base o1 hl.size
  have D1 : Hid (∀ j u, (valsN .u8 (digN v s))[j]? = some u → w2.cell? ((⟨w.heap.size, 0, none⟩ : Addr).add j) = some u) := by
    intro j u hu
    have hs : w.heap.size < w1.heap.size := (Array.getElem?_eq_some_iff.1 HB.out).1
    rw [add_zero', l1.cell (p := ⟨w.heap.size, j, none⟩) hs, blk_cell HB.out, ← Array.getElem?_toList, HC.out]
    exact hu
  have L2' := Lib.hid l2
  have S2 : Hid (w.heap.size ≤ w2.heap.size) := l2.size
  clear hl o1 l1 l2
  go_wp2_with (at_builtin; refine wpList_append_own _ rfl _ _ 24 rfl w.heap.size 5 i0 (.int .u8 0) 1 1 Try.underlying24 hi hz0 hz1 hz2 rfl (by decide) _ _ _ rfl O1.out ⟨w.heap.size, 0, none⟩ s s (valsN .u8 (digN v s)) rfl L1.out D1.out (valsN_one _ _) B1.out B2.out S2.out ?_)
  intro v2 w3 o2 g2 _
  have l3 : Below w.heap.size w w3 := L2'.out.grown g2 S2.out (fun j hj => (World.ownsRow.lt O1.out j hj).1)
  have O2 := Lib.hid o2
  have D2 := Lib.hid (holdsN_drop (HZ.out.below l3) (k := at' + s))
  have L3' := Lib.hid l3
  have S3 : Hid (w.heap.size ≤ w3.heap.size) := l3.size
  clear o2 g2 l3
  by_cases cc : c = at' + s
  · have D3 : Hid (∀ j u, (valsN .u8 (ds.drop (at' + s)))[j]? = some u → w3.cell? (a.add j) = some u) := by
      intro j u hu
      rw [EZ.out cc] at hu
      simp [valsN] at hu
    go_wp2_with (at_builtin; refine wpList_append_own _ rfl _ _ 24 rfl w.heap.size 5 i0 (.int .u8 0) 1 1 Try.underlying24 hi hz0 hz1 hz2 rfl (by decide) _ _ _ rfl O2.out (a) (n - (at' + s)) _ (valsN .u8 (ds.drop (at' + s))) rfl L2.out D3.out (valsN_one _ _) B3.out B4.out S3.out ?_)
    intro v3 w4 o3 g3 _
    have FIN : Hid (RowPost w n (ds.take at' ++ digN v s ++ ds.drop (at' + s)) (.returned (.tuple #[v3, .int .i64 0])) w4) := by
      refine ⟨v3, rfl, ?_, L3'.out.grown g3 S3.out (fun j hj => (World.ownsRow.lt O2.out j hj).1)⟩
      rw [L3.out] at o3
      rw [valsN_append, valsN_append, List.append_assoc]
      exact o3
    clear o3 g3
    go_wp2
    go_ret2
    exact FIN.out
  · have cc' : ¬ at' + s = c := fun e => cc e.symm
    go_wp2_with (at_builtin; refine wpList_append_own _ rfl _ _ 24 rfl w.heap.size 5 i0 (.int .u8 0) 1 1 Try.underlying24 hi hz0 hz1 hz2 rfl (by decide) _ _ _ rfl O2.out (a.add (at' + s)) (n - (at' + s)) _ (valsN .u8 (ds.drop (at' + s))) rfl L2.out D2.out (valsN_one _ _) B3.out B4.out S3.out ?_)
    intro v3 w4 o3 g3 _
    have FIN : Hid (RowPost w n (ds.take at' ++ digN v s ++ ds.drop (at' + s)) (.returned (.tuple #[v3, .int .i64 0])) w4) := by
      refine ⟨v3, rfl, ?_, L3'.out.grown g3 S3.out (fun j hj => (World.ownsRow.lt O2.out j hj).1)⟩
      rw [L3.out] at o3
      rw [valsN_append, valsN_append, List.append_assoc]
      exact o3
    clear o3 g3
    go_wp2
    go_ret2
    exact FIN.out
end Go.Proofs.Ytpamnephndoefaa
