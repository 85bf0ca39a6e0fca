/- Layer 4 (head): the program's Parse. -/
import Derived.Test.YtjjbalgonkphjaaHeadC
namespace Go.Proofs.Ytjjbalgonkphjaa
open Go.ChangeShapes Go.WideShapes Go.ChangeAt Go.RowKit OctM

/-- the numbers of the 48 bytes, in their order; the head that they are. -/
def numP (ds : List Nat) (i : Nat) : Nat := (takT sizesH ds 11).getD i 0
def hdP (ds : List Nat) : Hd := hdOf (numP ds 0) (numP ds 1) (numP ds 2) (numP ds 3) (numP ds 4) (numP ds 5) (numP ds 6) (numP ds 7) (numP ds 8) (numP ds 9) (numP ds 10)
theorem numP_list (ds : List Nat) : takT sizesH ds 11 = [numP ds 0, numP ds 1, numP ds 2, numP ds 3, numP ds 4, numP ds 5, numP ds 6, numP ds 7, numP ds 8, numP ds 9, numP ds 10] := by
  have l := takT_len sizesH ds 11
  unfold numP
  generalize takT sizesH ds 11 = L at *
  obtain ⟨x0, L, rfl⟩ := List.exists_cons_of_length_eq_add_one l
  obtain ⟨x1, L, rfl⟩ := List.exists_cons_of_length_eq_add_one (by simpa using l : L.length = 9 + 1)
  obtain ⟨x2, L, rfl⟩ := List.exists_cons_of_length_eq_add_one (by simpa using l : L.length = 8 + 1)
  obtain ⟨x3, L, rfl⟩ := List.exists_cons_of_length_eq_add_one (by simpa using l : L.length = 7 + 1)
  obtain ⟨x4, L, rfl⟩ := List.exists_cons_of_length_eq_add_one (by simpa using l : L.length = 6 + 1)
  obtain ⟨x5, L, rfl⟩ := List.exists_cons_of_length_eq_add_one (by simpa using l : L.length = 5 + 1)
  obtain ⟨x6, L, rfl⟩ := List.exists_cons_of_length_eq_add_one (by simpa using l : L.length = 4 + 1)
  obtain ⟨x7, L, rfl⟩ := List.exists_cons_of_length_eq_add_one (by simpa using l : L.length = 3 + 1)
  obtain ⟨x8, L, rfl⟩ := List.exists_cons_of_length_eq_add_one (by simpa using l : L.length = 2 + 1)
  obtain ⟨x9, L, rfl⟩ := List.exists_cons_of_length_eq_add_one (by simpa using l : L.length = 1 + 1)
  obtain ⟨x10, L, rfl⟩ := List.exists_cons_of_length_eq_add_one (by simpa using l : L.length = 0 + 1)
  obtain rfl : L = [] := List.length_eq_zero_iff.1 (by simpa using l)
  rfl
theorem numP_lt {ds : List Nat} (hy : Byt ds) (i : Nat) (hi : i < 11) : numP ds i < 256 ^ (sizesH.getD i 0).toNat := take_fit sizesH hy 11 i hi

theorem psizes (w2 : World) : Holds (w2.alloc (.cells #[.int .i64 1, .int .i64 1, .int .i64 1, .int .i64 1, .int .i64 4, .int .i64 4, .int .i64 4, .int .i64 8, .int .i64 8, .int .i64 8, .int .i64 8] 48)) (some ⟨w2.heap.size, 0, none⟩) 11 11 (valsI .i64 sizesH) :=
  blk_holds (cs := #[.int .i64 1, .int .i64 1, .int .i64 1, .int .i64 1, .int .i64 4, .int .i64 4, .int .i64 4, .int .i64 8, .int .i64 8, .int .i64 8, .int .i64 8]) (heap_alloc_new _ _) rfl (by unfold maxLen; omega)

attribute [local go_sem ↓] loadP_eq storeP_eq boxP_eq allocP_eq zeroP_eq zeroP_eq'
theorem pparse_short (w : World) (p : Option Addr) (n c : Nat) (h : n < 48) :
    Calls Try.prog 15 #[.slice p n c] w (TellPost w (.returned (.tuple #[pkV Hd.zero Xt.zero, .slice none 0 0, .int .i64 4]))) := by
  have al := alloc_pk
  have zr := zero_pk
  have NS : Hid ((n : Int) < sumI sizesH) := by unfold Hid; rw [← atT_all sizesH_ok]; show _ < ((atT sizesH 11 : Nat) : Int); rw [sizesH_at]; omega
  have L1 : Hid (Below w.heap.size w (w.alloc (.cells (pkC Hd.zero Xt.zero) 27))) := (Below.refl _ _).alloc (Nat.le_refl _) _
  have B1 : Hid ((w.alloc (.cells (pkC Hd.zero Xt.zero) 27)).heap[w.heap.size]? = some (.cells (pkC Hd.zero Xt.zero) 27 (0, 0))) := heap_alloc_new w _
  have S1 : Hid (w.heap.size < (w.alloc (.cells (pkC Hd.zero Xt.zero) 27)).heap.size) := by unfold Hid; simp
  clear h
  go_enter Try.func15, Try.ntmps15
  go_wp2_with fail
  refine (playout_any _).mono ?_; rintro e w2 ⟨rfl, l⟩
  have W2 : Hid (Below w.heap.size w w2) := L1.out.trans (l.b.mono (Nat.le_of_lt S1.out))
  have B2 : Hid (w2.heap[w.heap.size]? = some (.cells (pkC Hd.zero Xt.zero) 27 (0, 0))) := (l.b.block _ S1.out).trans B1.out
  clear l
  go_wp2_with fail
  refine (ptake_short _ _ p 11 11 n c sizesH (psizes w2) (by omega) sizesH_ok NS.out).mono ?_
  rintro e w3 ⟨rfl, l⟩
  have L23 : Hid (Below w2.heap.size w2 w3) := ((Below.refl _ _).alloc (Nat.le_refl _) _).trans (l.mono (by simp))
  have B3 : Hid (w3.heap[w.heap.size]? = some (.cells (pkC Hd.zero Xt.zero) 27 (0, 0))) := (L23.out.block _ (Array.getElem?_eq_some_iff.1 B2.out).1).trans B2.out
  have FIN : Hid (Below w.heap.size w w3) := W2.out.trans (L23.out.mono W2.out.size)
  have SS := store_same B3.out
  clear l
  go_wp2
  (try simp only [Exit.inBlock, Exit.then])
  refine bodyPost_ret (results_pk3 rfl _ _ w.heap.size _ Xt.zero rfl B3.out) rfl ?_
  exact ⟨rfl, FIN.out⟩

/-- A row of bytes stays where a packet's block is laid anew. -/
theorem own_row {w : World} {B N : Nat} {r : Value} {n : Nat} {vs : List Value} {c old : Array Value} (h : w.ownsRow B 5 1 r n vs) (hg : w.heap[N]? = some (.cells old 27 (0, 0))) (_ho : old.size = 17) : (w.setRow N c).ownsRow B 5 1 r n vs := by
  refine ⟨h.1, ?_⟩
  rcases h.2 with hn | ⟨g, cap, cur, rfl, hb', hg', q⟩
  · exact .inl hn
  · refine .inr ⟨g, cap, cur, rfl, hb', ?_, q⟩
    have ne : g ≠ N := fun e => by subst e; rw [hg'] at hg; simp at hg
    rw [setRow_other _ _ _ _ ne]
    exact hg'

/-- What Parse tells of bytes that have a head. -/
structure ParsePost (w : World) (n : Nat) (ds : List Nat) (e : Ending) (w' : World) : Prop where
  out : ∃ r, e = .returned (.tuple #[pkV (hdP ds) Xt.zero, r, .int .i64 0]) ∧ w'.ownsRow w.heap.size 5 1 r (n - 48) (valsN .u8 (ds.drop 48)) ∧ Below w.heap.size w w'

set_option maxHeartbeats 4000000 in
theorem pparse_form (w : World) (p : Option Addr) (n c : Nat) (ds : List Nat) (hd : Holds w p n c (valsN .u8 ds)) (hy : Byt ds) (h48 : 48 ≤ n) (hn : n ≤ 10000) (hm : ¬ mayH (hdP ds)) :
    Calls Try.prog 15 #[.slice p n c] w (TellPost w (.returned (.tuple #[pkV Hd.zero Xt.zero, .slice none 0 0, .int .i64 5]))) := by
  have al := alloc_pk
  have zr := zero_pk
  have sn := fun w h x => store_new w (pkC Hd.zero Xt.zero) h x rfl
  have HD := Lib.hid hd
  have HY := Lib.hid hy
  have H48 := Lib.hid h48
  have HN := Lib.hid hn
  have DM := Lib.hid (decide_eq_false hm)
  have L1 : Hid (Below w.heap.size w (w.alloc (.cells (pkC Hd.zero Xt.zero) 27))) := (Below.refl _ _).alloc (Nat.le_refl _) _
  have B1 : Hid ((w.alloc (.cells (pkC Hd.zero Xt.zero) 27)).heap[w.heap.size]? = some (.cells (pkC Hd.zero Xt.zero) 27 (0, 0))) := heap_alloc_new w _
  have S1 : Hid (w.heap.size < (w.alloc (.cells (pkC Hd.zero Xt.zero) 27)).heap.size) := by unfold Hid; simp
  clear hd hy h48 hn hm
  go_enter Try.func15, Try.ntmps15
  go_wp2_with fail
  refine (playout_any _).mono ?_; rintro e w2 ⟨rfl, l⟩
  have W2 : Hid (Below w.heap.size w w2) := L1.out.trans (l.b.mono (Nat.le_of_lt S1.out))
  have B2 : Hid (w2.heap[w.heap.size]? = some (.cells (pkC Hd.zero Xt.zero) 27 (0, 0))) := (l.b.block _ S1.out).trans B1.out
  clear l
  go_wp2_with fail
  refine (ptake_ok _ _ p 11 11 n c 48 sizesH ds (psizes w2) ((HD.out.below W2.out).below ((Below.refl _ _).alloc (Nat.le_refl _) _)) HY.out (by omega) HN.out sizesH_ok sizesH_at H48.out).mono ?_
  rintro e w3 ⟨v, r, rfl, ov, orr, l⟩
  have L23 : Hid (Below w2.heap.size w2 w3) := ((Below.refl _ _).alloc (Nat.le_refl _) _).trans (l.mono (by simp))
  have B3 : Hid (w3.heap[w.heap.size]? = some (.cells (pkC Hd.zero Xt.zero) 27 (0, 0))) := (L23.out.block _ (Array.getElem?_eq_some_iff.1 B2.out).1).trans B2.out
  have W3 : Hid (Below w.heap.size w w3) := W2.out.trans (L23.out.mono W2.out.size)
  obtain ⟨pv, cv, rfl, hv⟩ := own_holds ov
  rw [numP_list] at hv
  have HV := Lib.hid hv
  have OR : Hid (w3.ownsRow w.heap.size 5 1 r (n - 48) (valsN .u8 (ds.drop 48))) := own_base orr (by rw [World.size_alloc]; have := W2.out.size; omega)
  clear l ov orr hv
  go_wp2_with fail
  refine (ppacket_any _ pv cv _ _ _ _ _ _ _ _ _ _ _ HV.out (numP_lt HY.out 0 (by omega)) (numP_lt HY.out 1 (by omega)) (numP_lt HY.out 2 (by omega)) (numP_lt HY.out 3 (by omega)) (numP_lt HY.out 4 (by omega)) (numP_lt HY.out 5 (by omega)) (numP_lt HY.out 6 (by omega))).mono ?_
  rintro e w4 ⟨rfl, l⟩
  change Below w3.heap.size w3 w4 at l
  have L34 := Lib.hid l
  have W4 : Hid (Below w.heap.size w (w4.alloc (.cells (pkC (hdP ds) Xt.zero) 27))) := (W3.out.trans (l.mono W3.out.size)).alloc (Nat.le_trans W3.out.size l.size) _
  have L35 : Hid (Below w3.heap.size w3 (w4.alloc (.cells (pkC (hdP ds) Xt.zero) 27))) := l.alloc l.size _
  have LD4 := load_pk (heap_alloc_new w4 (.cells (pkC (hdP ds) Xt.zero) 27))
  clear l
  rw [show hdOf (numP ds 0) (numP ds 1) (numP ds 2) (numP ds 3) (numP ds 4) (numP ds 5) (numP ds 6) (numP ds 7) (numP ds 8) (numP ds 9) (numP ds 10) = hdP ds from rfl]
  go_wp2_with fail
  refine (pmay_any _ (hdP ds) Xt.zero).mono ?_
  rintro e w5 ⟨rfl, l⟩
  have W5 : Hid (Below w.heap.size w w5) := W4.out.trans (l.b.mono W4.out.size)
  have L5 : Hid (Below w3.heap.size w3 w5) := L35.out.trans (l.b.mono L35.out.size)
  have B5 : Hid (w5.heap[w.heap.size]? = some (.cells (pkC Hd.zero Xt.zero) 27 (0, 0))) := (L5.out.block _ (Array.getElem?_eq_some_iff.1 B3.out).1).trans B3.out
  have LD5 := load_pk ((l.b.block _ (by simp)).trans (heap_alloc_new w4 (.cells (pkC (hdP ds) Xt.zero) 27)))
  rw [DM.out]
  clear l LD4
  have SS := store_same B5.out
  go_wp2
  (try simp only [Exit.inBlock, Exit.then])
  refine bodyPost_ret (results_pk3 rfl _ _ w.heap.size _ Xt.zero rfl B5.out) rfl ?_
  exact ⟨rfl, W5.out⟩

set_option maxHeartbeats 4000000 in
theorem pparse_ok (w : World) (p : Option Addr) (n c : Nat) (ds : List Nat) (hd : Holds w p n c (valsN .u8 ds)) (hy : Byt ds) (h48 : 48 ≤ n) (hn : n ≤ 10000) (hm : mayH (hdP ds)) :
    Calls Try.prog 15 #[.slice p n c] w (ParsePost w n ds) := by
  have al := alloc_pk
  have zr := zero_pk
  have sn := fun w h x => store_new w (pkC Hd.zero Xt.zero) h x rfl
  have HD := Lib.hid hd
  have HY := Lib.hid hy
  have H48 := Lib.hid h48
  have HN := Lib.hid hn
  have DM := Lib.hid (decide_eq_true hm)
  have L1 : Hid (Below w.heap.size w (w.alloc (.cells (pkC Hd.zero Xt.zero) 27))) := (Below.refl _ _).alloc (Nat.le_refl _) _
  have B1 : Hid ((w.alloc (.cells (pkC Hd.zero Xt.zero) 27)).heap[w.heap.size]? = some (.cells (pkC Hd.zero Xt.zero) 27 (0, 0))) := heap_alloc_new w _
  have S1 : Hid (w.heap.size < (w.alloc (.cells (pkC Hd.zero Xt.zero) 27)).heap.size) := by unfold Hid; simp
  clear hd hy h48 hn hm
  go_enter Try.func15, Try.ntmps15
  go_wp2_with fail
  refine (playout_any _).mono ?_; rintro e w2 ⟨rfl, l⟩
  have W2 : Hid (Below w.heap.size w w2) := L1.out.trans (l.b.mono (Nat.le_of_lt S1.out))
  have B2 : Hid (w2.heap[w.heap.size]? = some (.cells (pkC Hd.zero Xt.zero) 27 (0, 0))) := (l.b.block _ S1.out).trans B1.out
  clear l
  go_wp2_with fail
  refine (ptake_ok _ _ p 11 11 n c 48 sizesH ds (psizes w2) ((HD.out.below W2.out).below ((Below.refl _ _).alloc (Nat.le_refl _) _)) HY.out (by omega) HN.out sizesH_ok sizesH_at H48.out).mono ?_
  rintro e w3 ⟨v, r, rfl, ov, orr, l⟩
  have L23 : Hid (Below w2.heap.size w2 w3) := ((Below.refl _ _).alloc (Nat.le_refl _) _).trans (l.mono (by simp))
  have B3 : Hid (w3.heap[w.heap.size]? = some (.cells (pkC Hd.zero Xt.zero) 27 (0, 0))) := (L23.out.block _ (Array.getElem?_eq_some_iff.1 B2.out).1).trans B2.out
  have W3 : Hid (Below w.heap.size w w3) := W2.out.trans (L23.out.mono W2.out.size)
  obtain ⟨pv, cv, rfl, hv⟩ := own_holds ov
  rw [numP_list] at hv
  have HV := Lib.hid hv
  have OR : Hid (w3.ownsRow w.heap.size 5 1 r (n - 48) (valsN .u8 (ds.drop 48))) := own_base orr (by rw [World.size_alloc]; have := W2.out.size; omega)
  clear l ov orr hv
  go_wp2_with fail
  refine (ppacket_any _ pv cv _ _ _ _ _ _ _ _ _ _ _ HV.out (numP_lt HY.out 0 (by omega)) (numP_lt HY.out 1 (by omega)) (numP_lt HY.out 2 (by omega)) (numP_lt HY.out 3 (by omega)) (numP_lt HY.out 4 (by omega)) (numP_lt HY.out 5 (by omega)) (numP_lt HY.out 6 (by omega))).mono ?_
  rintro e w4 ⟨rfl, l⟩
  change Below w3.heap.size w3 w4 at l
  have L34 := Lib.hid l
  have W4 : Hid (Below w.heap.size w (w4.alloc (.cells (pkC (hdP ds) Xt.zero) 27))) := (W3.out.trans (l.mono W3.out.size)).alloc (Nat.le_trans W3.out.size l.size) _
  have L35 : Hid (Below w3.heap.size w3 (w4.alloc (.cells (pkC (hdP ds) Xt.zero) 27))) := l.alloc l.size _
  have LD4 := load_pk (heap_alloc_new w4 (.cells (pkC (hdP ds) Xt.zero) 27))
  clear l
  rw [show hdOf (numP ds 0) (numP ds 1) (numP ds 2) (numP ds 3) (numP ds 4) (numP ds 5) (numP ds 6) (numP ds 7) (numP ds 8) (numP ds 9) (numP ds 10) = hdP ds from rfl]
  go_wp2_with fail
  refine (pmay_any _ (hdP ds) Xt.zero).mono ?_
  rintro e w5 ⟨rfl, l⟩
  have W5 : Hid (Below w.heap.size w w5) := W4.out.trans (l.b.mono W4.out.size)
  have L5 : Hid (Below w3.heap.size w3 w5) := L35.out.trans (l.b.mono L35.out.size)
  have B5 : Hid (w5.heap[w.heap.size]? = some (.cells (pkC Hd.zero Xt.zero) 27 (0, 0))) := (L5.out.block _ (Array.getElem?_eq_some_iff.1 B3.out).1).trans B3.out
  have LD5 := load_pk ((l.b.block _ (by simp)).trans (heap_alloc_new w4 (.cells (pkC (hdP ds) Xt.zero) 27)))
  rw [DM.out]
  clear l LD4
  have SS := store_pk (hdP ds) Xt.zero B5.out rfl
  have FIN : Hid (ParsePost w n ds (.returned (.tuple #[pkV (hdP ds) Xt.zero, r, .int .i64 0])) (w5.setRow w.heap.size (pkC (hdP ds) Xt.zero))) :=
    ⟨r, rfl, own_row (own_keep OR.out L5.out) B5.out rfl, Below.setRow W5.out (Nat.le_refl _) _⟩
  have BF : Hid ((w5.setRow w.heap.size (pkC (hdP ds) Xt.zero)).heap[w.heap.size]? = some (.cells (pkC (hdP ds) Xt.zero) 27 (0, 0))) := setRow_heap _ _ _ _ _ _ B5.out
  go_wp2
  (try simp only [Exit.inBlock, Exit.then])
  refine bodyPost_ret (results_pk3 rfl _ _ w.heap.size _ Xt.zero rfl BF.out) rfl ?_
  exact FIN.out
end Go.Proofs.Ytjjbalgonkphjaa
