/- slices.Clone at numbers, bytes.Compare, over rows as we hold them. -/
import Derived.Test.YtpamnephndoefaaOctOrdM
import Derived.Test.YtpamnephndoefaaAppend
import Derived.Lib.BytesEntry
import Derived.WalkSpells
namespace Go.Proofs.Ytpamnephndoefaa
open Go.ChangeShapes Go.WideShapes Go.ChangeAt Go.RowKit OctM

theorem bytes_read {P : Program} {w : World} {p : Option Addr} {n c : Nat} {ds : List Nat} (h : Holds w p n c (valsN .u8 ds)) :
    ∃ b : ByteArray, (Extern.Bytes.bytesOf (.slice p n c)).run P w = .ok b w ∧ b.data.toList = Lib.bytesOf (ds.map fun d : Nat => (d : Int)) := by
  have l := h.len
  rw [valsN_len] at l
  rcases p with _ | a
  · have n0 : n = 0 := by have := h.bare rfl; have := h.cap; omega
    subst n0
    obtain rfl := List.length_eq_zero_iff.1 l
    exact ⟨.empty, rfl, rfl⟩
  · have r := Lib.run_loadBytesX (P := P) w (ds.map fun d : Nat => (d : Int)) a .empty (fun j x hx => by
      have hj : j < n := by
        have := (List.getElem?_eq_some_iff.1 hx).1
        rw [List.length_map] at this
        omega
      obtain ⟨a', e, hc⟩ := h.atN hj
      cases e
      rw [hc]
      rw [List.getElem?_map, List.getElem?_eq_getElem (by omega)] at hx
      injection hx with hx
      rw [← hx, List.getD_eq_getElem?_getD, List.getElem?_eq_getElem (by omega)]
      rfl)
    rw [List.length_map, l] at r
    refine ⟨_, r, ?_⟩
    simp

theorem compare_run {P : Program} {w : World} {p q : Option Addr} {n c m d : Nat} {a b : List Nat} (ha : Holds w p n c (valsN .u8 a)) (hb : Holds w q m d (valsN .u8 b)) (ya : Byt a) (yb : Byt b) :
    (Extern.BytealgCompare.compare #[.slice p n c, .slice q m d]).run P w = .ok (.int .i64 (cmpN a b)) w := by
  obtain ⟨x, rx, ex⟩ := bytes_read (P := P) ha
  obtain ⟨y, ry, ey⟩ := bytes_read (P := P) hb
  change Sem.run P (do pure (goInt (Extern.BytealgCompare.cmp (← Extern.Bytes.bytesOf (.slice p n c)) (← Extern.Bytes.bytesOf (.slice q m d))))) w = _
  simp only [Sem.run_bind, Sem.run_pure, rx, ry, Result.andThen]
  rw [Lib.cmp_eq, ex, ey, cmp_bytes ya yb]
  rfl

theorem compare_any (w : World) (p q : Option Addr) (n c m d : Nat) (a b : List Nat) (r : Int) (ha : Holds w p n c (valsN .u8 a)) (hb : Holds w q m d (valsN .u8 b)) (ya : Byt a) (yb : Byt b) (hr : cmpN a b = r) :
    Calls Try.prog 31 #[.slice p n c, .slice q m d] w fun e w' => e = .returned (.int .i64 r) ∧ w = w' := by
  have R := Lib.hid (compare_run (P := Try.prog) ha hb ya yb)
  rw [hr] at R
  clear ha hb ya yb hr
  go_enter Try.func31, Try.ntmps31
  go_wp2
  rw [run_callFunc_extern Try.func43 (by kernel_rfl) (by kernel_rfl) (by kernel_rfl) (e := Extern.BytealgCompare.compare) (by kernel_rfl), R.out]
  simp only [Result.andThen]
  rw [Oper.upon_value]
  go_wp2
  go_ret
  exact ⟨rfl, rfl⟩

theorem clone64_any (w : World) (a : Addr) (n c : Nat) (xs : List Nat) (h : Holds w (some a) n c (valsN .u64 xs)) (hn : n ≤ 100000) :
    Calls Try.prog 30 #[.slice (some a) n c] w fun e w' => ∃ v, e = .returned v ∧ w'.ownsRow w.heap.size 40 1 v n (valsN .u64 xs) ∧ Below w.heap.size w w' := by
  obtain ⟨i0, hi, hz0, hz1, hz2⟩ := info_of info64
  have q0 : ∀ (w : World) (a : Option Addr) (n c n' c' : Nat), (binOp .eql 23 (.slice a n c) (.slice none n' c')).run Try.prog w = .ok (.bool a.isNone) w := fun w a n c n' c' => Lib.run_eql_slice_nil w _ _ a n c n' c' Try.underlying23
  have HH := Lib.hid h
  have BM : Hid (0 + n ≤ maxLen) := by unfold Hid maxLen; omega
  have BY : Hid ((0 + n) * 8 ≤ 140737488355328) := by unfold Hid; omega
  have HA : Hid (Holds (w.alloc (.cells #[] 40)) (some a) n c (valsN .u64 xs)) := h.below ((Below.refl _ _).alloc (Nat.le_refl _) _)
  have BS : Hid (w.heap.size ≤ (w.alloc (.cells #[] 40)).heap.size) := by unfold Hid; simp
  clear h hn
  go_enter Try.func30, Try.ntmps30
  go_wp2_with (at_builtin; refine append_held rfl _ _ 23 rfl w.heap.size 40 i0 (.int .u64 0) 8 Try.underlying23 hi hz0 hz1 hz2 rfl _ 0 [] rfl (World.ownsRow_made w #[] 0 (Nat.le_refl _) (Nat.zero_le _) rfl) (some a) n c (valsN .u64 xs) rfl HA.out (fun u hu => by obtain ⟨d, _, rfl⟩ := List.mem_map.1 hu; rfl) BM.out BY.out BS.out ?_)
  intro v' w1 o g
  have FIN : Hid (w1.ownsRow w.heap.size 40 1 v' n (valsN .u64 xs) ∧ Below w.heap.size w w1) := by
    refine ⟨by simpa using o, ((Below.refl _ w).alloc (Nat.le_refl _) _).grown g (by simp) (fun j hj => ?_)⟩
    simp [Value.ownBlock] at hj
    omega
  clear o g
  go_wp2
  go_ret
  exact ⟨_, rfl, FIN.out⟩
end Go.Proofs.Ytpamnephndoefaa
