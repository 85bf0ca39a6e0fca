/- Contracts of the document's own answers for layer 3 (octet): bytes in new memory, places. -/
import Derived.Test.YtpamnephndoefaaOctD
namespace Go.Proofs.Ytpamnephndoefaa
open Go.ChangeShapes Go.WideShapes Go.ChangeAt Go.RowKit OctM

/-- New bytes, the call's own. -/
structure OwnPost (w : World) (n : Nat) (ds : List Nat) (e : Ending) (w' : World) : Prop where
  out : ∃ v, e = .returned v ∧ w'.ownsRow w.heap.size 5 1 v n (valsN .u8 ds) ∧ Below w.heap.size w w'

theorem rown_any (w : World) (p : Option Addr) (n c : Nat) (ds : List Nat) (hz : Holds w p n c (valsN .u8 ds)) (hn : n ≤ 140737488355328) :
    Calls Try.prog 10 #[.slice p n c] w (OwnPost w n ds) := by
  obtain ⟨i0, hi, hz0, hz1, hz2⟩ := info_of info8
  have HZ := Lib.hid hz
  have BM : Hid (0 + n ≤ maxLen) := by unfold Hid maxLen; omega
  have BY : Hid ((0 + n) * 1 ≤ 140737488355328) := by unfold Hid; omega
  rcases p with _ | a
  · have c0 := hz.bare rfl
    have n0 : n = 0 := by have := hz.cap; omega
    subst c0 n0
    have fin : Hid (OwnPost w 0 ds (.returned (.slice none 0 0)) w) := by
      have l := hz.len
      rw [valsN_len] at l
      obtain rfl := List.length_eq_zero_iff.1 l
      exact ⟨_, rfl, World.ownsRow_nil w _ _ 1, Below.refl _ _⟩
    clear hz hn
    go_enter Try.func10, Try.ntmps10
    go_wp2_with (at_builtin; refine wpList_append_own_none rfl _ _ 24 rfl w.heap.size 5 i0 1 Try.underlying24 hi _ _ _ rfl (World.ownsRow_nil w _ _ 1) rfl ?_)
    go_wp2
    go_ret
    exact fin.out
  · have cells : Hid (∀ j u, (valsN .u8 ds)[j]? = some u → w.cell? (a.add j) = some u) := fun j u hu => by
      obtain ⟨a', e, h⟩ := hz.cell j u hu
      cases e
      exact h
    have hl : Hid ((valsN .u8 ds).length = n * 1) := by unfold Hid; rw [Nat.mul_one]; exact hz.len
    clear hz hn
    go_enter Try.func10, Try.ntmps10
    go_wp2_with (at_builtin; refine wpList_append_own _ rfl _ _ 24 rfl w.heap.size 5 i0 (.int .u8 0) 1 1 Try.underlying24 hi hz0 hz1 hz2 rfl (by decide) _ 0 [] rfl (World.ownsRow_nil w _ _ 1) a n c (valsN .u8 ds) rfl hl.out cells.out (valsN_one _ _) BM.out BY.out (Nat.le_refl _) ?_)
    intro v' w1 hown hgrow _
    have fin : Hid (OwnPost w n ds (.returned v') w1) := ⟨v', rfl, hown, (Below.refl _ _).grown hgrow (Nat.le_refl _) (fun j hj => by cases hj)⟩
    clear hown hgrow
    go_wp2
    go_ret
    exact fin.out

theorem rat_ok (w : World) (p : Option Addr) (n c at' s : Nat) (ds : List Nat) (hz : Holds w p n c (valsN .u8 ds)) (hb : Byt ds) (h1 : 1 ≤ s) (h8 : s ≤ 8) (hat : at' + s ≤ n) (hn : n ≤ 140737488355328) (v : Nat) (hv : numN ((ds.drop at').take s) = v) :
    Calls Try.prog 21 #[.slice p n c, .int .i64 at', .int .i64 s] w fun e w' => e = .returned (.tuple #[.int .u64 v, .bool true]) ∧ w = w' := by
  have l := hz.len
  rw [valsN_len] at l
  have cp := hz.cap
  obtain ⟨a, rfl, -⟩ := hz.atN (i := at') (by omega)
  have PC := hz.piece at' (at' + s) (by omega) hat
  rw [show at' + s - at' = s by omega, if_neg (by omega)] at PC
  have PN : Holds w (some (a.add (at' * 1))) s (c - at') (valsN .u8 ((ds.drop at').take s)) := by
    unfold valsN at PC ⊢
    rw [List.map_take, List.map_drop]
    exact PC
  rw [Nat.mul_one] at PN
  have NB := Lib.hid (rnumber_any w _ s _ _ PN (byt_take (byt_drop hb _) _) h8 v hv)
  have SO := Lib.hid (rsize_ok (s : Int) ⟨by omega, by omega⟩)
  have d1 : decide ((n : Int) < (at' : Int)) = false := by simp; omega
  have d2 : decide ((n : Int) - (at' : Int) < (s : Int)) = false := by simp; omega
  have d3 : (at' : Int) ≤ (n : Int) := by omega
  have d4 : (s : Int) ≤ (n : Int) - (at' : Int) := by omega
  have d5 : (at' : Int) + (s : Int) ≤ (c : Int) := by omega
  have d6 : ¬ c = at' := by omega
  have d7 : (n : Int) ≤ 140737488355328 := by omega
  have d8 : (s : Int) ≤ 8 := by omega
  have E : at' + s - at' = s := by omega
  have d9 : decide ((at' : Int) < 0) = false := by simp
  have d10 : decide (n < at') = false := by simp; omega
  clear hz hb h1 h8 hat hn hv l cp PC PN
  go_enter Try.func21, Try.ntmps21
  go_wp2_with fail
  refine (SO.out _).mono ?_; rintro e w' ⟨rfl, rfl⟩
  go_wp2_with fail
  refine NB.out.mono ?_; rintro e w' ⟨rfl, rfl⟩
  go_wp2
  go_ret2
  exact ⟨rfl, rfl⟩

theorem rat_no (w : World) (p : Option Addr) (n c : Nat) (x z : Int) (hx : I64 x) (hn : n ≤ 140737488355328) (h : ¬ (okS z ∧ 0 ≤ x ∧ x + z ≤ (n : Int))) :
    Calls Try.prog 21 #[.slice p n c, .int .i64 x, .int .i64 z] w fun e w' => e = .returned (.tuple #[.int .u64 0, .bool false]) ∧ w = w' := by
  obtain ⟨x1, x2⟩ := hx
  have d7 : (n : Int) ≤ 140737488355328 := by omega
  by_cases s : okS z
  · have SO := Lib.hid (rsize_ok z s)
    have s1 : 1 ≤ z := s.1
    have s2 : z ≤ 8 := s.2
    by_cases c1 : x < 0
    · have e1 : decide (x < 0) = true := by simp; omega
      clear h s hn
      go_enter Try.func21, Try.ntmps21
      go_wp2_with fail
      refine (SO.out _).mono ?_; rintro e w' ⟨rfl, rfl⟩
      go_wp2
      go_ret2
      exact ⟨rfl, rfl⟩
    · have e1 : decide (x < 0) = false := by simp; omega
      have c1' : 0 ≤ x := by omega
      by_cases c2 : (n : Int) < x
      · have e2 : decide ((n : Int) < x) = true := by simp; omega
        clear h s hn c1
        go_enter Try.func21, Try.ntmps21
        go_wp2_with fail
        refine (SO.out _).mono ?_; rintro e w' ⟨rfl, rfl⟩
        go_wp2
        go_ret2
        exact ⟨rfl, rfl⟩
      · have e2 : decide ((n : Int) < x) = false := by simp; omega
        have c2' : x ≤ (n : Int) := by omega
        have c3 : (n : Int) - x < z := by
          have : ¬ (x + z ≤ (n : Int)) := fun g => h ⟨s, c1', g⟩
          omega
        have e3 : decide ((n : Int) - x < z) = true := by simp; omega
        clear h s hn c1 c2
        go_enter Try.func21, Try.ntmps21
        go_wp2_with fail
        refine (SO.out _).mono ?_; rintro e w' ⟨rfl, rfl⟩
        go_wp2
        go_ret2
        exact ⟨rfl, rfl⟩
  · have SO := Lib.hid (rsize_no z s)
    clear h s hn
    go_enter Try.func21, Try.ntmps21
    go_wp2_with fail
    refine (SO.out _).mono ?_; rintro e w' ⟨rfl, rfl⟩
    go_wp2
    go_ret2
    exact ⟨rfl, rfl⟩
end Go.Proofs.Ytpamnephndoefaa
