/- Contracts of the document's own answers for layer 2 (stamp): stamps. -/
import Derived.Test.YtdaioclpkkpheaaStampR
namespace Go.Proofs.Ytdaioclpkkpheaa
open Go.ChangeShapes Go.WideShapes Go.ChangeAt Go.RowKit StampM

set_option maxHeartbeats 1600000 in
theorem ref_nsstamp_any (ns : Int) (h : I64 ns) (w : World) :
    Calls Try.prog 17 #[.int .i64 ns] w fun e w' => e = .returned (.int .u64 (stampN ns : Nat)) ∧ w = w' := by
  obtain ⟨s, hs⟩ : ∃ s, secs ns = s := ⟨_, rfl⟩
  obtain ⟨r, hr⟩ : ∃ r, over ns = r := ⟨_, rfl⟩
  have sb := secs_in ns h.1 h.2
  have r1 := over_lt ns
  rw [hs] at sb
  rw [hr] at r1
  obtain ⟨s1, s2⟩ := sb
  obtain ⟨e, o, he, ho, -, ob, -, -⟩ := ref_off s s1 s2
  obtain ⟨q, t, p, Q, T, qb, pb, hp, cs⟩ := ref_parts r r1
  have V : stampN ns = o * 4294967296 + p := by unfold stampN; rw [hs, hr, ho, ← hp]
  have fin : Hid ((o : Int) * 4294967296 + (p : Int) = (stampN ns : Nat)) := by unfold Hid; rw [V]; omega
  have ob' : (o : Int) < 4294967296 := by omega
  have qb' : (q : Int) < 4294967296 := by omega
  have pb' : (p : Int) < 4294967296 := by omega
  have r1' : (r : Int) < 1000000000 := by omega
  replace hs := Lib.hid hs
  replace hr := Lib.hid hr
  replace h := Lib.hid h
  replace he := Lib.hid he
  replace ho := Lib.hid ho
  replace s1 := Lib.hid s1
  replace s2 := Lib.hid s2
  clear V hp
  rcases cs with ⟨c, c2⟩ | ⟨c, c2⟩
  · obtain ⟨z, hz⟩ : ∃ z : Int, z = (t : Int) := ⟨_, rfl⟩
    rw [← hz] at T
    have T0 : z ≤ 0 := by omega
    have T1 : decide (0 < z) = false := by simp; omega
    rw [← c2] at fin
    clear c c2 pb' hz ob qb pb r1
    go_enter Try.func17, Try.ntmps17
    go_wp2_with fail
    refine (parts_any ns s r hs.out hr.out h.out _).mono ?_; rintro x w' ⟨rfl, rfl⟩
    go_wp2_with fail
    refine (era_any s e o he.out ho.out s1.out s2.out _).mono ?_; rintro x w' ⟨rfl, rfl⟩
    go_wp2
    go_ret
    exact ⟨ret_int fin.out, rfl⟩
  · have c' : 0 < (t : Int) := by omega
    have T1 : decide (0 < (t : Int)) = true := by simp; omega
    have c3 : (q : Int) + 1 = (p : Int) := by omega
    clear c2 c ob' qb' pb' r1'
    go_enter Try.func17, Try.ntmps17
    go_wp2_with fail
    refine (parts_any ns s r hs.out hr.out h.out _).mono ?_; rintro x w' ⟨rfl, rfl⟩
    go_wp2_with fail
    refine (era_any s e o he.out ho.out s1.out s2.out _).mono ?_; rintro x w' ⟨rfl, rfl⟩
    go_wp2
    go_ret
    exact ⟨ret_int fin.out, rfl⟩
end Go.Proofs.Ytdaioclpkkpheaa
