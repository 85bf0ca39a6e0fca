/- Layer 3 (octet): the document's own answers on places and signed numbers, in one form. -/
import Derived.Test.YtpamnephndoefaaOctV
namespace Go.Proofs.Ytpamnephndoefaa
open Go.ChangeShapes Go.WideShapes Go.ChangeAt Go.RowKit OctM

theorem okS_nat {z : Int} (h : okS z) : ∃ s : Nat, z = (s : Int) ∧ 1 ≤ s ∧ s ≤ 8 ∧ z.toNat = s := by
  unfold okS at h
  exact ⟨z.toNat, by omega, by omega, by omega, rfl⟩

theorem rat_all (w : World) (p : Option Addr) (n c : Nat) (ds : List Nat) (x z : Int) (hd : Holds w p n c (valsN .u8 ds)) (hy : Byt ds) (hx : I64 x) (hn : n ≤ 140737488355328) :
    Calls Try.prog 21 #[.slice p n c, .int .i64 x, .int .i64 z] w fun e w' => e = .returned (.tuple #[.int .u64 (atV ds x z : Nat), .bool (decide (inP ds.length x z))]) ∧ w = w' := by
  have ld : ds.length = n := by have := hd.len; rwa [valsN_len] at this
  subst ld
  by_cases h : inP ds.length x z
  · rw [decide_eq_true h, show atV ds x z = numN ((ds.drop x.toNat).take z.toNat) from if_pos h]
    obtain ⟨s, rfl, h1, h8, es⟩ := okS_nat h.1
    obtain ⟨k, rfl⟩ : ∃ k : Nat, x = (k : Int) := ⟨x.toNat, by have := h.2.1; omega⟩
    rw [Int.toNat_natCast, Int.toNat_natCast]
    exact rat_ok w p _ c k s ds hd hy h1 h8 (by have := h.2.2; omega) hn _ rfl
  · rw [decide_eq_false h, show atV ds x z = 0 from if_neg h]
    exact rat_no w p _ c x z hx hn h

theorem rput_all (w : World) (p : Option Addr) (n c : Nat) (ds : List Nat) (x z : Int) (v : Nat) (hd : Holds w p n c (valsN .u8 ds)) (hy : Byt ds) (hx : I64 x) (hn : n ≤ 140737488355328) (hv : v < 18446744073709551616) :
    Calls Try.prog 23 #[.slice p n c, .int .i64 x, .int .i64 z, .int .u64 v] w (RowR w (putD ds x z v) (putE ds x z v)) := by
  have ld : ds.length = n := by have := hd.len; rwa [valsN_len] at this
  subst ld
  by_cases h : okS z ∧ 0 ≤ x
  · obtain ⟨s, rfl, h1, h8, es⟩ := okS_nat h.1
    by_cases f : v < 256 ^ s
    · by_cases g : x + (s : Int) ≤ (ds.length : Int)
      · have e : putE ds x s v = 0 := by unfold putE; rw [if_pos h, Int.toNat_natCast, if_pos f, if_pos g]
        have d : putD ds x s v = ds.take x.toNat ++ digN v s ++ ds.drop (x.toNat + s) := by unfold putD; rw [if_pos e, Int.toNat_natCast]
        rw [e, d]
        obtain ⟨k, rfl⟩ : ∃ k : Nat, x = (k : Int) := ⟨x.toNat, by omega⟩
        rw [Int.toNat_natCast]
        refine (rput_ok w p _ c k s v ds hd hy hn hv h1 h8 f (by omega)).mono fun e w' r => rowR_row ?_ r
        rw [List.length_append, List.length_append, List.length_take, List.length_drop, digN_len]
        omega
      · have e : putE ds x s v = 4 := by unfold putE; rw [if_pos h, Int.toNat_natCast, if_pos f, if_neg g]
        have d : putD ds x s v = [] := by unfold putD; rw [e]; rfl
        rw [e, d]
        exact (rput_short w p _ c x s v hx hn hv h1 h8 h.2 f (by omega)).mono fun e w' r => rowR_nil r
    · have e : putE ds x s v = 20 := by unfold putE; rw [if_pos h, Int.toNat_natCast, if_neg f]
      have d : putD ds x s v = [] := by unfold putD; rw [e]; rfl
      rw [e, d]
      exact (rput_range w p _ c x s v hv h1 h8 h.2 f).mono fun e w' r => rowR_nil r
  · have e : putE ds x z v = 1 := by unfold putE; rw [if_neg h]
    have d : putD ds x z v = [] := by unfold putD; rw [e]; rfl
    rw [e, d]
    exact (rput_arg w p _ c x z v h).mono fun e w' r => rowR_nil r

theorem rsigned_all (w : World) (n : Nat) (z : Int) (hn : n < 18446744073709551616) :
    Calls Try.prog 25 #[.int .u64 n, .int .i64 z] w (TellPost w (.returned (.tuple #[.int .i64 (sgR n z), .int .i64 (sgE n z)]))) := by
  by_cases h : okS z
  · obtain ⟨s, rfl, h1, h8, es⟩ := okS_nat h
    by_cases f : n < 256 ^ s
    · have e : sgE n s = 0 := by unfold sgE; rw [if_pos h, Int.toNat_natCast, if_pos f]
      have d : sgR n s = sgV n s := by unfold sgR; rw [if_pos e, Int.toNat_natCast]
      rw [e, d]
      unfold sgV
      by_cases g : n < halfN s
      · rw [if_pos g]; exact rsigned_low w n s hn h1 h8 g
      · rw [if_neg g]; exact rsigned_high w n s hn h1 h8 f g _ rfl
    · have e : sgE n s = 20 := by unfold sgE; rw [if_pos h, Int.toNat_natCast, if_neg f]
      have d : sgR n s = 0 := by unfold sgR; rw [e]; rfl
      rw [e, d]
      exact rsigned_range w n s hn h1 h8 f
  · have e : sgE n z = 1 := by unfold sgE; rw [if_neg h]
    have d : sgR n z = 0 := by unfold sgR; rw [e]; rfl
    rw [e, d]
    exact rsigned_arg w n z h

theorem runsigned_all (w : World) (n z : Int) (hn : I64 n) :
    Calls Try.prog 27 #[.int .i64 n, .int .i64 z] w (TellPost w (.returned (.tuple #[.int .u64 (unR n z : Nat), .int .i64 (unE n z)]))) := by
  by_cases h : okS z
  · obtain ⟨s, rfl, h1, h8, es⟩ := okS_nat h
    by_cases f : absM n < halfN s
    · have e : unE n s = 0 := by unfold unE; rw [if_pos h, Int.toNat_natCast, if_pos f]
      have d : unR n s = unV n s := by unfold unR; rw [if_pos e, Int.toNat_natCast]
      rw [e, d]
      unfold unV
      by_cases g : n < 0
      · rw [if_pos g]
        refine runsigned_neg w n s hn h1 h8 f g _ ?_
        have a := absM_neg n g
        omega
      · rw [if_neg g]
        have := runsigned_pos w n s hn h1 h8 f (by omega)
        rwa [show (n.toNat : Int) = n by omega]
    · have e : unE n s = 20 := by unfold unE; rw [if_pos h, Int.toNat_natCast, if_neg f]
      have d : unR n s = 0 := by unfold unR; rw [e]; rfl
      rw [e, d]
      by_cases g : absM n < 256 ^ s
      · exact runsigned_half w n s hn h1 h8 g f
      · exact runsigned_range w n s hn h1 h8 g
  · have e : unE n z = 1 := by unfold unE; rw [if_neg h]
    have d : unR n z = 0 := by unfold unR; rw [e]; rfl
    rw [e, d]
    exact runsigned_arg w n z h
end Go.Proofs.Ytpamnephndoefaa
