/- Layer 3 (octet): the program's At. -/
import Derived.Test.YteclcefeipjoeaaOctK
namespace Go.Proofs.Yteclcefeipjoeaa
open Go.ChangeShapes Go.WideShapes Go.ChangeAt Go.RowKit OctM

theorem pat_ok (w : World) (p : Option Addr) (n c at' s : Nat) (ds : List Nat) (hz : Holds w p n c (valsN .u8 ds)) (hb : Byt ds) (h1 : 1 ≤ s) (h8 : s ≤ 8) (hat : at' + s ≤ n) (hn : n ≤ 10000) (v : Nat) (hv : numN ((ds.drop at').take s) = v) :
    Calls Try.prog 42 #[.slice p n c, .int .i64 at', .int .i64 s] w (TellPost w (.returned (.tuple #[.int .u64 v, .bool true]))) := by
  have l := hz.len
  rw [valsN_len] at l
  have cp := hz.cap
  obtain ⟨a, rfl, -⟩ := hz.atN (i := at') (by omega)
  have PC := hz.piece at' (at' + s) (by omega) hat
  rw [show at' + s - at' = s by omega, if_neg (by omega)] at PC
  have PN : Holds w (some (a.add (at' * 1))) s (c - at') (valsN .u8 ((ds.drop at').take s)) := by
    unfold valsN at PC ⊢
    rw [List.map_take, List.map_drop]
    exact PC
  rw [Nat.mul_one] at PN
  have NB := Lib.hid (pread_any w _ s _ _ PN (byt_take (byt_drop hb _) _) h1 h8 v hv)
  have SO := Lib.hid (psize_ok (s : Int) ⟨by omega, by omega⟩)
  have WO : Hid (∀ W, Calls Try.prog 46 #[.slice (some a) n c, .int .i64 at', .int .i64 s] W fun e w' => e = .returned (.bool true) ∧ W = w') := fun W => by
    have := pwithin_any W (some a) n c at' s ⟨by omega, by omega⟩ (by omega)
    rwa [decide_eq_true (by omega)] at this
  have d3 : (at' : Int) ≤ (n : Int) := by omega
  have d5 : (at' : Int) + (s : Int) ≤ (c : Int) := by omega
  have d6 : ¬ c = at' := by omega
  have d7 : (n : Int) ≤ 10000 := by omega
  have d8 : (s : Int) ≤ 8 := by omega
  have E : at' + s - at' = s := by omega
  have d9 : decide ((at' : Int) < 0) = false := by simp
  clear hz hb h1 h8 hat hn hv l cp PC PN
  go_enter Try.func42, Try.ntmps42
  go_wp2_with fail
  refine (SO.out _).mono ?_; rintro e w' ⟨rfl, rfl⟩
  go_wp2_with fail
  refine (WO.out _).mono ?_; rintro e w' ⟨rfl, rfl⟩
  go_wp2_with fail
  refine NB.out.mono ?_; rintro e w' ⟨rfl, L⟩
  have LL := Lib.hid L
  clear L
  go_wp2
  go_ret2
  exact ⟨rfl, LL.out⟩

theorem pat_no (w : World) (p : Option Addr) (n c : Nat) (x z : Int) (hx : I64 x) (hn : n ≤ 10000) (h : ¬ inP n x z) :
    Calls Try.prog 42 #[.slice p n c, .int .i64 x, .int .i64 z] w (TellPost w (.returned (.tuple #[.int .u64 0, .bool false]))) := by
  obtain ⟨x1, x2⟩ := hx
  unfold inP at h
  by_cases s : okS z
  · have SO := Lib.hid (psize_ok z s)
    by_cases c1 : x < 0
    · have e1 : decide (x < 0) = true := by simp; omega
      clear h s hn
      go_enter Try.func42, Try.ntmps42
      go_wp2_with fail
      refine (SO.out _).mono ?_; rintro e w' ⟨rfl, rfl⟩
      go_wp2
      go_ret2
      exact ⟨rfl, Below.refl _ _⟩
    · have e1 : decide (x < 0) = false := by simp; omega
      have c1' : 0 ≤ x := by omega
      have WO : Hid (∀ W, Calls Try.prog 46 #[.slice p n c, .int .i64 x, .int .i64 z] W fun e w' => e = .returned (.bool false) ∧ W = w') := fun W => by
        have := pwithin_any W p n c x z s (by omega)
        rwa [decide_eq_false (fun g => h ⟨s, c1', g⟩)] at this
      clear h s hn c1
      go_enter Try.func42, Try.ntmps42
      go_wp2_with fail
      refine (SO.out _).mono ?_; rintro e w' ⟨rfl, rfl⟩
      go_wp2_with fail
      refine (WO.out _).mono ?_; rintro e w' ⟨rfl, rfl⟩
      go_wp2
      go_ret2
      exact ⟨rfl, Below.refl _ _⟩
  · have SO : Hid (∀ W, Calls Try.prog 43 #[.int .i64 z] W fun e w' => e = .returned (.bool false) ∧ W = w') := fun W => by
      have := pissize_any z W
      rwa [decide_eq_false s] at this
    clear h s hn
    go_enter Try.func42, Try.ntmps42
    go_wp2_with fail
    refine (SO.out _).mono ?_; rintro e w' ⟨rfl, rfl⟩
    go_wp2
    go_ret2
    exact ⟨rfl, Below.refl _ _⟩

theorem pat_any (w : World) (p : Option Addr) (n c : Nat) (ds : List Nat) (x z : Int) (hd : Holds w p n c (valsN .u8 ds)) (hy : Byt ds) (hx : I64 x) (hn : n ≤ 10000) :
    Calls Try.prog 42 #[.slice p n c, .int .i64 x, .int .i64 z] w (TellPost w (.returned (.tuple #[.int .u64 (atV ds x z : Nat), .bool (decide (inP ds.length x z))]))) := by
  have ld : ds.length = n := by have := hd.len; rwa [valsN_len] at this
  subst ld
  by_cases h : inP ds.length x z
  · rw [decide_eq_true h, show atV ds x z = numN ((ds.drop x.toNat).take z.toNat) from if_pos h]
    obtain ⟨s, rfl, h1, h8, es⟩ := okS_nat h.1
    obtain ⟨k, rfl⟩ : ∃ k : Nat, x = (k : Int) := ⟨x.toNat, by have := h.2.1; omega⟩
    rw [Int.toNat_natCast, Int.toNat_natCast]
    exact pat_ok w p _ c k s ds hd hy h1 h8 (by have := h.2.2; omega) hn _ rfl
  · rw [decide_eq_false h, show atV ds x z = 0 from if_neg h]
    exact pat_no w p _ c x z hx hn h
end Go.Proofs.Yteclcefeipjoeaa

