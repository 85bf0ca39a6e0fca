/- Layer 3 (octet): the program's Put. -/
import Derived.Test.YtpamnephndoefaaOctF
namespace Go.Proofs.Ytpamnephndoefaa
open Go.ChangeShapes Go.WideShapes Go.ChangeAt Go.RowKit OctM

theorem pfits_at (w : World) (v s : Nat) (hv : v < 18446744073709551616) (h1 : 1 ≤ s) (h8 : s ≤ 8) (b : Bool) (hb : decide (v < 256 ^ s) = b) :
    Calls Try.prog 32 #[.int .u64 v, .int .i64 s] w fun e w' => e = .returned (.bool b) ∧ w = w' := by rw [← hb]; exact pfits_any w v s hv h1 h8
theorem pwithin_at (w : World) (p : Option Addr) (n c : Nat) (x z : Int) (hz : okS z) (hn : n ≤ 140737488355328) (b : Bool) (hb : decide (x + z ≤ (n : Int)) = b) :
    Calls Try.prog 41 #[.slice p n c, .int .i64 x, .int .i64 z] w fun e w' => e = .returned (.bool b) ∧ w = w' := by rw [← hb]; exact pwithin_any w p n c x z hz hn
theorem psize_at (z : Int) (w : World) (b : Bool) (hb : decide (okS z) = b) : Calls Try.prog 39 #[.int .i64 z] w fun e w' => e = .returned (.bool b) ∧ w = w' := by rw [← hb]; exact pissize_any z w

theorem pput_arg (w : World) (p : Option Addr) (n c : Nat) (x z : Int) (v : Nat) (h : ¬ (okS z ∧ 0 ≤ x)) :
    Calls Try.prog 22 #[.slice p n c, .int .i64 x, .int .i64 z, .int .u64 v] w (TellPost w (.returned (.tuple #[.slice none 0 0, .int .i64 1]))) := by
  by_cases s : okS z
  · have SO := Lib.hid (psize_ok z s)
    have e1 : decide (x < 0) = true := by
      have : ¬ 0 ≤ x := fun g => h ⟨s, g⟩
      simp
      omega
    clear h s
    go_enter Try.func22, Try.ntmps22
    go_wp2_with fail
    refine (SO.out _).mono ?_; rintro e w' ⟨rfl, rfl⟩
    go_wp2
    go_ret2
    exact ⟨rfl, Below.refl _ _⟩
  · have SO := Lib.hid (fun W => psize_at z W false (decide_eq_false s))
    clear h s
    go_enter Try.func22, Try.ntmps22
    go_wp2_with fail
    refine (SO.out _).mono ?_; rintro e w' ⟨rfl, rfl⟩
    go_wp2
    go_ret2
    exact ⟨rfl, Below.refl _ _⟩

theorem pput_range (w : World) (p : Option Addr) (n c : Nat) (x : Int) (s v : Nat) (hv : v < 18446744073709551616) (h1 : 1 ≤ s) (h8 : s ≤ 8) (hx : 0 ≤ x) (h : ¬ v < 256 ^ s) :
    Calls Try.prog 22 #[.slice p n c, .int .i64 x, .int .i64 s, .int .u64 v] w (TellPost w (.returned (.tuple #[.slice none 0 0, .int .i64 20]))) := by
  have SO := Lib.hid (psize_ok (s : Int) ⟨by omega, by omega⟩)
  have FT := Lib.hid (fun W => pfits_at W v s hv h1 h8 false (decide_eq_false h))
  have e1 : decide (x < 0) = false := by simp; omega
  clear h hv h1 h8
  go_enter Try.func22, Try.ntmps22
  go_wp2_with fail
  refine (SO.out _).mono ?_; rintro e w' ⟨rfl, rfl⟩
  go_wp2_with fail
  refine (FT.out _).mono ?_; rintro e w' ⟨rfl, rfl⟩
  go_wp2
  go_ret2
  exact ⟨rfl, Below.refl _ _⟩

theorem pput_short (w : World) (p : Option Addr) (n c : Nat) (x : Int) (s v : Nat) (hn : n ≤ 10000) (hv : v < 18446744073709551616) (h1 : 1 ≤ s) (h8 : s ≤ 8) (hx : 0 ≤ x) (h : v < 256 ^ s) (hw : ¬ x + (s : Int) ≤ (n : Int)) :
    Calls Try.prog 22 #[.slice p n c, .int .i64 x, .int .i64 s, .int .u64 v] w (TellPost w (.returned (.tuple #[.slice none 0 0, .int .i64 4]))) := by
  have SO := Lib.hid (psize_ok (s : Int) ⟨by omega, by omega⟩)
  have FT := Lib.hid (fun W => pfits_at W v s hv h1 h8 true (decide_eq_true h))
  have WI := Lib.hid (fun W => pwithin_at W p n c x s ⟨by omega, by omega⟩ (by omega) false (decide_eq_false hw))
  have e1 : decide (x < 0) = false := by simp; omega
  clear h hv h1 h8 hw hn
  go_enter Try.func22, Try.ntmps22
  go_wp2_with fail
  refine (SO.out _).mono ?_; rintro e w' ⟨rfl, rfl⟩
  go_wp2_with fail
  refine (FT.out _).mono ?_; rintro e w' ⟨rfl, rfl⟩
  go_wp2_with fail
  refine (WI.out _).mono ?_; rintro e w' ⟨rfl, rfl⟩
  go_wp2
  go_ret2
  exact ⟨rfl, Below.refl _ _⟩

/-- A row of the call's own, a place of it written. -/
theorem own_wrote {w1 w2 : World} {B g cap n at' s v : Nat} {cur : Array Value} {ds : List Nat} (hb : B ≤ g) (h1 : n ≤ cap) (h2 : cap ≤ maxLen) (h3 : cur.size = cap * 1) (h4 : cur.toList.take (n * 1) = valsN .u8 ds) (ld : ds.length = n) (hat : at' + s ≤ n)
    (W : Wrote w1 g at' s v cur w2) : w2.ownsRow B 5 1 (.slice (some ⟨g, 0, none⟩) n cap) n (valsN .u8 (ds.take at' ++ digN v s ++ ds.drop (at' + s))) := by
  obtain ⟨cs', hb', hz, hi⟩ := W.row
  refine ⟨?_, .inr ⟨g, cap, cs', rfl, hb, hb', h1, h2, by rw [hz, h3], ?_⟩⟩
  · rw [valsN_len, List.length_append, List.length_append, List.length_take, List.length_drop, digN_len]
    omega
  · apply List.ext_getElem?
    intro i
    rw [Nat.mul_one] at h4 ⊢
    by_cases l : i < n
    · have old := congrArg (fun l : List Value => l[i]?) h4
      simp only [List.getElem?_take, if_pos l, Array.getElem?_toList] at old
      rw [valsN_get (by omega)] at old
      rw [List.getElem?_take, if_pos l, Array.getElem?_toList, hi i, valsN_get (by rw [List.length_append, List.length_append, List.length_take, List.length_drop, digN_len]; omega)]
      simp only [List.getD_eq_getElem?_getD] at old ⊢
      by_cases c1 : i < at'
      · rw [if_neg (by omega), List.append_assoc, List.getElem?_append_left (by rw [List.length_take]; omega), List.getElem?_take, if_pos c1]
        exact old
      · by_cases c2 : i < at' + s
        · rw [if_pos ⟨by omega, c2⟩, List.append_assoc, List.getElem?_append_right (by rw [List.length_take]; omega), List.length_take, Nat.min_eq_left (by omega), List.getElem?_append_left (by rw [digN_len]; omega)]
        · rw [if_neg (by omega), List.getElem?_append_right (by rw [List.length_append, List.length_take, digN_len]; omega), List.length_append, List.length_take, digN_len, Nat.min_eq_left (by omega), List.getElem?_drop, show at' + s + (i - (at' + s)) = i by omega]
          exact old
    · rw [List.getElem?_take, if_neg l, List.getElem?_eq_none (by rw [valsN_len, List.length_append, List.length_append, List.length_take, List.length_drop, digN_len]; omega)]

set_option maxHeartbeats 1600000 in
theorem pput_ok (w : World) (p : Option Addr) (n c at' s v : Nat) (ds : List Nat) (hz : Holds w p n c (valsN .u8 ds)) (hn : n ≤ 10000) (hv : v < 18446744073709551616) (h1 : 1 ≤ s) (h8 : s ≤ 8) (h : v < 256 ^ s) (hat : at' + s ≤ n) :
    Calls Try.prog 22 #[.slice p n c, .int .i64 at', .int .i64 s, .int .u64 v] w (RowPost w n (ds.take at' ++ digN v s ++ ds.drop (at' + s))) := by
  have ld : ds.length = n := by have := hz.len; rwa [valsN_len] at this
  have SO := Lib.hid (psize_ok (s : Int) ⟨by omega, by omega⟩)
  have FT := Lib.hid (fun W => pfits_at W v s hv h1 h8 true (decide_eq_true h))
  have WI := Lib.hid (fun W => pwithin_at W p n c at' s ⟨by omega, by omega⟩ (by omega) true (decide_eq_true (by omega)))
  have CP := Lib.hid (pcopied_any w p n c ds hz (by omega))
  have e1 : decide ((at' : Int) < 0) = false := by simp
  have d1 : (at' : Int) + (s : Int) ≤ (n : Int) := by omega
  have d2 : (n : Int) ≤ 10000 := by omega
  have s1 : (1 : Int) ≤ (s : Int) := by omega
  have s8 : (s : Int) ≤ 8 := by omega
  have E := Lib.hid (show at' + s - at' = s by omega)
  have LD := Lib.hid ld
  have HV := Lib.hid hv
  have H8 := Lib.hid h8
  have HA := Lib.hid hat
  have N1 : Hid (n ≠ 0) := by unfold Hid; omega
  clear h hv h1 h8 hn hat ld hz
  go_enter Try.func22, Try.ntmps22
  go_wp2_with fail
  refine (SO.out _).mono ?_; rintro e w' ⟨rfl, rfl⟩
  go_wp2_with fail
  refine (FT.out _).mono ?_; rintro e w' ⟨rfl, rfl⟩
  go_wp2_with fail
  refine (WI.out _).mono ?_; rintro e w' ⟨rfl, rfl⟩
  go_wp2_with fail
  refine CP.out.mono ?_; rintro e w1 ⟨v1, rfl, ⟨-, ⟨-, n0⟩ | ⟨g, cap, cur, rfl, hb, hg, k1, k2, k3, k4⟩⟩, lo⟩
  · exact absurd n0 N1.out
  have WR := Lib.hid (pwrite_any w1 g at' s (cap - at') v cur hg H8.out (by have := HA.out; omega) HV.out)
  have FIN : Hid (∀ w2, Wrote w1 g at' s v cur w2 → RowPost w n (ds.take at' ++ digN v s ++ ds.drop (at' + s)) (.returned (.tuple #[.slice (some ⟨g, 0, none⟩) n cap, .int .i64 0])) w2) := fun w2 W =>
    ⟨_, rfl, own_wrote hb k1 k2 k3 k4 LD.out HA.out W, lo.grown W.gr lo.size (fun j e => by injection e with e; omega)⟩
  have d5 : (at' : Int) + (s : Int) ≤ (cap : Int) := by omega
  have d6 : ¬ cap = at' := by omega
  have ad : (⟨g, 0, none⟩ : Addr).add at' = ⟨g, at', none⟩ := add_zero' _ _
  clear hb hg k1 k2 k3 k4 lo
  go_wp2_with fail
  rw [E.out]
  refine WR.out.mono ?_; rintro e w2 ⟨⟨u, rfl⟩, gw⟩
  have FF := Lib.hid (FIN.out w2 gw)
  clear gw
  go_wp2
  go_ret2
  exact FF.out

theorem pput_all (w : World) (p : Option Addr) (n c : Nat) (ds : List Nat) (x z : Int) (v : Nat) (hd : Holds w p n c (valsN .u8 ds)) (hx : I64 x) (hn : n ≤ 10000) (hv : v < 18446744073709551616) :
    Calls Try.prog 22 #[.slice p n c, .int .i64 x, .int .i64 z, .int .u64 v] w (RowR w (putD ds x z v) (putE ds x z v)) := by
  have ld : ds.length = n := by have := hd.len; rwa [valsN_len] at this
  subst ld
  by_cases h : okS z ∧ 0 ≤ x
  · obtain ⟨s, rfl, h1, h8, es⟩ := okS_nat h.1
    by_cases f : v < 256 ^ s
    · by_cases g : x + (s : Int) ≤ (ds.length : Int)
      · have e : putE ds x s v = 0 := by unfold putE; rw [if_pos h, Int.toNat_natCast, if_pos f, if_pos g]
        have d : putD ds x s v = ds.take x.toNat ++ digN v s ++ ds.drop (x.toNat + s) := by unfold putD; rw [if_pos e, Int.toNat_natCast]
        rw [e, d]
        obtain ⟨k, rfl⟩ : ∃ k : Nat, x = (k : Int) := ⟨x.toNat, by omega⟩
        rw [Int.toNat_natCast]
        refine (pput_ok w p _ c k s v ds hd hn hv h1 h8 f (by omega)).mono fun e w' r => rowR_row ?_ r
        rw [List.length_append, List.length_append, List.length_take, List.length_drop, digN_len]
        omega
      · have e : putE ds x s v = 4 := by unfold putE; rw [if_pos h, Int.toNat_natCast, if_pos f, if_neg g]
        have d : putD ds x s v = [] := by unfold putD; rw [e]; rfl
        rw [e, d]
        exact (pput_short w p _ c x s v hn hv h1 h8 h.2 f g).mono fun e w' r => rowR_nil r
    · have e : putE ds x s v = 20 := by unfold putE; rw [if_pos h, Int.toNat_natCast, if_neg f]
      have d : putD ds x s v = [] := by unfold putD; rw [e]; rfl
      rw [e, d]
      exact (pput_range w p _ c x s v hv h1 h8 h.2 f).mono fun e w' r => rowR_nil r
  · have e : putE ds x z v = 1 := by unfold putE; rw [if_neg h]
    have d : putD ds x z v = [] := by unfold putD; rw [e]; rfl
    rw [e, d]
    exact (pput_arg w p _ c x z v h).mono fun e w' r => rowR_nil r
end Go.Proofs.Ytpamnephndoefaa
