/- The walk of FixRest: a division with a rest, in 128 bits. -/
import Derived.Test.YtocfbkkgcbconaaFixS
import Derived.Shelf.Spec.BitsCarry
namespace Go.Proofs.Ytocfbkkgcbconaa
open Go.ChangeShapes Go.WideShapes Go.ChangeAt Go.RowKit

theorem sub64_of (x y b d o : Nat) (hb : b ≤ 1) (hd : (x + 18446744073709551616 - y - b) % 18446744073709551616 = d) (ho : (if x < y + b then 1 else 0) = o) (w : World) :
    (callFunc 30 #[.int .u64 x, .int .u64 y, .int .u64 b]).run Try.prog w = .ok (.value (.tuple #[.int .u64 d, .int .u64 o])) w := by
  rw [run_callFunc_extern Try.func30 (by kernel_rfl) (by kernel_rfl) (by kernel_rfl) (e := sub64Entry) (by kernel_rfl), run_sub64 x y b hb, hd, ho]
  rfl

/-- Two words of a product that goes round 2^128: plain arithmetic by the signs. -/
theorem wide_pp (X Y p : Int) (hp : p = X * Y) : X * Y = p ∧ (X - 18446744073709551616) * Y = p - 18446744073709551616 * Y ∧ X * (Y - 18446744073709551616) = p - 18446744073709551616 * X ∧ (X - 18446744073709551616) * (Y - 18446744073709551616) = p - 18446744073709551616 * X - 18446744073709551616 * Y + 340282366920938463463374607431768211456 := by
  subst hp
  refine ⟨rfl, ?_, ?_, ?_⟩
  · rw [Int.sub_mul]
  · rw [Int.mul_sub]; omega
  · rw [Int.sub_mul, Int.mul_sub]; omega

set_option maxHeartbeats 2000000 in
/-- What the law's own closure answers: a product, in two words that go round 2^128. -/
theorem wide_any (x y : Int) (hx : I64 x) (hy : I64 y) (h l : Nat) (eh : x * y % 340282366920938463463374607431768211456 / 18446744073709551616 = (h : Int)) (el : x * y % 18446744073709551616 = (l : Int)) (w : World) :
    Calls Try.prog 28 #[.int .i64 x, .int .i64 y] w fun e w' => e = .returned (.tuple #[.int .u64 h, .int .u64 l]) ∧ w = w' := by
  obtain ⟨ux, hux⟩ : ∃ ux : Nat, x % 18446744073709551616 = (ux : Int) := ⟨(x % 18446744073709551616).toNat, by omega⟩
  obtain ⟨uy, huy⟩ : ∃ uy : Nat, y % 18446744073709551616 = (uy : Int) := ⟨(y % 18446744073709551616).toNat, by omega⟩
  obtain ⟨ph, hph⟩ : ∃ ph, ux * uy / 18446744073709551616 = ph := ⟨_, rfl⟩
  obtain ⟨pl, hpl⟩ : ∃ pl, ux * uy % 18446744073709551616 = pl := ⟨_, rfl⟩
  obtain ⟨pp, hpp⟩ : ∃ pp : Nat, ux * uy = pp := ⟨_, rfl⟩
  have UX : ux < 18446744073709551616 := by omega
  have UY : uy < 18446744073709551616 := by omega
  have PB : pp < 340282366920938463463374607431768211456 := by
    have : ux * uy ≤ 18446744073709551615 * 18446744073709551615 := Nat.mul_le_mul (by omega) (by omega)
    omega
  have sgn := wide_pp ux uy pp (by rw [← hpp]; simp)
  have e1 : IntKind.u64.wrap x = (ux : Int) := by rw [IntKind.wrap_u64, hux]
  have e2 : IntKind.u64.wrap y = (uy : Int) := by rw [IntKind.wrap_u64, huy]
  have PH : Hid (ux * uy / 18446744073709551616 = ph) := hph
  have PL : Hid (ux * uy % 18446744073709551616 = pl) := hpl
  have HUX : Hid (ux < 18446744073709551616) := UX
  have HUY : Hid (uy < 18446744073709551616) := UY
  rw [hpp] at hph hpl
  unfold I64 at hx hy
  by_cases cx : x < 0
  · have X : x = ux - 18446744073709551616 := by omega
    by_cases cy : y < 0
    · have Y : y = uy - 18446744073709551616 := by omega
      have E : x * y = pp - 18446744073709551616 * ux - 18446744073709551616 * uy + 340282366920938463463374607431768211456 := by rw [X, Y]; exact sgn.2.2.2
      rw [E] at eh el
      have L : Hid (pl = l) := by unfold Hid; omega
      obtain ⟨k, hk⟩ : ∃ k : Nat, ((ph : Int) - (uy : Int)) % 18446744073709551616 = (k : Int) := ⟨(((ph : Int) - (uy : Int)) % 18446744073709551616).toNat, by omega⟩
      have K : IntKind.u64.wrap ((ph : Int) - (uy : Int)) = (k : Int) := by rw [IntKind.wrap_u64, hk]
      obtain ⟨m, hm⟩ : ∃ m : Nat, ((k : Int) - (ux : Int)) % 18446744073709551616 = (m : Int) := ⟨(((k : Int) - (ux : Int)) % 18446744073709551616).toNat, by omega⟩
      have M : IntKind.u64.wrap ((k : Int) - (ux : Int)) = (m : Int) := by rw [IntKind.wrap_u64, hm]
      have H : Hid (m = h) := by unfold Hid; omega
      clear PB eh el E sgn hux huy hph hpl hpp X Y UX UY hk hm
      go_enter Try.func28, Try.ntmps28
      go_wp2_with fail
      refine (mul64_of ux uy ph pl HUX.out HUY.out PH.out PL.out _).mono ?_; rintro e w' ⟨rfl, rfl⟩
      go_wp2
      go_ret2
      exact ⟨ret_pair (congrArg Int.ofNat H.out) (congrArg Int.ofNat L.out), rfl⟩
    · have Y : y = uy := by omega
      have E : x * y = pp - 18446744073709551616 * uy := by rw [X, Y]; exact sgn.2.1
      rw [E] at eh el
      have L : Hid (pl = l) := by unfold Hid; omega
      obtain ⟨k, hk⟩ : ∃ k : Nat, ((ph : Int) - (uy : Int)) % 18446744073709551616 = (k : Int) := ⟨(((ph : Int) - (uy : Int)) % 18446744073709551616).toNat, by omega⟩
      have K : IntKind.u64.wrap ((ph : Int) - (uy : Int)) = (k : Int) := by rw [IntKind.wrap_u64, hk]
      have H : Hid (k = h) := by unfold Hid; omega
      clear PB eh el E sgn hux huy hph hpl hpp X Y UX UY hk
      have cy := (by omega : 0 ≤ y)
      go_enter Try.func28, Try.ntmps28
      go_wp2_with fail
      refine (mul64_of ux uy ph pl HUX.out HUY.out PH.out PL.out _).mono ?_; rintro e w' ⟨rfl, rfl⟩
      go_wp2
      go_ret2
      exact ⟨ret_pair (congrArg Int.ofNat H.out) (congrArg Int.ofNat L.out), rfl⟩
  · have X : x = ux := by omega
    by_cases cy : y < 0
    · have Y : y = uy - 18446744073709551616 := by omega
      have E : x * y = pp - 18446744073709551616 * ux := by rw [X, Y]; exact sgn.2.2.1
      rw [E] at eh el
      have L : Hid (pl = l) := by unfold Hid; omega
      obtain ⟨m, hm⟩ : ∃ m : Nat, ((ph : Int) - (ux : Int)) % 18446744073709551616 = (m : Int) := ⟨(((ph : Int) - (ux : Int)) % 18446744073709551616).toNat, by omega⟩
      have M : IntKind.u64.wrap ((ph : Int) - (ux : Int)) = (m : Int) := by rw [IntKind.wrap_u64, hm]
      have H : Hid (m = h) := by unfold Hid; omega
      clear PB eh el E sgn hux huy hph hpl hpp X Y UX UY hm
      have cx := (by omega : 0 ≤ x)
      go_enter Try.func28, Try.ntmps28
      go_wp2_with fail
      refine (mul64_of ux uy ph pl HUX.out HUY.out PH.out PL.out _).mono ?_; rintro e w' ⟨rfl, rfl⟩
      go_wp2
      go_ret2
      exact ⟨ret_pair (congrArg Int.ofNat H.out) (congrArg Int.ofNat L.out), rfl⟩
    · have Y : y = uy := by omega
      have E : x * y = pp := by rw [X, Y]; exact sgn.1
      rw [E] at eh el
      have L : Hid (pl = l) := by unfold Hid; omega
      have H : Hid (ph = h) := by unfold Hid; omega
      clear PB eh el E sgn hux huy hph hpl hpp X Y UX UY
      have cx := (by omega : 0 ≤ x)
      have cy := (by omega : 0 ≤ y)
      go_enter Try.func28, Try.ntmps28
      go_wp2_with fail
      refine (mul64_of ux uy ph pl HUX.out HUY.out PH.out PL.out _).mono ?_; rintro e w' ⟨rfl, rfl⟩
      go_wp2
      go_ret2
      exact ⟨ret_pair (congrArg Int.ofNat H.out) (congrArg Int.ofNat L.out), rfl⟩
end Go.Proofs.Ytocfbkkgcbconaa
