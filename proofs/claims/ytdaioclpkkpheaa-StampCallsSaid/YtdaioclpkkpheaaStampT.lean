/- Contracts of the document's own answers for layer 2 (stamp): dates. -/
import Derived.Test.YtdaioclpkkpheaaStampR
namespace Go.Proofs.Ytdaioclpkkpheaa
open Go.ChangeShapes Go.WideShapes Go.ChangeAt Go.RowKit StampM

set_option maxRecDepth 100000 in
set_option maxHeartbeats 1600000 in
theorem ref_nsdate_any (ns : Int) (h : I64 ns) (w : World) :
    Calls Try.prog 19 #[.int .i64 ns] w fun e w' => e = .returned (dateV ns) ∧ Out w w' := by
  obtain ⟨s, hs⟩ : ∃ s, secs ns = s := ⟨_, rfl⟩
  obtain ⟨r, hr⟩ : ∃ r, over ns = r := ⟨_, rfl⟩
  have sb := secs_in ns h.1 h.2
  have r1 := over_lt ns
  rw [hs] at sb
  rw [hr] at r1
  obtain ⟨s1, s2⟩ := sb
  obtain ⟨e, o, he, ho, -, ob, e1, e2⟩ := ref_off s s1 s2
  obtain ⟨q, t, hq, ht, qb, -, cs⟩ := frac_parts ns r hr
  have F1 : Hid (e = eraN ns) := by unfold Hid eraN; rw [hs, he]
  have F2 : Hid (o = offN ns) := by unfold Hid offN; rw [hs, ho]
  have FL := frac_lt ns
  obtain ⟨f, hf⟩ : ∃ f, f = fracN ns := ⟨_, rfl⟩
  rw [← hf] at FL cs
  replace hf := Lib.hid hf
  replace hs := Lib.hid hs
  replace hr := Lib.hid hr
  replace h := Lib.hid h
  replace he := Lib.hid he
  replace ho := Lib.hid ho
  replace s1 := Lib.hid s1
  replace s2 := Lib.hid s2
  replace hq := Lib.hid hq
  replace ht := Lib.hid ht
  replace cs := Lib.hid cs
  replace qb := Lib.hid qb
  replace r1 := Lib.hid r1
  replace FL := Lib.hid FL
  go_enter Try.func19, Try.ntmps19
  go_wp2_with fail
  refine (parts_any ns s r hs.out hr.out h.out _).mono ?_; rintro x w' ⟨rfl, rfl⟩
  go_wp2_with fail
  refine (era_any s e o he.out ho.out s1.out s2.out _).mono ?_; rintro x w' ⟨rfl, rfl⟩
  go_wp2_with fail
  go_loop [4, 7, 8] (fun a b c => ∃ i x y : Nat, a = .int .u64 x ∧ b = .int .u64 y ∧ c = .int .i64 i ∧ i ≤ 64 ∧ Dig r i x y) (fun _ _ c => (64 - intOf c).toNat)
  case atStart => exact ⟨0, r, 0, rfl, rfl, rfl, by omega, dig_zero r r1.out⟩
  case round =>
    obtain ⟨i, x, y, rfl, rfl, rfl, i1, D⟩ := hrel
    replace D := Lib.hid D
    rcases Nat.lt_or_ge i 64 with c | c
    · obtain ⟨x1, y1⟩ := dig_lt D.out c
      have c' : (i : Int) < 64 := by omega
      have y2 : (y : Int) < 9223372036854775808 := by omega
      have x2 : (x : Int) < 1000000000 := by omega
      replace y1 := Lib.hid y1
      replace x1 := Lib.hid x1
      clear i1
      rcases Nat.lt_or_ge (x * 2) 1000000000 with g | g
      · obtain ⟨k, hk⟩ : ∃ k, k = x * 2 := ⟨_, rfl⟩
        have K : (x : Int) * 2 = (k : Int) := by omega
        have G : (k : Int) < 1000000000 := by omega
        have G1 : decide (1000000000 ≤ (k : Int)) = false := by simp; omega
        have DD := dig_low D.out g
        rw [← hk] at DD
        replace DD := Lib.hid DD
        clear g hk
        go_wp2
        go_round
        case rel => exact ⟨i + 1, k, y * 2, rfl, by simp, by simp, by omega, DD.out⟩
        case measure => simp [intOf]; omega
      · obtain ⟨k, hk⟩ : ∃ k, k = x * 2 := ⟨_, rfl⟩
        obtain ⟨d, hd⟩ : ∃ d, d = x * 2 - 1000000000 := ⟨_, rfl⟩
        have K : (x : Int) * 2 = (k : Int) := by omega
        have G : 1000000000 ≤ (k : Int) := by omega
        have G1 : decide (1000000000 ≤ (k : Int)) = true := by simp; omega
        have L : (k : Int) - 1000000000 = (d : Int) := by omega
        have L2 : (k : Int) < 2000000000 := by omega
        have DD := dig_high D.out g
        rw [← hd] at DD
        have dm : Hid (d < x + x) := by unfold Hid; omega
        replace DD := Lib.hid DD
        clear g hk hd
        go_wp2
        go_round
        case rel => exact ⟨i + 1, d, y * 2 + 1, rfl, by simp, by simp, by omega, DD.out⟩
        case measure => simp [intOf]; omega
    · have i2 : i = 64 := by omega
      subst i2
      obtain ⟨y1, x1⟩ := dig_end D.out
      rw [hq.out] at y1
      rw [ht.out] at x1
      subst y1
      subst x1
      clear c i1 D
      rcases cs.out with ⟨c1, c2⟩ | ⟨c1, c2⟩
      · subst c1
        replace c2 := Lib.hid c2
        go_wp2
        refine bodyPost_ret (v := .agg #[.int .i32 e, .int .u32 o, .int .u64 y]) (by simp [results, Try.results19, go_sem]) rfl ⟨?_, ?_⟩
        · exact congrArg Ending.returned (ret_date F1.out (by rw [F2.out]) (by rw [c2.out, hf.out]))
        · exact (Out.refl w).alloc _ _
      · have c3 : 0 < (x : Int) := by omega
        have G1 : decide (0 < (x : Int)) = true := by simp; omega
        have F : IntKind.u64.wrap ((y : Int) + 1) = (f : Int) := by rw [IntKind.wrap_u64]; have := FL.out; omega
        clear c1 c2
        go_wp2
        refine bodyPost_ret (v := .agg #[.int .i32 e, .int .u32 o, .int .u64 f]) (by simp [results, Try.results19, go_sem]) rfl ⟨?_, ?_⟩
        · exact congrArg Ending.returned (ret_date F1.out (by rw [F2.out]) (by rw [hf.out]))
        · exact (Out.refl w).alloc _ _
end Go.Proofs.Ytdaioclpkkpheaa
