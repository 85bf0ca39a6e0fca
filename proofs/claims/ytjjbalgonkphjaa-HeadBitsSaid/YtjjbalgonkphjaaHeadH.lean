/- The document's own answers for layer 4 (head): a number read; a small number with a sign; a head's bytes. -/
import Derived.Test.YtjjbalgonkphjaaHeadB
import Derived.Test.YtjjbalgonkphjaaHeadG
namespace Go.Proofs.Ytjjbalgonkphjaa
open Go.ChangeShapes Go.WideShapes Go.ChangeAt Go.RowKit OctM

theorem rsigned4_any (w : World) (z : Int) (hz : -128 ≤ z ∧ z ≤ 127) :
    Calls Try.prog 21 #[.int .i8 z] w fun e w' => e = .returned (.int .u64 (b8 z : Nat)) ∧ w = w' := by
  obtain ⟨z1, z2⟩ := hz
  obtain ⟨b, hb⟩ : ∃ b, b = b8 z := ⟨_, rfl⟩
  rw [← hb]
  have bl := b8_lt z
  rw [← hb] at bl
  by_cases g : z < 0
  · have e : 256 + z = (b : Int) := by rw [hb]; unfold b8; omega
    clear hb
    go_enter Try.func21, Try.ntmps21
    go_wp2
    go_ret
    exact ⟨ret_int rfl, rfl⟩
  · have e : z = (b : Int) := by rw [hb]; unfold b8; omega
    subst e
    clear hb
    have g' : (0 : Int) ≤ (b : Int) := by omega
    go_enter Try.func21, Try.ntmps21
    go_wp2
    go_ret
    exact ⟨ret_int rfl, rfl⟩

theorem rread4_any (w : World) (p : Option Addr) (n c at' s : Nat) (ds : List Nat) (hz : Holds w p n c (valsN .u8 ds)) (hb : Byt ds) (hs : s ≤ 8) (hat : at' + s ≤ n) (hn : n ≤ 140737488355328) (v : Nat) (hv : numN ((ds.drop at').take s) = v) :
    Calls Try.prog 25 #[.slice p n c, .int .i64 at', .int .i64 s] w fun e w' => e = .returned (.int .u64 v) ∧ w = w' := by
  have hl : ds.length = n := by have := hz.len; rwa [valsN_len] at this
  have dl : ((ds.drop at').take s).length = s := by rw [List.length_take, List.length_drop]; omega
  have dg : ∀ k, k < s → ((ds.drop at').take s).getD k 0 = ds.getD (at' + k) 0 := fun k hk => by
    rw [List.getD_eq_getElem?_getD, List.getElem?_take, if_pos hk, List.getElem?_drop, ← List.getD_eq_getElem?_getD]
  have hb2 := byt_take (byt_drop hb at') s
  obtain ⟨es, hes⟩ : ∃ es, es = (ds.drop at').take s := ⟨_, rfl⟩
  rw [← hes] at hv dl dg hb2
  have HZ := Lib.hid hz
  have HL := Lib.hid dl
  have HV := Lib.hid hv
  have HB := Lib.hid hb2
  have DG := Lib.hid dg
  have HA := Lib.hid hat
  have s8 : (s : Int) ≤ 8 := by omega
  have a8 : (at' : Int) ≤ 140737488355328 := by omega
  clear hz hl hv hb hb2 dl dg hes hat hs hn
  go_enter Try.func25, Try.ntmps25
  go_wp2_with fail
  go_loop [7, 8] (fun s' i => ∃ (k t : Nat), s' = .int .u64 t ∧ i = .int .i64 k ∧ k ≤ s ∧ numN (es.take k) = t) (fun _ i => s - (intOf i).toNat)
  case atStart => exact ⟨0, 0, rfl, rfl, Nat.zero_le _, rfl⟩
  case round =>
    obtain ⟨k, t, rfl, rfl, k1, st⟩ := hrel
    by_cases g : k < s
    · obtain ⟨ix, hix⟩ : ∃ ix, ix = at' + k := ⟨_, rfl⟩
      obtain ⟨a, rfl, hc⟩ := HZ.out.atN (i := ix) (by have := HA.out; omega)
      obtain ⟨z, ez⟩ : ∃ z, z = es.getD k 0 := ⟨_, rfl⟩
      rw [hix, ← DG.out k g, ← ez, ← hix] at hc
      have z1 : z < 256 := by rw [ez]; exact byt_get HB.out k
      have tb := numN_lt (byt_take HB.out k)
      rw [st, List.length_take, HL.out, Nat.min_eq_left k1] at tb
      have pb := Nat.pow_le_pow_right (n := 256) (by omega) (show k ≤ 7 by omega)
      have tb2 : t < 72057594037927936 := Nat.lt_of_lt_of_le tb pb
      obtain ⟨m, hm⟩ : ∃ m, m = t * 256 := ⟨_, rfl⟩
      obtain ⟨q, hq⟩ : ∃ q, q = m + z := ⟨_, rfl⟩
      have e0 : (at' : Int) + (k : Int) = (ix : Int) := by omega
      have e1 : IntKind.u64.wrap ((t : Int) * 256) = (m : Int) := by rw [IntKind.wrap_u64]; omega
      have e2 : IntKind.u64.wrap (z : Int) = (z : Int) := by rw [IntKind.wrap_u64]; omega
      have e3 : IntKind.u64.wrap ((m : Int) + (z : Int)) = (q : Int) := by rw [IntKind.wrap_u64]; omega
      have g' : (k : Int) < (s : Int) := by omega
      have gi : (ix : Int) < (n : Int) := by have := HA.out; omega
      have EQ : Hid (q = numN (es.take (k + 1))) := by unfold Hid; rw [take_next (by rw [HL.out]; exact g), ← ez, numN_snoc, st, hq, hm]
      have K8 : (k : Int) ≤ 8 := by omega
      have I8 : (ix : Int) ≤ 140737488355336 := by omega
      have G := Lib.hid g
      clear ez st k1 g tb pb tb2 hm hq z1 hix
      go_wp2
      go_round
      case rel => exact ⟨k + 1, q, rfl, by go_num, by have := G.out; omega, EQ.out.symm⟩
      case measure => simp [intOf]; have := G.out; omega
    · have g' : (s : Int) ≤ (k : Int) := by omega
      have fin : Hid (t = v) := by
        unfold Hid
        have e : es.take k = es := List.take_of_length_le (by rw [HL.out]; omega)
        rw [e] at st
        rw [← HV.out, ← st]
      clear g st k1
      go_wp2
      go_ret
      exact ⟨ret_int (by rw [fin.out]), rfl⟩
end Go.Proofs.Ytjjbalgonkphjaa
