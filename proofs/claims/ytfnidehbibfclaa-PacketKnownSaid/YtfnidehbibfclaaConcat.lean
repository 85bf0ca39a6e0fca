/- slices.Grow of nil, slices.Concat over slices of bytes: for layer 7 and on. -/
import Derived.Test.YtfnidehbibfclaaGL
import Derived.Test.YtfnidehbibfclaaGA
set_option maxRecDepth 100000
namespace Go.Proofs.Ytfnidehbibfclaa
open Go.ChangeShapes Go.WideShapes Go.ChangeAt Go.RowKit OctM

theorem own_front {w : World} {B g m cap : Nat} {T : TypeId} {xs : List Value} (h : w.ownsRow B T 1 (.slice (some ⟨g, 0, none⟩) m cap) m xs) : w.ownsRow B T 1 (.slice (some ⟨g, 0, none⟩) 0 cap) 0 [] := by
  obtain ⟨hl, ⟨e, -⟩ | ⟨g', cap', cur, e, hb, hg, h1, h2, h3, h4⟩⟩ := h
  · cases e
  · injection e with e1 e2 e3
    injection e1 with e1
    injection e1 with e1
    subst e1 e3
    exact ⟨rfl, .inr ⟨g, cap, cur, rfl, hb, hg, Nat.zero_le _, h2, h3, by simp⟩⟩

theorem pgrow_nil (w : World) (m : Nat) (hm : m ≤ 900000) :
    Calls Try.prog 59 #[.slice none 0 0, .int .i64 (m : Int)] w fun e w' => ∃ v, e = .returned v ∧ w'.ownsRow w.heap.size 5 1 v 0 [] ∧ Below w.heap.size w w' := by
  obtain ⟨i0, hi, hz0, hz1, hz2⟩ := infoE_of info8e
  have HB : Hid (0 + m ≤ 1000000) := by unfold Hid; omega
  have HN : Hid (w.ownsRow w.heap.size 5 1 (.slice none 0 0) 0 []) := World.ownsRow_nil w _ _ 1
  have mi : (m : Int) ≤ 900000 := by omega
  have d0 : decide ((m : Int) < 0) = false := by simp
  by_cases h0 : m = 0
  · subst h0
    go_enter Try.func59, Try.ntmps59
    go_wp2
    go_ret
    exact ⟨_, rfl, HN.out, Below.refl _ _⟩
  · have h1 : (0 : Int) < (m : Int) := by omega
    have H0 := Lib.hid h0
    clear h0 hm
    go_enter Try.func59, Try.ntmps59
    go_wp2_with (at_builtin; refine wpList_append_zeros w rfl _ _ _ _ rfl w.heap.size 5 i0 (.int .u8 0) .i64 Try.underlying31 Try.underlying3 hi hz0 hz1 hz2 rfl rfl _ 0 [] rfl HN.out m rfl HB.out (Nat.le_refl _) ?_)
    intro v1 w1 o1 g1 md
    rcases md with ⟨-, k0⟩ | ⟨g, ⟨cap, rfl⟩, -, -⟩
    · exact absurd k0 H0.out
    have O1 := Lib.hid (own_front o1)
    have L1 : Hid (Below w.heap.size w w1) := (Below.refl _ _).grown g1 (Nat.le_refl _) (fun j hj => by cases hj)
    have mc : (m : Int) ≤ (cap : Int) := by
      obtain ⟨-, ⟨e, -⟩ | ⟨g', cap', cur, e, -, -, h1, -⟩⟩ := o1
      · cases e
      · injection e with _ _ e3
        subst e3
        omega
    clear o1 g1
    go_wp2
    go_ret
    exact ⟨_, rfl, O1.out, L1.out⟩

theorem totalP_next {ps : List Prt} {k : Nat} {q : Prt} (h : ps[k]? = some q) : totalP (ps.take (k + 1)) = totalP (ps.take k) + q.n := by
  obtain ⟨h1, rfl⟩ := List.getElem?_eq_some_iff.1 h
  unfold totalP
  rw [List.take_succ_eq_append_getElem h1, List.map_append, List.sum_append]
  simp

set_option maxHeartbeats 8000000 in
theorem pconcat_any (w : World) (p : Option Addr) (n c : Nat) (ps : List Prt) (hp : HoldsP w p n c ps) (hn : n ≤ 1000) (ht : totalP ps ≤ 900000) :
    Calls Try.prog 30 #[.slice p n c] w fun e w' => ∃ v, e = .returned v ∧ w'.ownsRow w.heap.size 5 1 v (joinP ps).length (valsN .u8 (joinP ps)) ∧ Below w.heap.size w w' := by
  obtain ⟨i0, hi, hz0, hz1, hz2⟩ := infoE_of info8e
  have nb : (n : Int) ≤ 1000 := by omega
  have HP := Lib.hid hp
  have LN := Lib.hid hp.len
  have TT := Lib.hid ht
  have LS := Lib.hid hp.lens
  have HN := Lib.hid hn
  clear hp ht hn
  go_enter Try.func30, Try.ntmps30
  go_wp2_with fail
  go_loopw [3, 11] (fun z i wr => ∃ k : Nat, i = .int .i64 k ∧ Hid (k ≤ n) ∧ z = .int .i64 (totalP (ps.take k) : Nat) ∧ wr = w) (fun _ i _ => 200000 - (intOf i).toNat)
  case atStart => exact ⟨0, rfl, Nat.zero_le _, rfl, rfl⟩
  case round =>
    obtain ⟨k, rfl, hk, rfl, rfl⟩ := hrel
    have kb : (k : Int) ≤ 1000 := by have := hk.out; have := HN.out; omega
    have tb : (totalP (ps.take k) : Int) ≤ 900000 := by have := totalP_take ps k; have := TT.out; omega
    by_cases g : k < n
    · have g' : (k : Int) < (n : Int) := by omega
      have G : Hid (k + 1 ≤ n) := g
      obtain ⟨a, q, rfl, hq, c0, -⟩ := HP.out.at g
      have tn := totalP_next hq
      have tl := totalP_take ps (k + 1)
      have TN : Hid ((totalP (ps.take (k + 1)) : Int) = (totalP (ps.take k) : Int) + (q.n : Int)) := by unfold Hid; omega
      have ti := TT.out
      have sb : (totalP (ps.take k) : Int) + (q.n : Int) ≤ 900000 := by omega
      generalize totalP (ps.take k) = z at *
      clear g hk hq tn tl ti
      have s0 : decide ((z : Int) + (q.n : Int) < 0) = false := by simp; omega
      go_wp2
      go_roundw
      case rel => exact ⟨k + 1, by go_num, G, by rw [TN.out], trivial⟩
      case measure => simp [intOf]; omega
    · have g' : (n : Int) ≤ (k : Int) := by omega
      have e0 : ps.take k = ps := List.take_of_length_le (by rw [LN.out]; omega)
      rw [e0] at tb ⊢
      have GR := Lib.hid (pgrow_nil wr (totalP ps) TT.out)
      have JL : Hid (∀ k, (joinP (ps.take k)).length ≤ 900000) := fun k => by
        have a := joinP_len (ps := ps.take k) (fun x hx => LS.out x (List.mem_of_mem_take hx))
        have b := totalP_take ps k
        have := TT.out
        omega
      generalize totalP ps = z at *
      clear g hk e0
      rename World => w
      rename_i kk
      go_wp2_with fail
      refine GR.out.mono ?_; rintro e w1 ⟨v1, rfl, o1, l1⟩
      have O1 := Lib.hid o1
      have L1 := Lib.hid l1
      have HP1 := Lib.hid (HP.out.below l1)
      clear o1 l1 GR
      go_wp2_with fail
      go_loopw [6, 27] (fun v i wr => ∃ k : Nat, i = .int .i64 k ∧ Hid (k ≤ n) ∧ Hid (wr.ownsRow w.heap.size 5 1 v (joinP (ps.take k)).length (valsN .u8 (joinP (ps.take k)))) ∧ Hid (Below w.heap.size w wr)) (fun _ i _ => 200000 - (intOf i).toNat)
      case atStart => exact ⟨0, rfl, Nat.zero_le _, O1.out, L1.out⟩
      case round =>
        obtain ⟨k, rfl, hk, own, low⟩ := hrel
        have kb : (k : Int) ≤ 1000 := by have := hk.out; have := HN.out; omega
        by_cases g : k < n
        · have g' : (k : Int) < (n : Int) := by omega
          have G : Hid (k + 1 ≤ n) := g
          obtain ⟨a, q, rfl, hq, c0, hh⟩ := (HP.out.below low.out).at g
          have e1 : ps.take (k + 1) = ps.take k ++ [q] := by
            obtain ⟨h1, rfl⟩ := List.getElem?_eq_some_iff.1 hq
            rw [List.take_succ_eq_append_getElem h1]
          have tot : (joinP (ps.take k)).length + q.n ≤ 900000 := by
            have a := JL.out (k + 1)
            rw [e1, joinP_snoc, List.length_append, LS.out q (List.mem_of_getElem? hq)] at a
            exact a
          have NX : Hid (∀ (v' : Value) (w' : World), w'.ownsRow w.heap.size 5 1 v' ((joinP (ps.take k)).length + q.n) (valsN .u8 (joinP (ps.take k)) ++ valsN .u8 q.ds) → w'.ownsRow w.heap.size 5 1 v' (joinP (ps.take (k + 1))).length (valsN .u8 (joinP (ps.take (k + 1))))) := fun v' w' o => by
            rw [e1, joinP_snoc, List.length_append, LS.out q (List.mem_of_getElem? hq), valsN_append]
            exact o
          have BM : Hid ((joinP (ps.take k)).length + q.n ≤ maxLen) := by unfold Hid maxLen; omega
          have BY : Hid (((joinP (ps.take k)).length + q.n) * 1 ≤ 140737488355328) := by unfold Hid; omega
          have HH := Lib.hid hh
          have LOW := Lib.hid low.out
          have OW := Lib.hid own.out
          clear g hk low own hh hq e1 tot
          go_wp2_with (at_builtin; refine append_more rfl _ _ 31 rfl w.heap.size 5 i0 (.int .u8 0) 1 Try.underlying31 hi hz0 hz1 hz2 rfl _ (joinP (ps.take k)).length _ rfl OW.out q.p q.n q.c (valsN .u8 q.ds) rfl HH.out (valsN_one _ _) BM.out BY.out LOW.out.size ?_)
          intro v3 w3 o3 g3 _
          have O3 := Lib.hid (NX.out v3 w3 o3)
          have L3 : Hid (Below w.heap.size w w3) := LOW.out.grown g3 LOW.out.size (fun j hj => (World.ownsRow.lt OW.out j hj).1)
          clear o3 g3
          go_wp2
          go_roundw
          case rel => exact ⟨k + 1, by go_num, G, O3, L3⟩
          case measure => simp [intOf]; omega
        · have g' : (n : Int) ≤ (k : Int) := by omega
          have F : Hid (wr.ownsRow w.heap.size 5 1 u6 (joinP ps).length (valsN .u8 (joinP ps)) ∧ Below w.heap.size w wr) := by
            have e : ps.take k = ps := List.take_of_length_le (by rw [LN.out]; omega)
            have o := own.out
            rw [e] at o
            exact ⟨o, low.out⟩
          clear g hk low own
          go_wp2
          go_ret
          exact ⟨_, rfl, F.out.1, F.out.2⟩
end Go.Proofs.Ytfnidehbibfclaa
