/- bytes.Equal, slices.Equal over rows as we hold them. -/
import Derived.Test.YtpamnephndoefaaRow
import Derived.Test.YtpamnephndoefaaOctM
import Derived.Test.YtpamnephndoefaaShelf
import Derived.RegionTactic
import Derived.Deep.QuietTactic
import Derived.BigQuiet
namespace Go.Proofs.Ytpamnephndoefaa
open Go.ChangeShapes Go.WideShapes Go.ChangeAt Go.RowKit OctM

theorem bytes_eq {a b : List Nat} (ha : Byt a) (hb : Byt b) : (Lib.bytesOf (a.map fun d : Nat => (d : Int)) == Lib.bytesOf (b.map fun d : Nat => (d : Int))) = decide (a = b) := by
  have e : ∀ l : List Nat, Lib.bytesOf (l.map fun d : Nat => (d : Int)) = l.map UInt8.ofNat := by
    intro l
    unfold Lib.bytesOf
    rw [List.map_map]
    apply List.map_congr_left
    intro d _
    simp
  rw [e, e, Bool.eq_iff_iff, beq_iff_eq, decide_eq_true_iff]
  constructor
  · intro h
    induction a generalizing b with
    | nil => cases b with
      | nil => rfl
      | cons y t => simp at h
    | cons x s ih => cases b with
      | nil => simp at h
      | cons y t =>
        simp only [List.map_cons, List.cons.injEq] at h
        have hx := ha x (by simp)
        have hy := hb y (by simp)
        have := congrArg UInt8.toNat h.1
        rw [UInt8.toNat_ofNat', UInt8.toNat_ofNat'] at this
        have e1 : x = y := by omega
        rw [e1, ih (fun d hd => ha d (by simp [hd])) (fun d hd => hb d (by simp [hd])) h.2]
  · intro h; rw [h]

theorem holds_bytesIn {w : World} {p : Option Addr} {n c : Nat} {ds : List Nat} (h : Holds w p n c (valsN .u8 ds)) : Lib.BytesIn w p n (ds.map fun d : Nat => (d : Int)) := by
  by_cases h0 : n = 0
  · subst h0; exact Lib.BytesIn.nil _ _ _
  · obtain ⟨a, rfl, -⟩ := h.atN (i := 0) (by omega)
    refine Lib.BytesIn.of_cells fun i hi => ?_
    obtain ⟨a', e, hc⟩ := h.atN hi
    cases e
    rw [hc]
    have l := h.len
    rw [valsN_len] at l
    rw [List.getD_eq_getElem?_getD, List.getD_eq_getElem?_getD, List.getElem?_map, List.getElem?_eq_getElem (by omega)]
    rfl

theorem bequal_any (w : World) (p q : Option Addr) (n c m d : Nat) (a b : List Nat) (ha : Holds w p n c (valsN .u8 a)) (hb : Holds w q m d (valsN .u8 b)) (ya : Byt a) (yb : Byt b) :
    Calls Try.prog 17 #[.slice p n c, .slice q m d] w fun e w' => e = .returned (.bool (decide (a = b))) ∧ w = w' := by
  have la := ha.len
  have lb := hb.len
  rw [valsN_len] at la lb
  refine (Try.bytes_Equal_all p q n c m d (a.map fun d : Nat => (d : Int)) (b.map fun d : Nat => (d : Int)) w (by rw [List.length_map]; exact la) (by rw [List.length_map]; exact lb) (holds_bytesIn ha) (holds_bytesIn hb)).mono ?_
  rintro e w' ⟨rfl, rfl⟩
  rw [bytes_eq ya yb]
  exact ⟨rfl, rfl⟩

theorem bequal_same (w : World) (p q : Option Addr) (n c m d : Nat) (a : List Nat) (ha : Holds w p n c (valsN .u8 a)) (hb : Holds w q m d (valsN .u8 a)) (ya : Byt a) :
    Calls Try.prog 17 #[.slice p n c, .slice q m d] w fun e w' => e = .returned (.bool true) ∧ w = w' := by
  have h := bequal_any w p q n c m d a a ha hb ya ya
  rwa [decide_eq_true rfl] at h

theorem holds_drewN {w : World} {p : Option Addr} {n c : Nat} {vs : List Value} (h : Holds w p n c vs) (k : Nat) : Holds (w.drewN k) p n c vs := h.below (below_drewN (Below.refl _ _) k)

theorem drewN_add (w : World) (i j : Nat) : (w.drewN i).drewN j = w.drewN (i + j) := by
  unfold World.drewN
  simp [Nat.add_assoc]

theorem ret_bool {a b : Bool} (h : a = b) : Ending.returned (.bool a) = .returned (.bool b) := by rw [h]

set_option maxHeartbeats 1600000 in
theorem sequal_any (w : World) (p q : Option Addr) (n c m d : Nat) (a b : List Nat) (ha : Holds w p n c (valsN .u64 a)) (hb : Holds w q m d (valsN .u64 b)) (hn : n ≤ 1000) (hm : m ≤ 1000000) :
    Calls Try.prog 18 #[.slice p n c, .slice q m d] w fun e w' => e = .returned (.bool (decide (a = b))) ∧ ∃ k, w' = w.drewN k := by
  have la : a.length = n := by have := ha.len; rwa [valsN_len] at this
  have lb : b.length = m := by have := hb.len; rwa [valsN_len] at this
  by_cases e : n = m
  · subst e
    have HA := Lib.hid ha
    have HB := Lib.hid hb
    have LA := Lib.hid la
    have LB := Lib.hid lb
    have hn' : (n : Int) ≤ 1000 := by omega
    have HN := Lib.hid hn
    clear ha hb la lb hn hm
    go_enter Try.func18, Try.ntmps18
    go_wp2_with fail
    go_loopw [13] (fun i wr => ∃ k j : Nat, i = .int .i64 k ∧ Hid (k ≤ n) ∧ Hid (a.take k = b.take k) ∧ wr = w.drewN j) (fun i _ => 2000 - (intOf i).toNat)
    case atStart => exact ⟨0, 0, rfl, Nat.zero_le _, rfl, rfl⟩
    case round =>
      obtain ⟨k, j, rfl, hk, he, rfl⟩ := hrel
      by_cases g : k < n
      · have g' : (k : Int) < (n : Int) := by omega
        have G := Lib.hid g
        obtain ⟨x, ex, cx⟩ := HA.out.atN g
        obtain ⟨y, ey, cy⟩ := HB.out.atN g
        subst ex ey
        obtain ⟨u, hu⟩ : ∃ u, u = a.getD k 0 := ⟨_, rfl⟩
        obtain ⟨v, hv⟩ : ∃ v, v = b.getD k 0 := ⟨_, rfl⟩
        rw [← hu] at cx
        rw [← hv] at cy
        have HU := Lib.hid hu
        have HV := Lib.hid hv
        clear g hu hv
        by_cases f : u = v
        · subst f
          go_wp2_with fail
          go_quiet (fail)
          go_wp2
          go_roundw
          case rel =>
            refine ⟨k + 1, _, by go_num, G.out, ?_, rfl⟩
            unfold Hid
            rw [take_next (by rw [LA.out]; exact G.out), take_next (by rw [LB.out]; exact G.out), he.out, ← HU.out, ← HV.out]
          case measure => simp [intOf]; omega
        · have f1 : ((u : Int) != (v : Int)) = true := by simp; omega
          have f2 : ((u : Int) == (v : Int)) = false := by simp; omega
          have f3 : ¬ (u : Int) = (v : Int) := by omega
          have FIN : Hid (decide (a = b) = false) := by
            unfold Hid
            rw [decide_eq_false_iff_not]
            intro h
            subst h
            exact f (HU.out.trans HV.out.symm)
          go_wp2_with fail
          go_quiet (fail)
          go_wp2
          go_ret
          exact ⟨ret_bool FIN.out.symm, _, drewN_add _ _ _⟩
      · have g' : (n : Int) ≤ (k : Int) := by omega
        have FIN : Hid (decide (a = b) = true) := by
          unfold Hid
          rw [decide_eq_true_iff]
          have h := he.out
          rwa [List.take_of_length_le (by rw [LA.out]; omega), List.take_of_length_le (by rw [LB.out]; omega)] at h
        clear g he hk
        go_wp2
        go_ret
        exact ⟨ret_bool FIN.out.symm, _, rfl⟩
  · have FIN : Hid (decide (a = b) = false) := by
      unfold Hid
      rw [decide_eq_false_iff_not]
      rintro rfl
      exact e (la.symm.trans lb)
    rw [FIN.out]
    have f1 : ((n : Int) != (m : Int)) = true := by simp; omega
    have f2 : ((n : Int) == (m : Int)) = false := by simp; omega
    have f3 : ¬ (n : Int) = (m : Int) := by omega
    have n1 : (n : Int) ≤ 1000 := by omega
    have n2 : (m : Int) ≤ 1000000 := by omega
    clear ha hb la lb e hn hm
    go_enter Try.func18, Try.ntmps18
    go_wp2
    go_ret
    exact ⟨rfl, 0, rfl⟩
end Go.Proofs.Ytpamnephndoefaa
