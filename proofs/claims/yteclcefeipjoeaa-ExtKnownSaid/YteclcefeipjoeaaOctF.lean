/- Layer 3 (octet): the program's Lay. -/
import Derived.Test.YteclcefeipjoeaaOctB
namespace Go.Proofs.Yteclcefeipjoeaa
open Go.ChangeShapes Go.WideShapes Go.ChangeAt Go.RowKit OctM

theorem play_arg (w : World) (p q : Option Addr) (n c m c' : Nat) (zs : List Int) (hz : Holds w p n c (valsI .i64 zs)) (hn : n ≤ 1000) (h : (¬ okAll zs) ∨ m ≠ n) :
    Calls Try.prog 26 #[.slice p n c, .slice q m c'] w (TellPost w (.returned (.tuple #[.slice none 0 0, .int .i64 1]))) := by
  have FIN : Hid (TellPost w (.returned (.tuple #[.slice none 0 0, .int .i64 1])) (.returned (.tuple #[.slice none 0 0, .int .i64 1])) w) := ⟨rfl, Below.refl _ _⟩
  by_cases ok : okAll zs
  · have WD := Lib.hid (pwidth_any w p n c zs hz (by omega) _ 0 rfl (by unfold widE; exact if_pos ok))
    have ne : m ≠ n := h.resolve_left (fun g => g ok)
    have b2 : ((m : Int) != (n : Int)) = true := by simp; omega
    have b3 : ((m : Int) == (n : Int)) = false := by simp; omega
    have b4 : ¬ (m : Int) = (n : Int) := by omega
    generalize widV zs = t at *
    clear h ne hz ok hn
    go_enter Try.func26, Try.ntmps26
    go_wp2_with fail
    refine WD.out.mono ?_; rintro e w' ⟨rfl, rfl⟩
    go_wp2
    go_ret2
    exact FIN.out
  · have WD := Lib.hid (pwidth_any w p n c zs hz (by omega) _ 1 rfl (by unfold widE; exact if_neg ok))
    generalize widV zs = t at *
    clear h hz ok hn
    go_enter Try.func26, Try.ntmps26
    go_wp2_with fail
    refine WD.out.mono ?_; rintro e w' ⟨rfl, rfl⟩
    go_wp2
    go_ret2
    exact FIN.out

theorem fitT_next {zs : List Int} {xs : List Nat} {k s x : Nat} (h : fitT zs xs k) (hx : xs.getD k 0 = x) (hs : (zs.getD k 0).toNat = s) (hf : x < 256 ^ s) : fitT zs xs (k + 1) := fun i hi => by
  by_cases e : i = k
  · subst e; rw [hx, hs]; exact hf
  · exact h i (by omega)

set_option maxRecDepth 100000 in
set_option maxHeartbeats 8000000 in
theorem play_any (w : World) (p q : Option Addr) (n c c' L : Nat) (zs : List Int) (xs : List Nat) (hz : Holds w p n c (valsI .i64 zs)) (hx : Holds w q n c' (valsN .u64 xs)) (h64 : ∀ x ∈ xs, x < 18446744073709551616) (hn : n ≤ 1000) (ok : okAll zs) (hL : atT zs n = L) :
    Calls Try.prog 26 #[.slice p n c, .slice q n c'] w (LayPost w n L zs xs) := by
  have lz : zs.length = n := by have := hz.len; rwa [valsI_len] at this
  have lx : xs.length = n := by have := hx.len; rwa [valsN_len] at this
  have sb := sumI_le ok
  have wi : sumI zs = (L : Int) := by rw [← atT_all ok, lz, hL]
  have WD := Lib.hid (pwidth_any w p n c zs hz (by omega) (L : Int) 0 (by unfold widV; rw [if_pos ok]; exact wi) (by unfold widE; exact if_pos ok))
  have L8 : L ≤ 8000 := by omega
  obtain ⟨C, hC, mk⟩ := make8 L (by omega)
  have HC := Lib.hid hC
  have HZ := Lib.hid hz
  have HX := Lib.hid hx
  have H64 := Lib.hid h64
  have LZ := Lib.hid lz
  have LX := Lib.hid lx
  have HN := Lib.hid hn
  have OK := Lib.hid ok
  have HL := Lib.hid hL
  have HL8 := Lib.hid L8
  have hn' : (n : Int) ≤ 1000 := by omega
  have l8' : (L : Int) ≤ 8000 := by omega
  have bn : ((n : Int) != (n : Int)) = false := by simp
  clear hz hx h64 lz lx sb wi hn ok hL hC L8
  go_enter Try.func26, Try.ntmps26
  go_wp2_with fail
  refine WD.out.mono ?_; rintro e w' ⟨rfl, rfl⟩
  go_wp2_with fail
  go_loop [30] (fun i => ∃ k : Nat, i = .int .i64 k ∧ Hid (k ≤ n) ∧ Hid (fitT zs xs k)) (fun i => 2000 - (intOf i).toNat)
  case atStart => exact ⟨0, rfl, Nat.zero_le _, fun i hi => absurd hi (by omega)⟩
  case round =>
    obtain ⟨k, rfl, hk, hf⟩ := hrel
    by_cases g : k < n
    · have g' : (k : Int) < (n : Int) := by omega
      have G := Lib.hid g
      obtain ⟨a, ea, ca⟩ := HZ.out.atI g
      obtain ⟨b, eb, cb⟩ := HX.out.atN g
      subst ea eb
      obtain ⟨s, es⟩ : ∃ s, (zs.getD k 0).toNat = s := ⟨_, rfl⟩
      obtain ⟨x, ex⟩ : ∃ x, xs.getD k 0 = x := ⟨_, rfl⟩
      have os := okAll_get OK.out (i := k) (by rw [LZ.out]; exact g)
      have e0 : zs.getD k 0 = (s : Int) := by unfold okS at os; omega
      rw [e0] at ca
      rw [ex] at cb
      have xb : x < 18446744073709551616 := by
        rw [← ex, List.getD_eq_getElem?_getD, List.getElem?_eq_getElem (by rw [LX.out]; exact g)]
        exact H64.out _ (List.getElem_mem _)
      have S1 : Hid (1 ≤ s) := by unfold Hid; unfold okS at os; omega
      have S8 : Hid (s ≤ 8) := by unfold Hid; unfold okS at os; omega
      have FT := Lib.hid (pfits_any w x s xb S1.out S8.out)
      have ES := Lib.hid es
      have EX := Lib.hid ex
      by_cases f : x < 256 ^ s
      · rw [decide_eq_true f] at FT
        have NX : Hid (fitT zs xs (k + 1)) := fitT_next hf.out ex es f
        clear f g es ex os e0 xb
        go_wp2_with fail
        refine FT.out.mono ?_; rintro e w' ⟨rfl, rfl⟩
        go_wp2
        go_round
        case rel => exact ⟨k + 1, by go_num, G.out, NX⟩
        case measure => simp [intOf]; omega
      · rw [decide_eq_false f] at FT
        have FIN : Hid (LayPost w n L zs xs (.returned (.tuple #[.slice none 0 0, .int .i64 20])) w) := by
          refine .inr ⟨fun h => f ?_, rfl, Below.refl _ _⟩
          have := h k g
          rwa [ex, es] at this
        clear f g es ex os e0 xb
        go_wp2_with fail
        refine FT.out.mono ?_; rintro e w' ⟨rfl, rfl⟩
        go_wp2
        go_ret2
        exact FIN.out
    · have g' : (n : Int) ≤ (k : Int) := by omega
      have FA : Hid (fitT zs xs n) := by
        unfold Hid
        have ks : k = n := by have := hk.out; omega
        subst ks
        exact hf.out
      clear g hk hf
      go_wp2_with fail
      refine (pplaces_any _ _ _ _).mono ?_; rintro e w' ⟨rfl, rfl⟩
      have P0 := Lib.hid (pl_start w zs xs C L HC.out)
      rw [World.size_alloc]
      generalize hw3 : ((w.alloc (.cells C 5)).alloc (.cells #[.slice (some ⟨w.heap.size, 0, none⟩) L L] 25)).alloc (.cells #[.int .i64 0] 3) = w3 at *
      clear hw3
      go_wp2_with fail
      go_loopw [49] (fun i wr => ∃ k : Nat, i = .int .i64 k ∧ Hid (k ≤ n) ∧ Hid (PL w wr zs xs L k)) (fun i _ => 2000 - (intOf i).toNat)
      case atStart => exact ⟨0, rfl, Nat.zero_le _, P0⟩
      case round =>
        obtain ⟨k, rfl, hk, h⟩ := hrel
        by_cases g : k < n
        · have g' : (k : Int) < (n : Int) := by omega
          have G := Lib.hid g
          obtain ⟨a, ea, ca⟩ := (HZ.out.below h.out.low).atI g
          obtain ⟨b, eb, cb⟩ := (HX.out.below h.out.low).atN g
          subst ea eb
          obtain ⟨s, es⟩ : ∃ s, (zs.getD k 0).toNat = s := ⟨_, rfl⟩
          obtain ⟨x, ex⟩ : ∃ x, xs.getD k 0 = x := ⟨_, rfl⟩
          have os := okAll_get OK.out (i := k) (by rw [LZ.out]; exact g)
          have e0 : zs.getD k 0 = (s : Int) := by unfold okS at os; omega
          rw [e0] at ca
          rw [ex] at cb
          have xb : x < 18446744073709551616 := by
            rw [← ex, List.getD_eq_getElem?_getD, List.getElem?_eq_getElem (by rw [LX.out]; exact g)]
            exact H64.out _ (List.getElem_mem _)
          have s1 : 1 ≤ s := by unfold okS at os; omega
          have s8 : s ≤ 8 := by unfold okS at os; omega
          have a1 := atT_succ OK.out (k := k) (by rw [LZ.out]; exact g)
          rw [es] at a1
          have a2 := atT_mono OK.out (j := k + 1) (k := n) (by omega) (by rw [LZ.out]; exact Nat.le_refl _)
          rw [a1, HL.out] at a2
          obtain ⟨cs, hb, hcs, -⟩ := h.out.row
          have NX := Lib.hid (pnext_any wr (w.heap.size + 1) (w.heap.size + 1 + 1) ⟨w.heap.size, 0, none⟩ L L (atT zs k) s h.out.b0 h.out.b1 a2 s1 (Nat.le_refl _) (by have := HL8.out; omega))
          rw [add_zero'] at NX
          have hb1 : (wr.setCell ⟨w.heap.size + 1 + 1, 0, none⟩ (.int .i64 ((atT zs k + s : Nat) : Int))).heap[w.heap.size]? = some (.cells cs 5 (0, 0)) := (Below.heap_setCell _ _ _ _ (by simp; omega)).trans hb
          have WR := Lib.hid (pwrite_any _ w.heap.size (atT zs k) s (L - atT zs k) x cs hb1 s8 (by omega) xb)
          have ST : Hid (∀ w2, Wrote (wr.setCell ⟨w.heap.size + 1 + 1, 0, none⟩ (.int .i64 ((atT zs k + s : Nat) : Int))) w.heap.size (atT zs k) s x cs w2 → PL w w2 zs xs L (k + 1)) := fun w2 gw =>
            pl_next h.out OK.out (by rw [LZ.out]; exact g) ex es hb gw
          clear g es ex os e0 xb s1 s8 a1 a2 hb hb1 hcs
          go_wp2_with fail
          refine NX.out.mono ?_; rintro e w' ⟨rfl, rfl⟩
          go_wp2_with fail
          refine WR.out.mono ?_; rintro e w2 ⟨⟨u, rfl⟩, gw⟩
          have P1 := Lib.hid (ST.out w2 gw)
          clear gw
          go_wp2
          go_roundw
          case rel => exact ⟨k + 1, by go_num, G.out, P1⟩
          case measure => simp [intOf]; omega
        · have g' : (n : Int) ≤ (k : Int) := by omega
          have FIN : Hid (LayPost w n L zs xs (.returned (.tuple #[.slice (some ⟨w.heap.size, 0, none⟩) L L, .int .i64 0])) wr) := by
            have ks : k = n := by have := hk.out; omega
            subst ks
            have e := LZ.out
            subst e
            exact .inl ⟨FA.out, pl_end h.out OK.out HL.out (by have := HL8.out; omega)⟩
          clear g hk h
          go_wp2
          go_ret2
          exact FIN.out

theorem play_all (w : World) (p q : Option Addr) (n c m c' : Nat) (zs : List Int) (xs : List Nat) (hz : Holds w p n c (valsI .i64 zs)) (hx : Holds w q m c' (valsN .u64 xs)) (h64 : ∀ x ∈ xs, x < 18446744073709551616) (hn : n ≤ 1000) :
    Calls Try.prog 26 #[.slice p n c, .slice q m c'] w (RowR w (layD zs xs) (layE zs xs)) := by
  have lz : zs.length = n := by have := hz.len; rwa [valsI_len] at this
  have lx : xs.length = m := by have := hx.len; rwa [valsN_len] at this
  subst lz
  unfold layD layE
  by_cases h : okAll zs ∧ xs.length = zs.length
  · obtain rfl : m = zs.length := by rw [← lx]; exact h.2
    refine (play_any w p q zs.length c c' _ zs xs hz hx h64 hn h.1 rfl).mono fun e w' k => ?_
    rcases k with ⟨f, r⟩ | ⟨f, r⟩
    · rw [if_pos ⟨h, f⟩, if_pos h, if_pos f]
      refine rowR_row ?_ r
      have a := layT_len zs xs zs.length h.1 (Nat.le_refl _)
      have b := atT_int h.1 (k := zs.length) (Nat.le_refl _)
      omega
    · rw [if_neg (fun g => f g.2), if_pos h, if_neg f]
      exact rowR_nil r
  · rw [if_neg (fun g => h g.1), if_neg h]
    refine (play_arg w p q _ c m c' zs hz hn ?_).mono fun e w' k => rowR_nil k
    by_cases g : okAll zs
    · exact .inr fun e => h ⟨g, by rw [lx, e]⟩
    · exact .inl g
end Go.Proofs.Yteclcefeipjoeaa

