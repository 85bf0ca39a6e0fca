/- Layer 3 (octet): the program's Take. -/
import Derived.Test.YtjjbalgonkphjaaOctH
namespace Go.Proofs.Ytjjbalgonkphjaa
open Go.ChangeShapes Go.WideShapes Go.ChangeAt Go.RowKit OctM

theorem make64 (s : Nat) (hs : s ≤ 100000) : ∃ C : Array Value, C.size = s ∧ ∀ w, (Instr.makeSlice 52 (.int .i64 (s : Int)) (.int .i64 (s : Int))).run Try.prog w = .ok (.slice (some ⟨w.heap.size, 0, none⟩) s s) (w.alloc (.cells C 24)) := by
  obtain ⟨i, hi, h0, h1, h2⟩ := info_of info64
  refine ⟨madeCells #[Value.int .u64 0] s, size_madeCells _ _, fun w => ?_⟩
  have r := run_make (P := Try.prog) w 52 24 i (.int .u64 0) Try.underlying52 hi h0 .i64 .i64 (s : Int) (s : Int) (by omega) (by omega) (by rw [h2]; omega) (by omega)
  rw [h1, Int.toNat_natCast, Nat.mul_one] at r
  exact r

theorem ptake_arg (w : World) (p q : Option Addr) (n c m c' : Nat) (zs : List Int) (hz : Holds w p n c (valsI .i64 zs)) (hn : n ≤ 1000) (h : ¬ okAll zs) :
    Calls Try.prog 23 #[.slice p n c, .slice q m c'] w (TellPost w (.returned (.tuple #[.slice none 0 0, .slice none 0 0, .int .i64 1]))) := by
  have FIN : Hid (TellPost w (.returned (.tuple #[.slice none 0 0, .slice none 0 0, .int .i64 1])) (.returned (.tuple #[.slice none 0 0, .slice none 0 0, .int .i64 1])) w) := ⟨rfl, Below.refl _ _⟩
  have WD := Lib.hid (pwidth_any w p n c zs hz (by omega) _ 1 rfl (by unfold widE; exact if_neg h))
  generalize widV zs = t at *
  clear h hz hn
  go_enter Try.func23, Try.ntmps23
  go_wp2_with fail
  refine WD.out.mono ?_; rintro e w' ⟨rfl, rfl⟩
  go_wp2
  go_ret3
  exact FIN.out

theorem ptake_short (w : World) (p q : Option Addr) (n c m c' : Nat) (zs : List Int) (hz : Holds w p n c (valsI .i64 zs)) (hn : n ≤ 1000) (ok : okAll zs) (h : (m : Int) < sumI zs) :
    Calls Try.prog 23 #[.slice p n c, .slice q m c'] w (TellPost w (.returned (.tuple #[.slice none 0 0, .slice none 0 0, .int .i64 4]))) := by
  have FIN : Hid (TellPost w (.returned (.tuple #[.slice none 0 0, .slice none 0 0, .int .i64 4])) (.returned (.tuple #[.slice none 0 0, .slice none 0 0, .int .i64 4])) w) := ⟨rfl, Below.refl _ _⟩
  have WD := Lib.hid (pwidth_any w p n c zs hz (by omega) (sumI zs) 0 (by unfold widV; exact if_pos ok) (by unfold widE; exact if_pos ok))
  have b2 : decide ((m : Int) < sumI zs) = true := by simp; omega
  generalize sumI zs = t at *
  clear hz hn ok
  go_enter Try.func23, Try.ntmps23
  go_wp2_with fail
  refine WD.out.mono ?_; rintro e w' ⟨rfl, rfl⟩
  go_wp2
  go_ret3
  exact FIN.out

/-- What Take has laid where k numbers are taken. -/
structure PT (w wr : World) (zs : List Int) (ds : List Nat) (q : Option Addr) (m c' n k : Nat) : Prop where
  row : ∃ cs : Array Value, wr.heap[w.heap.size]? = some (.cells cs 24 (0, 0)) ∧ cs.size = n ∧ ∀ i, i < k → cs[i]? = some (.int .u64 ((takT zs ds k).getD i 0 : Nat))
  b0 : Boxed wr (w.heap.size + 1) 28 (.slice q m c')
  b1 : Boxed wr (w.heap.size + 1 + 1) 3 (.int .i64 (atT zs k : Int))
  low : Below w.heap.size w wr

theorem pt_start (w : World) (zs : List Int) (ds : List Nat) (C : Array Value) (q : Option Addr) (m c' n : Nat) (hC : C.size = n) :
    PT w (((w.alloc (.cells C 24)).alloc (.cells #[.slice q m c'] 28)).alloc (.cells #[.int .i64 0] 3)) zs ds q m c' n 0 := by
  have b0 := Boxed.new (w.alloc (.cells C 24)) 28 (.slice q m c')
  rw [World.size_alloc] at b0
  have b1 := Boxed.new ((w.alloc (.cells C 24)).alloc (.cells #[.slice q m c'] 28)) 3 (.int .i64 0)
  rw [World.size_alloc, World.size_alloc] at b1
  refine ⟨⟨C, ?_, hC, fun i hi => absurd hi (by omega)⟩, b0.alloc _, b1, (((Below.refl _ w).alloc (Nat.le_refl _) _).alloc (by simp) _).alloc (by simp; omega) _⟩
  exact (Below.heap_alloc _ _ _ (by simp; omega)).trans ((Below.heap_alloc _ _ _ (by simp)).trans (heap_alloc_new w _))

theorem takT_get (zs : List Int) (ds : List Nat) (k i : Nat) (h : i < k) : (takT zs ds (k + 1)).getD i 0 = (takT zs ds k).getD i 0 := by
  show (takT zs ds k ++ [_]).getD i 0 = _
  simp only [List.getD_eq_getElem?_getD]
  rw [List.getElem?_append_left (by rw [takT_len]; exact h)]
theorem takT_last (zs : List Int) (ds : List Nat) (k : Nat) : (takT zs ds (k + 1)).getD k 0 = numN ((ds.drop (atT zs k)).take (zs.getD k 0).toNat) := by
  show (takT zs ds k ++ [_]).getD k 0 = _
  rw [List.getD_eq_getElem?_getD, List.getElem?_append_right (by rw [takT_len]; exact Nat.le_refl _), takT_len, Nat.sub_self]
  rfl

theorem pt_next {w wr w2 : World} {zs : List Int} {ds : List Nat} {q : Option Addr} {m c' n k s x : Nat} (h : PT w wr zs ds q m c' n k) (ok : okAll zs) (hk : k < zs.length) (hn : k < n) (hs : (zs.getD k 0).toNat = s) (hx : numN ((ds.drop (atT zs k)).take s) = x)
    (g : Below (wr.setCell ⟨w.heap.size + 1 + 1, 0, none⟩ (.int .i64 ((atT zs k + s : Nat) : Int))).heap.size (wr.setCell ⟨w.heap.size + 1 + 1, 0, none⟩ (.int .i64 ((atT zs k + s : Nat) : Int))) w2) :
    PT w (w2.setCell ⟨w.heap.size, k, none⟩ (.int .u64 (x : Int))) zs ds q m c' n (k + 1) ∧ (∃ u, w2.cell? ⟨w.heap.size, k, none⟩ = some u) ∧ w2.frozen? ⟨w.heap.size, k, none⟩ = false := by
  obtain ⟨cs, hb, hz, hi⟩ := h.row
  have a1 := atT_succ ok hk
  rw [hs] at a1
  have hb1 : (wr.setCell ⟨w.heap.size + 1 + 1, 0, none⟩ (.int .i64 ((atT zs k + s : Nat) : Int))).heap[w.heap.size]? = some (.cells cs 24 (0, 0)) := (Below.heap_setCell _ _ _ _ (by simp; omega)).trans hb
  have hb2 : w2.heap[w.heap.size]? = some (.cells cs 24 (0, 0)) := (g.block _ (Array.getElem?_eq_some_iff.1 hb1).1).trans hb1
  have kept : ∀ {B : Nat} {t : TypeId} {v : Value}, w.heap.size < B → Boxed (wr.setCell ⟨w.heap.size + 1 + 1, 0, none⟩ (.int .i64 ((atT zs k + s : Nat) : Int))) B t v → Boxed (w2.setCell ⟨w.heap.size, k, none⟩ (.int .u64 (x : Int))) B t v := fun hB hv =>
    boxed_set ((g.block _ hv.lt).trans hv) (by simp; omega)
  refine ⟨⟨⟨_, blk_set hb2, by rw [Array.set!_eq_setIfInBounds, Array.size_setIfInBounds]; exact hz, fun i hi' => ?_⟩, kept (by omega) (boxed_set h.b0 (by simp)), ?_, ?_⟩, ⟨_, by rw [blk_cell hb2]; exact Array.getElem?_eq_getElem (by omega)⟩, blk_free hb2⟩
  · rw [Array.set!_eq_setIfInBounds, Array.getElem?_setIfInBounds]
    by_cases e : k = i
    · subst e
      rw [if_pos rfl, if_pos (by omega), takT_last, hs, hx]
    · rw [if_neg e, hi i (by omega), takT_get _ _ _ _ (by omega)]
  · rw [a1]
    exact kept (by omega) (h.b1.set _)
  · exact ((h.low.setCell (p := ⟨w.heap.size + 1 + 1, 0, none⟩) (by simp; omega) _).trans (g.mono (by simpa using h.low.size))).setCell (Nat.le_refl _) _

theorem pt_end {w wr : World} {zs : List Int} {ds : List Nat} {q : Option Addr} {m c' n : Nat} (h : PT w wr zs ds q m c' n n) (hm : n ≤ 100000) :
    wr.ownsRow w.heap.size 24 1 (.slice (some ⟨w.heap.size, 0, none⟩) n n) n (valsN .u64 (takT zs ds n)) := by
  obtain ⟨cs, hb, hz, hi⟩ := h.row
  have e : cs.toList = valsN .u64 (takT zs ds n) := by
    apply List.ext_getElem?
    intro i
    rw [Array.getElem?_toList]
    by_cases g : i < n
    · rw [hi i g, valsN_get (by rw [takT_len]; exact g)]
    · rw [Array.getElem?_eq_none (by omega), List.getElem?_eq_none (by rw [valsN_len, takT_len]; omega)]
  have o := own_of_blk (B := w.heap.size) hb hz (by unfold maxLen; omega) (Nat.le_refl _)
  rw [e] at o
  exact o

theorem pt_post {w wr w2 : World} {zs : List Int} {ds : List Nat} {q : Option Addr} {m c' n W : Nat} {r : Value} (h : PT w wr zs ds q m c' n n) (hm : n ≤ 100000) (o : w2.ownsRow wr.heap.size 5 1 r (m - W) (valsN .u8 (ds.drop W))) (l : Below wr.heap.size wr w2) :
    TakePost w n m W zs ds (.returned (.tuple #[.slice (some ⟨w.heap.size, 0, none⟩) n n, r, .int .i64 0])) w2 :=
  ⟨_, r, rfl, own_keep (pt_end h hm) l, own_base o h.low.size, h.low.trans (l.mono h.low.size)⟩

set_option maxRecDepth 100000 in
set_option maxHeartbeats 8000000 in
theorem ptake_ok (w : World) (p q : Option Addr) (n c m c' W : Nat) (zs : List Int) (ds : List Nat) (hz : Holds w p n c (valsI .i64 zs)) (hd : Holds w q m c' (valsN .u8 ds)) (hy : Byt ds) (hn : n ≤ 1000) (hm : m ≤ 10000) (ok : okAll zs) (hW : atT zs n = W) (h : W ≤ m) :
    Calls Try.prog 23 #[.slice p n c, .slice q m c'] w (TakePost w n m W zs ds) := by
  have lz : zs.length = n := by have := hz.len; rwa [valsI_len] at this
  have wi : sumI zs = (W : Int) := by rw [← atT_all ok, lz, hW]
  have WD := Lib.hid (pwidth_any w p n c zs hz (by omega) (W : Int) 0 (by unfold widV; rw [if_pos ok]; exact wi) (by unfold widE; exact if_pos ok))
  obtain ⟨C, hC, mk⟩ := make64 n (by omega)
  have HC := Lib.hid hC
  have cp' : m ≤ c' := hd.cap
  have HZ := Lib.hid hz
  have HD := Lib.hid hd
  have LZ := Lib.hid lz
  have HN := Lib.hid hn
  have OK := Lib.hid ok
  have HW := Lib.hid hW
  have HM := Lib.hid hm
  have HY := Lib.hid hy
  have b2 : decide ((m : Int) < (W : Int)) = false := by simp; omega
  have b3 : decide (m < W) = false := by simp; omega
  have b4 : (W : Int) ≤ (m : Int) := by omega
  have b5 : (m : Int) ≤ (c' : Int) := by omega
  have b6 : (m : Int) ≤ 10000 := by omega
  have H := Lib.hid h
  have hn' : (n : Int) ≤ 1000 := by omega
  have CP := Lib.hid cp'
  have N5 : Hid (n ≤ 100000) := by unfold Hid; omega
  clear hz hd lz wi hn ok hW hm hy h cp' hC
  go_enter Try.func23, Try.ntmps23
  go_wp2_with fail
  refine WD.out.mono ?_; rintro e w' ⟨rfl, rfl⟩
  go_wp2_with fail
  refine (pplaces_any _ _ _ _).mono ?_; rintro e w' ⟨rfl, rfl⟩
  have P0 := Lib.hid (pt_start w zs ds C q m c' n HC.out)
  rw [World.size_alloc]
  generalize hw3 : ((w.alloc (.cells C 24)).alloc (.cells #[.slice q m c'] 28)).alloc (.cells #[.int .i64 0] 3) = w3 at *
  clear hw3
  go_wp2_with fail
  go_loopw [32] (fun i wr => ∃ k : Nat, i = .int .i64 k ∧ Hid (k ≤ n) ∧ Hid (PT w wr zs ds q m c' n k)) (fun i _ => 2000 - (intOf i).toNat)
  case atStart => exact ⟨0, rfl, Nat.zero_le _, P0⟩
  case round =>
    obtain ⟨k, rfl, hk, h⟩ := hrel
    by_cases g : k < n
    · have g' : (k : Int) < (n : Int) := by omega
      have G := Lib.hid g
      obtain ⟨a, ea, ca⟩ := (HZ.out.below h.out.low).atI g
      subst ea
      obtain ⟨s, es⟩ : ∃ s, (zs.getD k 0).toNat = s := ⟨_, rfl⟩
      have os := okAll_get OK.out (i := k) (by rw [LZ.out]; exact g)
      have e0 : zs.getD k 0 = (s : Int) := by unfold okS at os; omega
      rw [e0] at ca
      have s1 : 1 ≤ s := by unfold okS at os; omega
      have s8 : s ≤ 8 := by unfold okS at os; omega
      have a1 := atT_succ OK.out (k := k) (by rw [LZ.out]; exact g)
      rw [es] at a1
      have a2 := atT_mono OK.out (j := k + 1) (k := n) (by omega) (by rw [LZ.out]; exact Nat.le_refl _)
      rw [a1, HW.out] at a2
      have tm : atT zs k + s ≤ m := Nat.le_trans a2 H.out
      obtain ⟨b, eb, -⟩ := HD.out.atN (i := atT zs k) (by omega)
      subst eb
      have NX := Lib.hid (pnext_any wr (w.heap.size + 1) (w.heap.size + 1 + 1) b m c' (atT zs k) s h.out.b0 h.out.b1 tm s1 CP.out (by have := HM.out; omega))
      obtain ⟨x, ex⟩ : ∃ x, numN ((ds.drop (atT zs k)).take s) = x := ⟨_, rfl⟩
      have lo1 : Below w.heap.size w (wr.setCell ⟨w.heap.size + 1 + 1, 0, none⟩ (.int .i64 ((atT zs k + s : Nat) : Int))) := h.out.low.setCell (by simp; omega) _
      have PC := (HD.out.below lo1).piece (atT zs k) (atT zs k + s) (by omega) tm
      rw [show atT zs k + s - atT zs k = s by omega, if_neg (by have := CP.out; omega)] at PC
      have PN : Holds (wr.setCell ⟨w.heap.size + 1 + 1, 0, none⟩ (.int .i64 ((atT zs k + s : Nat) : Int))) (some (b.add (atT zs k))) s (c' - atT zs k) (valsN .u8 ((ds.drop (atT zs k)).take s)) := by
        rw [Nat.mul_one] at PC
        unfold valsN at PC ⊢
        rw [List.map_take, List.map_drop]
        exact PC
      have RD := Lib.hid (pread_any _ _ s _ _ PN (byt_take (byt_drop HY.out _) _) s1 s8 x ex)
      have ST := Lib.hid (fun w2 gw => pt_next (w2 := w2) h.out OK.out (by rw [LZ.out]; exact g) g es ex gw)
      have ad : (⟨w.heap.size, 0, none⟩ : Addr).add k = ⟨w.heap.size, k, none⟩ := add_zero' _ _
      clear g es os e0 a1 a2 tm PC PN ex s1 s8 lo1
      go_wp2_with fail
      refine NX.out.mono ?_; rintro e w' ⟨rfl, rfl⟩
      go_wp2_with fail
      refine RD.out.mono ?_; rintro e w2 ⟨rfl, gw⟩
      obtain ⟨P1, ⟨u, cu⟩, fu⟩ := ST.out w2 gw
      replace P1 := Lib.hid P1
      clear gw
      go_wp2
      go_roundw
      case rel => exact ⟨k + 1, by go_num, G.out, P1⟩
      case measure => simp [intOf]; omega
    · have g' : (n : Int) ≤ (k : Int) := by omega
      have ks : k = n := by have := hk.out; omega
      subst ks
      have hd' := HD.out.below h.out.low
      have DO := drop_own hd' H.out
      clear hd'
      rcases q with _ | b
      · have cz : c' = 0 := HD.out.bare rfl
        have mz : m = 0 := by have := CP.out; omega
        have tz : W = 0 := by have := H.out; omega
        subst cz mz tz
        rw [if_pos rfl] at DO
        have OW := Lib.hid (pcopied_any wr none 0 0 (ds.drop 0) DO (by omega))
        clear DO
        go_wp2_with fail
        refine OW.out.mono ?_; rintro e w2 ⟨r, rfl, o2, l2⟩
        have FIN := Lib.hid (pt_post (W := 0) h.out N5.out o2 l2)
        clear o2 l2
        go_wp2
        go_ret3
        exact FIN.out
      · by_cases cc : c' = W
        · rw [if_pos cc] at DO
          have z0 : c' - W = 0 := by omega
          rw [z0] at DO
          have OW := Lib.hid (pcopied_any wr (some b) (m - W) 0 (ds.drop W) DO (by have := HM.out; omega))
          clear DO z0
          go_wp2_with fail
          refine OW.out.mono ?_; rintro e w2 ⟨r, rfl, o2, l2⟩
          have FIN := Lib.hid (pt_post (W := W) h.out N5.out o2 l2)
          clear o2 l2
          go_wp2
          go_ret3
          exact FIN.out
        · rw [if_neg cc, Nat.mul_one] at DO
          have OW := Lib.hid (pcopied_any wr (some (b.add W)) (m - W) (c' - W) (ds.drop W) DO (by have := HM.out; omega))
          have cc' : ¬ W = c' := fun e => cc e.symm
          clear DO
          go_wp2_with fail
          refine OW.out.mono ?_; rintro e w2 ⟨r, rfl, o2, l2⟩
          have FIN := Lib.hid (pt_post (W := W) h.out N5.out o2 l2)
          clear o2 l2
          go_wp2
          go_ret3
          exact FIN.out

theorem ptake_all (w : World) (p q : Option Addr) (n c m c' : Nat) (zs : List Int) (ds : List Nat) (hz : Holds w p n c (valsI .i64 zs)) (hd : Holds w q m c' (valsN .u8 ds)) (hy : Byt ds) (hn : n ≤ 1000) (hm : m ≤ 10000) :
    Calls Try.prog 23 #[.slice p n c, .slice q m c'] w (TakR w (takX zs ds) (takD zs ds) (takE zs ds)) := by
  have lz : zs.length = n := by have := hz.len; rwa [valsI_len] at this
  have ld : ds.length = m := by have := hd.len; rwa [valsN_len] at this
  subst lz ld
  unfold takX takD takE
  by_cases ok : okAll zs
  · by_cases g : sumI zs ≤ (ds.length : Int)
    · rw [if_pos ⟨ok, g⟩, if_pos ⟨ok, g⟩, if_pos ok, if_neg (by omega)]
      have aw := atT_all ok
      have wm : atT zs zs.length ≤ ds.length := by omega
      refine (ptake_ok w p q _ c _ c' (atT zs zs.length) zs ds hz hd hy hn hm ok rfl wm).mono fun e w' k => ?_
      obtain ⟨v, r, rfl, o1, o2, l⟩ := k.out
      have e1 := takT_len zs ds zs.length
      have e2 : (ds.drop (atT zs zs.length)).length = ds.length - atT zs zs.length := List.length_drop
      rw [← e2] at o2
      generalize takT zs ds zs.length = X at *
      rw [← e1] at o1
      obtain ⟨p1, c1, rfl, n1⟩ := own_new o1
      obtain ⟨p2, c2, rfl, n2⟩ := own_new o2
      exact ⟨p1, c1, p2, c2, rfl, n1, n2, l⟩
    · rw [if_neg (fun x => g x.2), if_neg (fun x => g x.2), if_pos ok, if_pos (by omega)]
      exact (ptake_short w p q _ c _ c' zs hz hn ok (by omega)).mono fun e w' k => ⟨none, 0, none, 0, k.1, New.nil _ _, New.nil _ _, k.2⟩
  · rw [if_neg (fun x => ok x.1), if_neg (fun x => ok x.1), if_neg ok]
    exact (ptake_arg w p q _ c _ c' zs hz hn ok).mono fun e w' k => ⟨none, 0, none, 0, k.1, New.nil _ _, New.nil _ _, k.2⟩
end Go.Proofs.Ytjjbalgonkphjaa

