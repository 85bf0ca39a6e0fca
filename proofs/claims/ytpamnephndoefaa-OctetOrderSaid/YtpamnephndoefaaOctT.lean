/- Contracts of the document's own answers for layer 3 (octet): rows taken. -/
import Derived.Test.YtpamnephndoefaaOctL
namespace Go.Proofs.Ytpamnephndoefaa
open Go.ChangeShapes Go.WideShapes Go.ChangeAt Go.RowKit OctM

theorem info64 : (Try.prog.info? 40).map (fun i => (i.zero, i.size, i.bytes)) = some (some (.int .u64 0), 1, 8) := by kernel_rfl

theorem rtake_arg (w : World) (p q : Option Addr) (n c m c' : Nat) (zs : List Int) (hz : Holds w p n c (valsI .i64 zs)) (hn : n ≤ 1000) (h : ¬ okAll zs) :
    Calls Try.prog 14 #[.slice p n c, .slice q m c'] w (TellPost w (.returned (.tuple #[.slice none 0 0, .slice none 0 0, .int .i64 1]))) := by
  have FIN : Hid (TellPost w (.returned (.tuple #[.slice none 0 0, .slice none 0 0, .int .i64 1])) (.returned (.tuple #[.slice none 0 0, .slice none 0 0, .int .i64 1])) w) := ⟨rfl, Below.refl _ _⟩
  have WD := Lib.hid (rwidth_any w p n c zs hz (by omega) (-1) (by unfold widthI; exact if_neg h))
  clear h hz hn
  go_enter Try.func14, Try.ntmps14
  go_wp2_with fail
  refine WD.out.mono ?_; rintro e w' ⟨rfl, rfl⟩
  go_wp2
  go_ret3
  exact FIN.out

theorem rtake_short (w : World) (p q : Option Addr) (n c m c' : Nat) (zs : List Int) (hz : Holds w p n c (valsI .i64 zs)) (hn : n ≤ 1000) (ok : okAll zs) (h : (m : Int) < sumI zs) :
    Calls Try.prog 14 #[.slice p n c, .slice q m c'] w (TellPost w (.returned (.tuple #[.slice none 0 0, .slice none 0 0, .int .i64 4]))) := by
  have FIN : Hid (TellPost w (.returned (.tuple #[.slice none 0 0, .slice none 0 0, .int .i64 4])) (.returned (.tuple #[.slice none 0 0, .slice none 0 0, .int .i64 4])) w) := ⟨rfl, Below.refl _ _⟩
  have WD := Lib.hid (rwidth_any w p n c zs hz (by omega) (sumI zs) (by unfold widthI; exact if_pos ok))
  have b0 : 0 ≤ sumI zs := by have := sumI_le ok; omega
  have b1 : decide (sumI zs < 0) = false := by simp; omega
  have b2 : decide ((m : Int) < sumI zs) = true := by simp; omega
  generalize sumI zs = t at *
  clear hz hn ok
  go_enter Try.func14, Try.ntmps14
  go_wp2_with fail
  refine WD.out.mono ?_; rintro e w' ⟨rfl, rfl⟩
  go_wp2
  go_ret3
  exact FIN.out

structure TRel (w wr : World) (zs : List Int) (ds : List Nat) (v : Value) (k : Nat) : Prop where
  own : wr.ownsRow w.heap.size 40 1 v k (valsN .u64 (takT zs ds k))
  low : Below w.heap.size w wr

structure TakePost (w : World) (n m W : Nat) (zs : List Int) (ds : List Nat) (e : Ending) (w' : World) : Prop where
  out : ∃ v r, e = .returned (.tuple #[v, r, .int .i64 0]) ∧ w'.ownsRow w.heap.size 40 1 v n (valsN .u64 (takT zs ds n)) ∧ w'.ownsRow w.heap.size 5 1 r (m - W) (valsN .u8 (ds.drop W)) ∧ Below w.heap.size w w'

theorem one_new8 (w : World) (x : Value) (T : TypeId) : ∀ (j : Nat) (u : Value), [x][j]? = some u → (w.alloc (.cells #[x] T)).cell? ((⟨w.heap.size, 0, none⟩ : Addr).add j) = some u := by
  intro j u hu
  rcases j with _ | j
  · have e : x = u := by simpa using hu
    subst e
    rw [add_zero', World.cell?_alloc_at _ _ _ _ rfl]
    rfl
  · simp at hu
theorem one_int (k : IntKind) (d : Int) : ∀ u ∈ [Value.int k d], u.oneCell' = true := by
  intro u hu
  simp at hu
  subst hu
  rfl

theorem trel_next {w wr w2 : World} {zs : List Int} {ds : List Nat} {v v' : Value} {k x : Nat} {o : Obj} (h : TRel w wr zs ds v k) (hx : numN ((ds.drop (atT zs k)).take (zs.getD k 0).toNat) = x)
    (ho : w2.ownsRow w.heap.size 40 1 v' (k + 1) (valsN .u64 (takT zs ds k) ++ [.int .u64 x])) (hg : (wr.alloc o).grownBy w2 v.ownBlock) : TRel w w2 zs ds v' (k + 1) := by
  refine ⟨?_, (h.low.alloc h.low.size o).grown hg (by simp; have := h.low.size; omega) (fun j hj => (World.ownsRow.lt h.own j hj).1)⟩
  show w2.ownsRow _ _ _ _ _ (valsN .u64 (takT zs ds k ++ [numN ((ds.drop (atT zs k)).take (zs.getD k 0).toNat)]))
  rw [valsN_append, hx]
  exact ho

theorem drop_own {w : World} {p : Option Addr} {m c W : Nat} {ds : List Nat} (h : Holds w p m c (valsN .u8 ds)) (hW : W ≤ m) : Holds w (if c = W then p else p.map (·.add (W * 1))) (m - W) (c - W) (valsN .u8 (ds.drop W)) := by
  have a := h.piece W m hW (Nat.le_refl _)
  have l := h.len
  unfold valsN at a l ⊢
  rw [List.length_map] at l
  rw [List.map_drop]
  rwa [List.take_of_length_le (by rw [List.length_drop, List.length_map]; omega)] at a

set_option maxHeartbeats 3200000 in
theorem rtake_ok (w : World) (p q : Option Addr) (n c m c' W : Nat) (zs : List Int) (ds : List Nat) (hz : Holds w p n c (valsI .i64 zs)) (hd : Holds w q m c' (valsN .u8 ds)) (hy : Byt ds) (hn : n ≤ 1000) (hm : m ≤ 140737488355328) (ok : okAll zs) (hW : atT zs n = W) (h : W ≤ m) :
    Calls Try.prog 14 #[.slice p n c, .slice q m c'] w (TakePost w n m W zs ds) := by
  obtain ⟨i0, hi, hz0, hz1, hz2⟩ := info_of info64
  have lz : zs.length = n := by have := hz.len; rwa [valsI_len] at this
  have sb := sumI_le ok
  have wi : sumI zs = (W : Int) := by rw [← atT_all ok, lz, hW]
  have WD := Lib.hid (rwidth_any w p n c zs hz (by omega) (W : Int) (by unfold widthI; rw [← wi]; exact if_pos ok))
  have cp' : m ≤ c' := hd.cap
  have HZ := Lib.hid hz
  have HD := Lib.hid hd
  have LZ := Lib.hid lz
  have HN := Lib.hid hn
  have OK := Lib.hid ok
  have HW := Lib.hid hW
  have HM := Lib.hid hm
  have HY := Lib.hid hy
  have b1 : decide ((W : Int) < 0) = false := by simp
  have b2 : decide ((m : Int) < (W : Int)) = false := by simp; omega
  have b3 : decide (m < W) = false := by simp; omega
  have b4 : (W : Int) ≤ (m : Int) := by omega
  have b5 : (m : Int) ≤ (c' : Int) := by omega
  have b6 : (m : Int) ≤ 140737488355328 := by omega
  have H := Lib.hid h
  have hn' : (n : Int) ≤ 1000 := by omega
  have CP := Lib.hid cp'
  clear hz hd lz sb wi hn ok hW hm hy h cp'
  go_enter Try.func14, Try.ntmps14
  go_wp2_with fail
  refine WD.out.mono ?_; rintro e w' ⟨rfl, rfl⟩
  go_wp2_with fail
  go_loopw [8, 9, 10] (fun v a i wr => ∃ (k t : Nat), i = .int .i64 k ∧ a = .int .i64 t ∧ Hid (k ≤ n) ∧ Hid (atT zs k = t) ∧ Hid (TRel w wr zs ds v k)) (fun _ _ i _ => 2000 - (intOf i).toNat)
  case atStart => exact ⟨0, 0, rfl, rfl, Nat.zero_le _, rfl, ⟨World.ownsRow_nil w _ _ 1, Below.refl _ _⟩⟩
  case round =>
    obtain ⟨k, t, rfl, rfl, hk, ht, h⟩ := hrel
    by_cases g : k < n
    · have g' : (k : Int) < (n : Int) := by omega
      have G := Lib.hid g
      obtain ⟨a, ea, ca⟩ := (HZ.out.below h.out.low).atI g
      subst ea
      obtain ⟨s, es⟩ : ∃ s, (zs.getD k 0).toNat = s := ⟨_, rfl⟩
      have os := okAll_get OK.out (i := k) (by rw [LZ.out]; exact g)
      have e0 : zs.getD k 0 = (s : Int) := by unfold okS at os; omega
      rw [e0] at ca
      have s1 : (1 : Int) ≤ (s : Int) := by unfold okS at os; omega
      have s8 : (s : Int) ≤ 8 := by unfold okS at os; omega
      have a1 := atT_succ OK.out (k := k) (by rw [LZ.out]; exact g)
      rw [ht.out, es] at a1
      have a2 := atT_mono OK.out (j := k + 1) (k := n) (by omega) (by rw [LZ.out]; exact Nat.le_refl _)
      rw [a1, HW.out] at a2
      have tm : t + s ≤ m := Nat.le_trans a2 H.out
      have tm' : (t : Int) + (s : Int) ≤ (m : Int) := by omega
      obtain ⟨b, eb, -⟩ := HD.out.atN (i := t) (by omega)
      subst eb
      have PC := (HD.out.below h.out.low).piece t (t + s) (by omega) tm
      rw [show t + s - t = s by omega, if_neg (by have := CP.out; omega)] at PC
      obtain ⟨x, ex⟩ : ∃ x, numN ((ds.drop t).take s) = x := ⟨_, rfl⟩
      have PN : Holds wr (some (b.add t)) s (c' - t) (valsN .u8 ((ds.drop t).take s)) := by
        rw [Nat.mul_one] at PC
        unfold valsN at PC ⊢
        rw [List.map_take, List.map_drop]
        exact PC
      have NB := Lib.hid (rnumber_any wr _ s _ _ PN (byt_take (byt_drop HY.out _) _) (by omega) x ex)
      have EX : Hid (numN ((ds.drop (atT zs k)).take (zs.getD k 0).toNat) = x) := by unfold Hid; rw [ht.out, es]; exact ex
      have A1 := Lib.hid a1
      have BM : Hid (k + 1 ≤ maxLen) := by unfold Hid maxLen; have := HN.out; omega
      have BY : Hid ((k + 1) * 8 ≤ 140737488355328) := by unfold Hid; have := HN.out; omega
      have E0 : t + s - t = s := by omega
      have cn : ¬ c' = t := by have := CP.out; omega
      clear g es os e0 a1 a2 tm PC PN ex
      go_wp2_with fail
      refine NB.out.mono ?_; rintro e w' ⟨rfl, rfl⟩
      have BS : Hid (w.heap.size ≤ (wr.alloc (.cells #[.int .u64 (x : Int)] 40)).heap.size) := by unfold Hid; simp; have := h.out.low.size; omega
      go_wp2_with (at_builtin; refine wpList_append_own _ rfl _ _ 23 rfl w.heap.size 40 i0 (.int .u64 0) 1 8 Try.underlying23 hi hz0 hz1 hz2 rfl (by decide) _ _ _ rfl (World.ownsRow.alloc h.out.own _) ⟨wr.heap.size, 0, none⟩ 1 1 [.int .u64 (x : Int)] rfl rfl (one_new8 wr _ _) (one_int _ _) BM.out BY.out BS.out ?_)
      intro v' w2 o2 g2 _
      have NX := Lib.hid (trel_next h.out EX.out o2 g2)
      have ca2 : w2.cell? (a.add k) = some (.int .i64 (s : Int)) := by
        have l := NX.out.low
        obtain ⟨a', e', c2⟩ := (HZ.out.below l).atI G.out
        cases e'
        have e1 : zs.getD k 0 = (s : Int) := by
          obtain ⟨a'', e'', c3⟩ := (HZ.out.below h.out.low).atI G.out
          cases e''
          rw [ca] at c3
          injection c3 with c3
          injection c3 with _ c3
          exact c3.symm
        rw [e1] at c2
        exact c2
      clear o2 g2
      go_wp2
      go_roundw
      case rel => exact ⟨k + 1, t + s, by go_num, by go_num, G.out, A1.out, NX⟩
      case measure => simp [intOf]; omega
    · have g' : (n : Int) ≤ (k : Int) := by omega
      have ks : k = n := by have := hk.out; omega
      subst ks
      have tW : t = W := by have := ht.out; have := HW.out; omega
      subst tW
      have hd' := HD.out.below h.out.low
      have DO := drop_own hd' H.out
      clear hd'
      rcases q with _ | b
      · have cz : c' = 0 := HD.out.bare rfl
        have mz : m = 0 := by have := CP.out; omega
        have tz : t = 0 := by have := H.out; omega
        subst cz mz tz
        rw [if_pos rfl] at DO
        have OW := Lib.hid (rown_any wr none 0 0 (ds.drop 0) DO (by omega))
        clear DO
        go_wp2_with fail
        refine OW.out.mono ?_; rintro e w2 ⟨r, rfl, o2, l2⟩
        have FIN : Hid (TakePost w k 0 0 zs ds (.returned (.tuple #[u8, r, .int .i64 0])) w2) :=
          ⟨u8, r, rfl, own_keep h.out.own l2, own_base o2 h.out.low.size, h.out.low.trans (l2.mono h.out.low.size)⟩
        clear o2 l2
        go_wp2
        go_ret3
        exact FIN.out
      · by_cases cc : c' = t
        · rw [if_pos cc] at DO
          have z0 : c' - t = 0 := by omega
          rw [z0] at DO
          have OW := Lib.hid (rown_any wr (some b) (m - t) 0 (ds.drop t) DO (by have := HM.out; omega))
          clear DO z0
          go_wp2_with fail
          refine OW.out.mono ?_; rintro e w2 ⟨r, rfl, o2, l2⟩
          have FIN : Hid (TakePost w k m t zs ds (.returned (.tuple #[u8, r, .int .i64 0])) w2) :=
            ⟨u8, r, rfl, own_keep h.out.own l2, own_base o2 h.out.low.size, h.out.low.trans (l2.mono h.out.low.size)⟩
          clear o2 l2
          go_wp2
          go_ret3
          exact FIN.out
        · rw [if_neg cc, Nat.mul_one] at DO
          have OW := Lib.hid (rown_any wr (some (b.add t)) (m - t) (c' - t) (ds.drop t) DO (by have := HM.out; omega))
          have cc' : ¬ t = c' := fun e => cc e.symm
          clear DO
          go_wp2_with fail
          refine OW.out.mono ?_; rintro e w2 ⟨r, rfl, o2, l2⟩
          have FIN : Hid (TakePost w k m t zs ds (.returned (.tuple #[u8, r, .int .i64 0])) w2) :=
            ⟨u8, r, rfl, own_keep h.out.own l2, own_base o2 h.out.low.size, h.out.low.trans (l2.mono h.out.low.size)⟩
          clear o2 l2
          go_wp2
          go_ret3
          exact FIN.out
end Go.Proofs.Ytpamnephndoefaa
