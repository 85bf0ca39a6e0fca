/- Contracts of the document's own answers for layer 1 (package ephemerisref01): rows of digits: reading, adding, taking away, comparing. -/
import Derived.Test.YtokhlagcflkocaaBigM
import Derived.Test.YtokhlagcflkocaaFixQ
import Derived.LoopTactic
import Derived.Outline
namespace Go.Proofs.Ytokhlagcflkocaa
open Go.ChangeShapes Go.WideShapes Go.ChangeAt Go.RowKit BigM

/-- v holds the digits ds, in a row of its own from block B on, or is nil and holds none. -/
def OwnAt (B : Nat) (w : World) (v : Value) (ds : List Nat) : Prop := w.ownsRow B 69 1 v ds.length (ds.map fun d : Nat => Value.int .u32 (d : Int))
abbrev Own := OwnAt 0

theorem own_nil (B : Nat) (w : World) : OwnAt B w (.slice none 0 0) [] := World.ownsRow_nil w B _ 1
theorem OwnAt.weak {B : Nat} {w : World} {v : Value} {ds : List Nat} (h : OwnAt B w v ds) : Own w v ds := by
  refine ⟨h.1, ?_⟩
  rcases h.2 with hn | ⟨g, cap, cur, rfl, hb, r⟩
  · exact .inl hn
  · exact .inr ⟨g, cap, cur, rfl, Nat.zero_le _, r⟩

theorem own_shape {w : World} {v : Value} {ds : List Nat} (h : Own w v ds) : (v = .slice none 0 0 ∧ ds = []) ∨
    ∃ g cap, v = .slice (some ⟨g, 0, none⟩) ds.length cap ∧ ds.length ≤ cap ∧ cap ≤ maxLen ∧ g < w.heap.size ∧ ∀ j, j < ds.length → w.cell? ⟨g, j, none⟩ = some (.int .u32 (ds.getD j 0 : Nat)) := by
  have hc := h
  obtain ⟨hl, hn | ⟨g, cap, cur, rfl, hb, hg, h1, h2, h3, h4⟩⟩ := h
  · left; exact ⟨hn.1, List.length_eq_zero_iff.1 hn.2⟩
  · right
    refine ⟨g, cap, rfl, h1, h2, (Array.getElem?_eq_some_iff.1 hg).1, fun j hj => ?_⟩
    have c := World.ownsRow.cells hc (g := g) rfl j (.int .u32 (ds.getD j 0 : Nat)) (by
      rw [List.getElem?_map, List.getElem?_eq_getElem hj, List.getD_eq_getElem?_getD, List.getElem?_eq_getElem hj]; rfl)
    have hadd : (⟨g, 0, none⟩ : Addr).add j = ⟨g, j, none⟩ := by unfold Addr.add; split <;> simp_all
    rw [hadd] at c
    exact c

theorem own_below {w w' : World} {v : Value} {ds : List Nat} (h : Own w v ds) (hb : Below w.heap.size w w') : Own w' v ds := by
  refine ⟨h.1, ?_⟩
  rcases h.2 with hn | ⟨g, cap, cur, rfl, hb', hg, r⟩
  · exact .inl hn
  · refine .inr ⟨g, cap, cur, rfl, hb', ?_, r⟩
    rw [hb.block g (Array.getElem?_eq_some_iff.1 hg).1]
    exact hg

theorem at_any (w : World) (v : Value) (ds : List Nat) (i : Nat) (h : Own w v ds) :
    Calls Try.prog 55 #[v, .int .i64 i] w fun e w' => e = .returned (.int .u32 (ds.getD i 0 : Nat)) ∧ w = w' := by
  rcases own_shape h with ⟨rfl, rfl⟩ | ⟨g, cap, rfl, h1, h2, hg, hc⟩
  · go_enter Try.func55, Try.ntmps55
    go_wp2
    all_goals (go_ret; exact ⟨rfl, rfl⟩)
  · unfold maxLen at h2
    by_cases hi : i < ds.length
    · have c := hc i hi
      have hi' : (i : Int) < (ds.length : Int) := by omega
      obtain ⟨n, hn⟩ : ∃ n, n = ds.length := ⟨_, rfl⟩
      obtain ⟨d, hd⟩ : ∃ d, d = ds.getD i 0 := ⟨_, rfl⟩
      rw [← hn] at hi hi' h1 ⊢
      rw [← hd] at c ⊢
      clear hn hd hc h
      go_enter Try.func55, Try.ntmps55
      go_wp2
      go_ret
      exact ⟨rfl, rfl⟩
    · have hi' : ¬ ((i : Int) < (ds.length : Int)) := by omega
      have hz : ds.getD i 0 = 0 := by rw [List.getD_eq_getElem?_getD, List.getElem?_eq_none (by omega)]; rfl
      rw [hz]
      obtain ⟨n, hn⟩ : ∃ n, n = ds.length := ⟨_, rfl⟩
      rw [← hn] at hi hi' h1 ⊢
      clear hn hz hc h
      go_enter Try.func55, Try.ntmps55
      go_wp2
      go_ret
      exact ⟨rfl, rfl⟩

theorem at_of (w : World) (v : Value) (ds : List Nat) (i x : Nat) (h : Own w v ds) (hx : ds.getD i 0 = x) :
    Calls Try.prog 55 #[v, .int .i64 i] w fun e w' => e = .returned (.int .u32 x) ∧ w = w' := by
  have c := at_any w v ds i h
  rw [hx] at c
  exact c

/-- The one cell of a block that was just laid. -/
theorem one_new (w : World) (x : Value) (T : TypeId) : ∀ (j : Nat) (u : Value), [x][j]? = some u → (w.alloc (.cells #[x] T)).cell? ((⟨w.heap.size, 0, none⟩ : Addr).add j) = some u := by
  intro j u hu
  rcases j with _ | j
  · have e : x = u := by simpa using hu
    subst e
    have hadd : (⟨w.heap.size, 0, none⟩ : Addr).add 0 = ⟨w.heap.size, 0, none⟩ := by unfold Addr.add; split <;> simp_all
    rw [hadd, World.cell?_alloc_at _ _ _ _ rfl]
    rfl
  · simp at hu

theorem one_cell (d : Nat) : ∀ u ∈ [Value.int .u32 (d : Int)], u.oneCell' = true := by
  intro u hu
  simp at hu
  subst hu
  rfl

theorem info32 : (Try.prog.info? 69).map (fun i => (i.zero, i.size, i.bytes)) = some (some (.int .u32 0), 1, 4) := by kernel_rfl

/-- What stands at a head of adding's rounds. -/
structure PlusRel (B : Nat) (w : World) (a b : List Nat) (wr : World) (v : Value) (out : List Nat) (k c : Nat) : Prop where
  own : OwnAt B wr v out
  low : Below B w wr
  dig : Dig out
  len : out.length = k
  car : c ≤ 1
  sum : val out + 65536 ^ k * c = val (a.take k) + val (b.take k)
  top : k ≤ max a.length b.length + 1

structure PlusPost (w : World) (n L : Nat) (e : Ending) (w' : World) : Prop where
  out : ∃ v ds, e = .returned v ∧ Own w' v ds ∧ Dig ds ∧ val ds = n ∧ ds.length ≤ L ∧ Below w.heap.size w w'

/-- At the greatest length nothing is carried. -/
theorem plus_top {a b out : List Nat} {k c : Nat} (ha : Dig a) (hb : Dig b) (hk : k = max a.length b.length + 1) (h : val out + 65536 ^ k * c = val (a.take k) + val (b.take k)) : c = 0 := by
  rw [val_take_all (by omega), val_take_all (by omega)] at h
  have u1 := val_lt ha
  have u2 := val_lt hb
  have p1 := Nat.pow_le_pow_right (n := 65536) (by omega) (show a.length ≤ max a.length b.length by omega)
  have p2 := Nat.pow_le_pow_right (n := 65536) (by omega) (show b.length ≤ max a.length b.length by omega)
  rw [hk, Nat.pow_succ] at h
  rcases Nat.eq_zero_or_pos c with g | g
  · exact g
  · have : 65536 ^ max a.length b.length * 65536 * 1 ≤ 65536 ^ max a.length b.length * 65536 * c := Nat.mul_le_mul_left _ g
    omega

theorem plus_next {B : Nat} {w wr w1 : World} {a b out : List Nat} {v v' : Value} {k c : Nat} {o : Obj} (ha : Dig a) (hb : Dig b) (hB : B ≤ wr.heap.size) (h : PlusRel B w a b wr v out k c) (hk : k ≤ max a.length b.length)
    (hown' : w1.ownsRow B 69 1 v' (out.length + 1) (out.map (fun d : Nat => Value.int .u32 (d : Int)) ++ [.int .u32 (((a.getD k 0 + b.getD k 0 + c) % 65536 : Nat) : Int)]))
    (hgrow : (wr.alloc o).grownBy w1 v.ownBlock) :
    PlusRel B w a b w1 v' (out ++ [(a.getD k 0 + b.getD k 0 + c) % 65536]) (k + 1) ((a.getD k 0 + b.getD k 0 + c) / 65536) := by
  obtain ⟨s1, s2⟩ := plus_step ha hb h.len h.car h.sum
  refine ⟨?_, ?_, dig_snoc h.dig (Nat.mod_lt _ (by omega)), by simp [h.len], s2, s1, by omega⟩
  · unfold OwnAt
    rw [List.length_append, List.map_append]
    exact hown'
  · exact (h.low.alloc (by omega) o).grown hgrow (by simp; omega) (fun j hj => (World.ownsRow.lt h.own j hj).1)

set_option maxHeartbeats 2000000 in
theorem plus_any (w : World) (va vb : Value) (a b : List Nat) (oa : Own w va a) (ob : Own w vb b) (ha : Dig a) (hb : Dig b) (la : a.length ≤ 1000) (lb : b.length ≤ 1000) :
    Calls Try.prog 48 #[va, vb] w (PlusPost w (val a + val b) (max a.length b.length + 1)) := by
  obtain ⟨i0, hi, hz0, hz1, hz2⟩ := info_parts info32
  obtain ⟨na, hna⟩ : ∃ n, n = a.length := ⟨_, rfl⟩
  obtain ⟨nb, hnb⟩ : ∃ n, n = b.length := ⟨_, rfl⟩
  have lenA : ∃ pa ca, va = .slice pa na ca := by
    rcases own_shape oa with ⟨h1, h2⟩ | ⟨g, cap, h1, _⟩
    · exact ⟨none, 0, by rw [h1, hna, h2]; rfl⟩
    · exact ⟨_, cap, by rw [h1, hna]⟩
  have lenB : ∃ pb cb, vb = .slice pb nb cb := by
    rcases own_shape ob with ⟨h1, h2⟩ | ⟨g, cap, h1, _⟩
    · exact ⟨none, 0, by rw [h1, hnb, h2]; rfl⟩
    · exact ⟨_, cap, by rw [h1, hnb]⟩
  obtain ⟨pa, ca, rfl⟩ := lenA
  obtain ⟨pb, cb, rfl⟩ := lenB
  have OA := Lib.hid oa
  have OB := Lib.hid ob
  have HA := Lib.hid ha
  have HB := Lib.hid hb
  have NA := Lib.hid hna
  have NB := Lib.hid hnb
  have la' : na ≤ 1000 := by omega
  have lb' : nb ≤ 1000 := by omega
  clear oa ob ha hb hna hnb la lb
  go_enter Try.func48, Try.ntmps48
  go_wp2
  go_loopw [5, 6, 7] (fun v c i wr => ∃ (out : List Nat) (k cc : Nat), c = .int .u32 cc ∧ i = .int .i64 k ∧ PlusRel w.heap.size w a b wr v out k cc) (fun _ _ i _ => 2000 - (intOf i).toNat)
  case atStart => exact ⟨[], 0, 0, rfl, rfl, ⟨own_nil _ _, Below.refl _ _, by intro d hd; simp at hd, rfl, by omega, by simp [val], by omega⟩⟩
  case round =>
    obtain ⟨out, k, cc, rfl, rfl, h⟩ := hrel
    have HR := Lib.hid h
    clear h
    have k1 : k ≤ 1001 := by have := HR.out.top; have := NA.out; have := NB.out; omega
    obtain ⟨x, hx⟩ : ∃ x, a.getD k 0 = x := ⟨_, rfl⟩
    obtain ⟨y, hy⟩ : ∃ y, b.getD k 0 = y := ⟨_, rfl⟩
    have x1 : x < 65536 := by rw [← hx]; exact dig_getD HA.out k
    have y1 : y < 65536 := by rw [← hy]; exact dig_getD HB.out k
    have c1 := HR.out.car
    have ol := HR.out.len
    have bl := HR.out.low.size
    obtain ⟨s, hs⟩ : ∃ s, s = x + y := ⟨_, rfl⟩
    obtain ⟨t, ht⟩ : ∃ t, t = s + cc := ⟨_, rfl⟩
    obtain ⟨d, hd⟩ : ∃ d, d = t % 65536 := ⟨_, rfl⟩
    obtain ⟨q, hq⟩ : ∃ q, q = t / 65536 := ⟨_, rfl⟩
    have e1 : IntKind.u32.wrap ((x : Int) + (y : Int)) = (s : Int) := by rw [IntKind.wrap_u32]; omega
    have e2 : IntKind.u32.wrap ((s : Int) + (cc : Int)) = (t : Int) := by rw [IntKind.wrap_u32]; omega
    have e3 : (t : Int) % 65536 = (d : Int) := by omega
    have e4 : (t : Int) / 65536 = (q : Int) := by omega
    have e5 : (q : Int) % 4294967296 = (q : Int) := by omega
    have X := Lib.hid hx
    have Y := Lib.hid hy
    have DD : Hid (d = (a.getD k 0 + b.getD k 0 + cc) % 65536) := by unfold Hid; rw [hd, ht, hs, hx, hy]
    have QQ : Hid (q = (a.getD k 0 + b.getD k 0 + cc) / 65536) := by unfold Hid; rw [hq, ht, hs, hx, hy]
    have OL := Lib.hid ol
    have BL := Lib.hid bl
    clear hx hy hs ht hd hq ol bl x1 y1
    have BM : Hid (out.length + 1 ≤ maxLen) := by unfold Hid maxLen; rw [OL.out]; omega
    have BY : Hid ((out.length + 1) * 4 ≤ 140737488355328) := by unfold Hid; rw [OL.out]; omega
    have BS : Hid (w.heap.size ≤ (wr.alloc (.cells #[.int .u32 (d : Int)] 69)).heap.size) := by unfold Hid; simp; have := BL.out; omega
    by_cases ca1 : (k : Int) < (na : Int)
    · have kk : Hid (k ≤ max a.length b.length) := by unfold Hid; have := NA.out; omega
      go_wp2_with fail
      refine (at_of _ _ a k x (own_below OA.out HR.out.low) X.out).mono ?_; rintro e w' ⟨rfl, rfl⟩
      go_wp2_with fail
      refine (at_of _ _ b k y (own_below OB.out HR.out.low) Y.out).mono ?_; rintro e w' ⟨rfl, rfl⟩
      go_wp2_with (at_builtin; refine wpList_append_own _ rfl _ _ 52 rfl w.heap.size 69 i0 (.int .u32 0) 1 4 Try.underlying52 hi hz0 hz1 hz2 rfl (by decide) _ _ _ rfl (World.ownsRow.alloc HR.out.own _) ⟨wr.heap.size, 0, none⟩ 1 1 [.int .u32 (d : Int)] rfl rfl (one_new wr _ _) (one_cell d) BM.out BY.out BS.out ?_)
      intro v' w1 hown1 hgrow1 _
      have HN : Hid (PlusRel w.heap.size w a b w1 v' (out ++ [d]) (k + 1) q) := by
        unfold Hid
        rw [DD.out, QQ.out]
        rw [DD.out] at hown1
        exact plus_next HA.out HB.out BL.out HR.out kk.out hown1 hgrow1
      clear hown1 hgrow1
      go_wp2
      go_roundw
      case rel => exact ⟨out ++ [d], k + 1, q, rfl, by go_num, HN.out⟩
      case measure => simp [intOf]; omega
    · by_cases ca2 : (k : Int) < (nb : Int)
      · have kk : Hid (k ≤ max a.length b.length) := by unfold Hid; have := NB.out; omega
        go_wp2_with fail
        refine (at_of _ _ a k x (own_below OA.out HR.out.low) X.out).mono ?_; rintro e w' ⟨rfl, rfl⟩
        go_wp2_with fail
        refine (at_of _ _ b k y (own_below OB.out HR.out.low) Y.out).mono ?_; rintro e w' ⟨rfl, rfl⟩
        go_wp2_with (at_builtin; refine wpList_append_own _ rfl _ _ 52 rfl w.heap.size 69 i0 (.int .u32 0) 1 4 Try.underlying52 hi hz0 hz1 hz2 rfl (by decide) _ _ _ rfl (World.ownsRow.alloc HR.out.own _) ⟨wr.heap.size, 0, none⟩ 1 1 [.int .u32 (d : Int)] rfl rfl (one_new wr _ _) (one_cell d) BM.out BY.out BS.out ?_)
        intro v' w1 hown1 hgrow1 _
        have HN : Hid (PlusRel w.heap.size w a b w1 v' (out ++ [d]) (k + 1) q) := by
          unfold Hid
          rw [DD.out, QQ.out]
          rw [DD.out] at hown1
          exact plus_next HA.out HB.out BL.out HR.out kk.out hown1 hgrow1
        clear hown1 hgrow1
        go_wp2
        go_roundw
        case rel => exact ⟨out ++ [d], k + 1, q, rfl, by go_num, HN.out⟩
        case measure => simp [intOf]; omega
      · by_cases ca3 : 0 < (cc : Int)
        · have kk : Hid (k ≤ max a.length b.length) := by
            unfold Hid
            have h0 := HR.out.top
            rcases Nat.lt_or_ge (max a.length b.length) k with g | g
            · have := plus_top HA.out HB.out (show k = max a.length b.length + 1 by omega) HR.out.sum
              omega
            · exact g
          go_wp2_with fail
          refine (at_of _ _ a k x (own_below OA.out HR.out.low) X.out).mono ?_; rintro e w' ⟨rfl, rfl⟩
          go_wp2_with fail
          refine (at_of _ _ b k y (own_below OB.out HR.out.low) Y.out).mono ?_; rintro e w' ⟨rfl, rfl⟩
          go_wp2_with (at_builtin; refine wpList_append_own _ rfl _ _ 52 rfl w.heap.size 69 i0 (.int .u32 0) 1 4 Try.underlying52 hi hz0 hz1 hz2 rfl (by decide) _ _ _ rfl (World.ownsRow.alloc HR.out.own _) ⟨wr.heap.size, 0, none⟩ 1 1 [.int .u32 (d : Int)] rfl rfl (one_new wr _ _) (one_cell d) BM.out BY.out BS.out ?_)
          intro v' w1 hown1 hgrow1 _
          have HN : Hid (PlusRel w.heap.size w a b w1 v' (out ++ [d]) (k + 1) q) := by
            unfold Hid
            rw [DD.out, QQ.out]
            rw [DD.out] at hown1
            exact plus_next HA.out HB.out BL.out HR.out kk.out hown1 hgrow1
          clear hown1 hgrow1
          go_wp2
          go_roundw
          case rel => exact ⟨out ++ [d], k + 1, q, rfl, by go_num, HN.out⟩
          case measure => simp [intOf]; omega
        · have fin : PlusPost w (val a + val b) (max a.length b.length + 1) (.returned u5) wr := by
            refine ⟨u5, out, rfl, HR.out.own.weak, HR.out.dig, ?_, by rw [OL.out]; exact HR.out.top, HR.out.low⟩
            have h := HR.out.sum
            rw [val_take_all (by have := NA.out; omega), val_take_all (by have := NB.out; omega)] at h
            obtain rfl : cc = 0 := by omega
            simpa using h
          have FIN := Lib.hid fin
          clear fin
          go_wp2
          go_ret
          exact FIN.out
end Go.Proofs.Ytokhlagcflkocaa

