/- Layer 6 (mac), the document's own words of bytes. -/
import Derived.Test.YtkojgegfmhoomaaMacA
import Derived.Deep.AppendLies
namespace Go.Proofs.Ytkojgegfmhoomaa
open Go.ChangeShapes Go.WideShapes Go.ChangeAt Go.RowKit OctM

theorem infoI_of {o : Option TypeInfo} {z : Option Value} {s b : Nat} (h : o.map (fun i => (i.zero, i.size, i.bytes)) = some (z, s, b)) : ∃ i, o = some i ∧ i.zero = z ∧ i.size = s ∧ i.bytes = b := by
  obtain ⟨i, hi, h⟩ := Option.map_eq_some_iff.1 h
  simp only [Prod.mk.injEq] at h
  exact ⟨i, hi, h.1, h.2.1, h.2.2⟩
theorem info64w : (Try.prog.info? 23).map (fun i => (i.zero, i.size, i.bytes)) = some (some (.int .u64 0), 1, 8) := by kernel_rfl

/-- Words so far, in a row of the call's own. -/
structure WordsRel (w wr : World) (v : Value) (ms : List Nat) : Prop where
  own : wr.ownsRow w.heap.size 23 1 v ms.length (valsN .u64 ms)
  low : Below w.heap.size w wr
theorem WordsRel.slice {w wr : World} {v : Value} {ms : List Nat} (h : WordsRel w wr v ms) : ∃ p c, v = .slice p ms.length c := by
  obtain ⟨p, c, e, -⟩ := own_holds h.own
  exact ⟨p, c, e⟩
def WordsP (w : World) (ms : List Nat) (e : Ending) (w' : World) : Prop := ∃ v, e = .returned v ∧ WordsRel w w' v ms

theorem WordsRel.next {w wr wm w3 : World} {v : Value} {ms : List Nat} {g cap x : Nat} (h : WordsRel w wr v ms) (hb : Below wr.heap.size wr wm) (o : w3.ownsRow w.heap.size 23 1 (.slice (some ⟨g, 0, none⟩) (ms.length + 1) cap) (ms.length + 1) (valsN .u64 ms ++ [.int .u64 (x : Nat)])) (gr : wm.grownBy w3 v.ownBlock) : WordsRel w w3 (.slice (some ⟨g, 0, none⟩) (ms.length + 1) cap) (ms ++ [x]) := by
  refine ⟨?_, (h.low.trans (hb.mono h.low.size)).grown gr (Nat.le_trans h.low.size hb.size) (fun j hj => (World.ownsRow.lt h.own j hj).1)⟩
  rw [List.length_append, valsN_append]
  exact o

theorem tail_holds {w : World} {p : Option Addr} {m c k : Nat} {ds : List Nat} (h : Holds w p m c (valsN .u8 ds)) (hk : k ≤ m) : Holds w (if c = k then p else p.map (·.add (k * 1))) (m - k) (c - k) (valsN .u8 (ds.drop k)) := by
  have a := h.piece k m hk (Nat.le_refl _)
  have l := h.len
  unfold valsN at a l ⊢
  rw [List.length_map] at l
  rw [List.map_drop]
  rwa [List.take_of_length_le (by rw [List.length_drop, List.length_map]; omega)] at a

set_option maxRecDepth 100000 in
set_option maxHeartbeats 8000000 in
theorem rwords6_any (w : World) (p : Option Addr) (n c : Nat) (ds : List Nat) (hd : Holds w p n c (valsN .u8 ds)) (hy : Byt ds) (hn : n ≤ 2000000) :
    Calls Try.prog 20 #[.slice p n c] w (WordsP w (wordsN ds)) := by
  obtain ⟨i0, hi, hz0, hz1, hz2⟩ := infoI_of info64w
  have ln : ds.length = n := by have := hd.len; rwa [valsN_len] at this
  have nb : (n : Int) ≤ 2000000 := by omega
  have cn := hd.cap
  have cN : (n : Int) ≤ (c : Int) := by omega
  have HD := Lib.hid hd
  have HY := Lib.hid hy
  have LN := Lib.hid ln
  have HN := Lib.hid hn
  have CN := Lib.hid cn
  obtain ⟨r, hr⟩ : ∃ r, r = n % 256 := ⟨_, rfl⟩
  obtain ⟨m, hm⟩ : ∃ m, m = r * 72057594037927936 := ⟨_, rfl⟩
  have e1 : (n : Int) % 256 = (r : Int) := by omega
  have e1' : (n : Int).tmod 256 = (r : Int) := by rw [Int.tmod_eq_emod_of_nonneg (by omega)]; exact e1
  have e2 : (r : Int) * 72057594037927936 = (m : Int) := by omega
  have u1 : IntKind.u64.wrap (r : Int) = (r : Int) := by rw [IntKind.wrap_u64]; omega
  have u2 : IntKind.u64.wrap (m : Int) = (m : Int) := by rw [IntKind.wrap_u64]; omega
  have u3 : IntKind.i64.wrap (r : Int) = (r : Int) := by rw [IntKind.wrap_i64]; omega
  have rb : r ≤ 255 := by omega
  have MB : Hid (m ≤ 18374686479671623680) := by unfold Hid; rw [hm]; omega
  have HM : Hid (m = n % 256 * 72057594037927936) := by unfold Hid; rw [hm, hr]
  clear hd hy hn ln cn hr hm
  go_enter Try.func20, Try.ntmps20
  go_wp2_with fail
  go_loopw [3, 4] (fun v i wr => ∃ k q : Nat, i = .int .i64 q ∧ Hid (q = 8 * k) ∧ Hid (k ≤ n / 8) ∧ Hid (WordsRel w wr v (fullN ds k))) (fun _ i _ => 4000000 - (intOf i).toNat)
  case atStart => exact ⟨0, 0, rfl, rfl, Nat.zero_le _, ⟨World.ownsRow_nil w _ _ 1, Below.refl _ _⟩⟩
  case round =>
    obtain ⟨k, q, rfl, hq, hk, h⟩ := hrel
    have qb : (q : Int) ≤ 2000000 := by have := hq.out; have := hk.out; have := HN.out; omega
    obtain ⟨s, hs⟩ : ∃ s, s = q + 8 := ⟨_, rfl⟩
    have s1 : (q : Int) + 8 = (s : Int) := by omega
    have s2 : IntKind.i64.wrap (s : Int) = (s : Int) := by rw [IntKind.wrap_i64]; omega
    obtain ⟨pv, cv, rfl⟩ := h.out.slice
    have lk : (fullN ds k).length = k := by unfold fullN; rw [List.length_map, List.length_range]
    by_cases g : s ≤ n
    · have g' : (s : Int) ≤ (n : Int) := by omega
      have kn : k + 1 ≤ n / 8 := by have := hq.out; omega
      obtain ⟨a, rfl, -⟩ := HD.out.atN (i := q) (by omega)
      have d3 : (q : Int) ≤ (s : Int) := by omega
      have d5 : (s : Int) ≤ (c : Int) := by omega
      have d6 : ¬ c = q := by omega
      have sq : s - q = 8 := by omega
      obtain ⟨x, hx⟩ : ∃ x, x = leN ((ds.drop q).take 8) := ⟨_, rfl⟩
      have PC := (HD.out.below h.out.low).piece q s (by omega) g
      rw [sq, if_neg d6] at PC
      have PN : Holds wr (some (a.add q)) 8 (c - q) (valsN .u8 ((ds.drop q).take 8)) := by
        have PC' : Holds wr (some (a.add (q * 1))) 8 (c - q) (((valsN .u8 ds).drop q).take 8) := PC
        rw [Nat.mul_one] at PC'
        unfold valsN at PC' ⊢
        rw [List.map_take, List.map_drop]
        exact PC'
      have RW := rword6_any wr (some (a.add q)) 8 (c - q) _ PN (byt_take (byt_drop HY.out _) _) (Nat.le_refl _)
      rw [← hx] at RW
      replace RW := Lib.hid RW
      have ms' : Hid (fullN ds k ++ [x] = fullN ds (k + 1)) := by unfold Hid; rw [fullN_succ, ← hq.out, hx]
      have OW := Lib.hid h.out.own
      have REL := Lib.hid h.out
      have BM : Hid ((fullN ds k).length + 1 ≤ maxLen) := by unfold Hid maxLen; rw [lk]; have := HN.out; omega
      have BY : Hid (((fullN ds k).length + 1) * 8 ≤ 140737488355328) := by unfold Hid; rw [lk]; have := HN.out; omega
      have KN := Lib.hid kn
      have QS : Hid (s = 8 * (k + 1)) := by unfold Hid; have := hq.out; omega
      have SZ : Hid (w.heap.size ≤ (wr.alloc (.cells #[.int .u64 (x : Nat)] 23)).heap.size) := by unfold Hid; rw [World.size_alloc]; exact Nat.le_succ_of_le h.out.low.size
      have ONE : Hid (∀ u ∈ ([.int .u64 (x : Nat)] : List Value), u.oneCell' = true) := by
        intro u hu
        obtain rfl : u = .int .u64 (x : Nat) := by simpa using hu
        rfl
      have QN : Hid (q < 4000000) := by unfold Hid; omega
      have SQ : Hid (q < s) := by unfold Hid; omega
      clear hq hk h lk g kn hx PC PN hs
      go_wp2_with fail
      refine RW.out.mono ?_; rintro e w' ⟨rfl, rfl⟩
      go_wp2_with (at_builtin; refine wpList_append_lies _ rfl _ _ _ rfl w.heap.size 23 i0 (.int .u64 0) 1 8 Try.underlying56 hi hz0 hz1 hz2 rfl (by omega) (.slice pv (fullN ds k).length cv) (fullN ds k).length (valsN .u64 (fullN ds k)) rfl (own_keep OW.out ((Below.refl _ _).alloc (Nat.le_refl _) _)) ⟨wr.heap.size, 0, none⟩ 1 1 [.int .u64 (x : Nat)] rfl rfl (World.news_of_block (heap_alloc_new wr _)) ONE.out (by omega) BM.out BY.out SZ.out _ rfl ?_)
      intro gg cap w3 o3 g3 _ _
      have NX := REL.out.next (x := x) ((Below.refl wr.heap.size wr).alloc (Nat.le_refl _) (.cells #[.int .u64 (x : Nat)] 23)) o3 g3
      rw [ms'.out] at NX
      replace NX := Lib.hid NX
      clear o3 g3
      go_wp2
      go_roundw
      case rel => exact ⟨k + 1, s, by go_num, QS, KN, NX⟩
      case measure => simp [intOf]; have := QN.out; have := SQ.out; omega
    · have g' : (n : Int) < (s : Int) := by omega
      have ek : k = n / 8 := by have := hq.out; have := hk.out; omega
      have qn : q ≤ n := by have := hq.out; omega
      have q7 : n - q ≤ 7 := by have := hq.out; omega
      have d3 : (q : Int) ≤ (n : Int) := by omega
      have d4 : (q : Int) ≤ (c : Int) := by omega
      obtain ⟨x, hx⟩ : ∃ x, x = leN (ds.drop q) := ⟨_, rfl⟩
      have xb : x < 72057594037927936 := by rw [hx]; exact leN_seven (byt_drop HY.out _) (by rw [List.length_drop, LN.out]; exact q7)
      obtain ⟨y, hy⟩ : ∃ y, y = x + m := ⟨_, rfl⟩
      have e3 : (x : Int) + (m : Int) = (y : Int) := by omega
      have u4 : IntKind.u64.wrap (y : Int) = (y : Int) := by rw [IntKind.wrap_u64]; have := MB.out; omega
      have LAST : Hid (fullN ds k ++ [y] = wordsN ds) := by
        unfold Hid wordsN lastN
        rw [LN.out, ← ek, ← hq.out, ← hx, hy, HM.out]
      have TH := tail_holds (HD.out.below h.out.low) qn
      have OW := Lib.hid h.out.own
      have REL := Lib.hid h.out
      have BM : Hid ((fullN ds k).length + 1 ≤ maxLen) := by unfold Hid maxLen; rw [lk]; have := HN.out; omega
      have BY : Hid (((fullN ds k).length + 1) * 8 ≤ 140737488355328) := by unfold Hid; rw [lk]; have := HN.out; omega
      have SZ : Hid (w.heap.size ≤ (wr.alloc (.cells #[.int .u64 (y : Nat)] 23)).heap.size) := by unfold Hid; rw [World.size_alloc]; exact Nat.le_succ_of_le h.out.low.size
      have ONE : Hid (∀ u ∈ ([.int .u64 (y : Nat)] : List Value), u.oneCell' = true) := by
        intro u hu
        obtain rfl : u = .int .u64 (y : Nat) := by simpa using hu
        rfl
      have RW := fun pq (hp : (if c = q then p else p.map (·.add (q * 1))) = pq) => rword6_any wr pq (n - q) (c - q) (ds.drop q) (hp ▸ TH) (byt_drop HY.out _) (by omega)
      rw [← hx] at RW
      replace RW := Lib.hid RW
      clear hq hk h lk g hx hs xb hy ek qn q7 TH
      rcases p with _ | a
      all_goals
        first
          | (obtain ⟨pq, hpq⟩ : ∃ pq : Option Addr, (if c = q then some a else some (a.add q)) = pq := ⟨_, rfl⟩
             have RQ := Lib.hid (RW.out pq (by rw [Nat.mul_one, Option.map_some]; exact hpq)))
          | (have RQ := Lib.hid (RW.out none (by simp)))
        clear RW
        go_wp2_with fail
        refine RQ.out.mono ?_; rintro e w' ⟨rfl, rfl⟩
        go_wp2_with (at_builtin; refine wpList_append_lies _ rfl _ _ _ rfl w.heap.size 23 i0 (.int .u64 0) 1 8 Try.underlying56 hi hz0 hz1 hz2 rfl (by omega) (.slice pv (fullN ds k).length cv) (fullN ds k).length (valsN .u64 (fullN ds k)) rfl (own_keep OW.out ((Below.refl _ _).alloc (Nat.le_refl _) _)) ⟨wr.heap.size, 0, none⟩ 1 1 [.int .u64 (y : Nat)] rfl rfl (World.news_of_block (heap_alloc_new wr _)) ONE.out (by omega) BM.out BY.out SZ.out _ rfl ?_)
        intro gg cap w3 o3 g3 _ _
        have NX := REL.out.next (x := y) ((Below.refl wr.heap.size wr).alloc (Nat.le_refl _) (.cells #[.int .u64 (y : Nat)] 23)) o3 g3
        rw [LAST.out] at NX
        have FIN : Hid (WordsP w (wordsN ds) (.returned (.slice (some ⟨gg, 0, none⟩) ((fullN ds k).length + 1) cap)) w3) := ⟨_, rfl, NX⟩
        clear o3 g3 NX
        go_wp2
        go_ret
        exact FIN.out
end Go.Proofs.Ytkojgegfmhoomaa
