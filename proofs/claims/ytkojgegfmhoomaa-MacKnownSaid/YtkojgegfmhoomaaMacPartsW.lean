/- MacParts: the walk. -/
import Derived.Test.YtkojgegfmhoomaaMacT
import Derived.Test.YtkojgegfmhoomaaMacWordsW
import Derived.Deep.RegionHeld3
import Derived.Deep.DeepCutAuto
namespace Go.Proofs.Ytkojgegfmhoomaa
open Go.ChangeShapes Go.WideShapes Go.ChangeAt Go.RowKit OctM

theorem infoS : (Try.prog.info? 28).map (fun i => (i.zero, i.size, i.bytes)) = some (some (.slice none 0 0), 1, 24) := by kernel_rfl
def prtV (q : Prt) : Value := .slice q.p q.n q.c
theorem prtV_one (es : List Prt) : ∀ u ∈ es.map prtV, u.oneCell' = true := fun u hu => by
  obtain ⟨q, _, rfl⟩ := List.mem_map.1 hu
  rfl
/-- Byte by byte: the first i, each with none behind it. -/
structure EachR (w w' : World) (ds : List Nat) (v : Value) (i : Nat) (es : List Prt) : Prop where
  low : Below w.heap.size w w'
  len : es.length = 2 * i
  own : w'.ownsRow w.heap.size 28 1 v (2 * i) (es.map prtV)
  each : ∀ q ∈ es, Holds w q.p q.n q.c (valsN .u8 q.ds) ∧ Byt q.ds
  join : joinP es = ds.take i
  total : totalP es ≤ i
theorem each_next {w w' w'' : World} {ds : List Nat} {v v' : Value} {i : Nat} {es : List Prt} (h : EachR w w' ds v i es) {p : Option Addr} {c : Nat} (hi : i < ds.length) (hh : Holds w p 1 c (valsN .u8 [ds.getD i 0])) (hy : Byt [ds.getD i 0])
    (hl : Below w.heap.size w w'') (o : w''.ownsRow w.heap.size 28 1 v' (2 * i + 2) (es.map prtV ++ [.slice p 1 c, .slice none 0 0])) : EachR w w'' ds v' (i + 1) (es ++ [⟨p, 1, c, [ds.getD i 0]⟩, ⟨none, 0, 0, []⟩]) := by
  refine ⟨hl, by rw [List.length_append, h.len]; rfl, ?_, fun q hq => ?_, ?_, ?_⟩
  · rw [List.map_append]
    exact o
  · rcases List.mem_append.1 hq with hq | hq
    · exact h.each q hq
    · simp only [List.mem_cons, List.not_mem_nil, or_false] at hq
      rcases hq with rfl | rfl
      · exact ⟨hh, hy⟩
      · exact ⟨Holds.nil _ _ _ (Nat.zero_le _) (fun _ => rfl), fun d hd => by cases hd⟩
  · have h4 := h.join
    unfold joinP at *
    rw [List.flatMap_append, h4, List.take_succ_eq_append_getElem hi, List.getD_eq_getElem?_getD, List.getElem?_eq_getElem hi]
    simp
  · have h5 := h.total
    unfold totalP at *
    rw [List.map_append, List.sum_append]
    simp only [List.map_cons, List.map_nil, List.sum_cons, List.sum_nil]
    omega
theorem each_parts {w w' : World} {ds : List Nat} {v : Value} {i : Nat} {es : List Prt} (h : EachR w w' ds v i es) (hi : i = ds.length) : ∃ p c, v = .slice p (2 * i) c ∧ (∀ w'', Below w'.heap.size w' w'' → HoldsP w'' p (2 * i) c es) ∧ (∀ q ∈ es, Byt q.ds) ∧ joinP es = ds ∧ totalP es ≤ i := by
  obtain ⟨p, c, rfl, hh⟩ := own_holds h.own
  refine ⟨p, c, rfl, fun w'' hb => ⟨h.len, hh.cap, hh.max, hh.bare, fun j q hq => ?_⟩, fun q hq => (h.each q hq).2, ?_, h.total⟩
  · obtain ⟨a, ha, hc⟩ := (hh.below hb).cell j (prtV q) (by rw [List.getElem?_map, hq]; rfl)
    exact ⟨a, ha, hc, ((h.each q (List.mem_of_getElem? hq)).1.below h.low).below hb⟩
  · rw [h.join, hi, List.take_length]

/-- The first so many of a row of bytes; a piece, as the walk spells it. -/
theorem bytes_front {w : World} {p : Option Addr} {n c k : Nat} {ds : List Nat} (h : Holds w p n c (valsN .u8 ds)) (hk : k ≤ n) : Holds w p k c (valsN .u8 (ds.take k)) := by
  have l := h.len
  rw [valsN_len] at l
  refine ⟨by rw [valsN_len, List.length_take]; omega, Nat.le_trans hk h.cap, h.max, h.bare, fun i u hu => ?_⟩
  have il : i < k := by
    have := (List.getElem?_eq_some_iff.1 hu).1
    rw [valsN_len, List.length_take] at this
    omega
  refine h.cell i u ?_
  rw [← hu]
  unfold valsN
  rw [List.getElem?_map, List.getElem?_map, List.getElem?_take, if_pos il]
theorem bytes_piece {w : World} {p : Option Addr} {n c : Nat} {ds : List Nat} (h : Holds w p n c (valsN .u8 ds)) (lo hi : Nat) (h1 : lo ≤ hi) (h2 : hi ≤ n) :
    Holds w (if c = lo then p else p.map (fun a => a.add lo)) (hi - lo) (c - lo) (valsN .u8 ((ds.drop lo).take (hi - lo))) := by
  have o := h.piece lo hi h1 h2
  have f : valsN .u8 ((ds.drop lo).take (hi - lo)) = ((valsN .u8 ds).drop lo).take (hi - lo) := by unfold valsN; rw [List.map_take, List.map_drop]
  rw [f]
  simp only [Nat.mul_one] at o
  exact o
theorem byt_piece {ds : List Nat} (h : Byt ds) (lo k : Nat) : Byt ((ds.drop lo).take k) := fun d hd => h d (List.mem_of_mem_drop (List.mem_of_mem_take hd))

set_option maxRecDepth 100000 in
set_option maxHeartbeats 16000000 in
theorem parts6_core (w : World) (k : Ky) (at_ behind : Nat) (p : Option Addr) (n c m x y : Nat) (ds : List Nat) (hk : KeyOk k) (EM : min (n : Int) 200 = (m : Int)) (mc : (m : Int) ≤ (c : Int)) (m2 : m ≤ 200) (hp : Holds w p m c (valsN .u8 ds)) (hy : Byt ds)
    (ha : at_ < 65536) (hb : behind < 65536) (hx : x = at_ % (m + 1)) (hyy : y = x + behind % (m + 1 - x)) (xm : x ≤ m) (xy : x ≤ y) (ym : y ≤ m) :
    Calls Try.prog 5 #[keyV k, .slice p n c, .int .u16 (at_ : Nat), .int .u16 (behind : Nat)] w fun e w' => e = .returned (.bool true) ∧ Below w.heap.size w w' := by
  obtain ⟨T, hT⟩ : ∃ T, T = tagN k.a k.b ds := ⟨_, rfl⟩
  have EI : (if (200 : Int) < (n : Int) then (200 : Int) else (n : Int)) = (m : Int) := by split <;> omega
  have q1 : (at_ : Int).tmod ((m : Int) + 1) = (x : Int) := by
    rw [Int.tmod_eq_emod_of_nonneg (by omega), hx, Int.natCast_emod]
    rfl
  obtain ⟨z, hz⟩ : ∃ z, z = m + 1 - x := ⟨_, rfl⟩
  obtain ⟨r, hr⟩ : ∃ r, r = behind % z := ⟨_, rfl⟩
  have q2 : (m : Int) + 1 - (x : Int) = (z : Int) := by omega
  have q3 : (behind : Int).tmod (z : Int) = (r : Int) := by
    rw [Int.tmod_eq_emod_of_nonneg (by omega), hr, Int.natCast_emod]
  have q4 : (x : Int) + (r : Int) = (y : Int) := by rw [hyy, ← hz, ← hr]; omega
  have z1 : (1 : Int) ≤ (z : Int) := by omega
  have haI : (at_ : Int) < 65536 := by omega
  have hbI : (behind : Int) < 65536 := by omega
  have hmI : (m : Int) ≤ 200 := by omega
  have hxI : (x : Int) ≤ (m : Int) := by omega
  have hyI : (y : Int) ≤ (m : Int) := by omega
  have hxy : (x : Int) ≤ (y : Int) := by omega
  unfold keyV
  have L1 : Below w.heap.size w (w.alloc (.cells #[.int .u32 (k.id : Nat), .int .u64 (k.a : Nat), .int .u64 (k.b : Nat)] 25)) := (Below.refl _ _).alloc (Nat.le_refl _) _
  have HB := heap_alloc_new w (.cells #[.int .u32 (k.id : Nat), .int .u64 (k.a : Nat), .int .u64 (k.b : Nat)] 25)
  have HP := Lib.hid hp
  have HY := Lib.hid hy
  have HK := Lib.hid hk
  have HT := Lib.hid hT
  have XM := Lib.hid xm
  have XY := Lib.hid xy
  have YM := Lib.hid ym
  have M2 := Lib.hid m2
  clear ha hb hk hT hp hy hx hyy xm xy ym hz hr
  go_enter Try.func5, Try.ntmps5
  go_upto_region 1 with (fail)
  generalize w.alloc (.cells #[.int .u32 (k.id : Nat), .int .u64 (k.a : Nat), .int .u64 (k.b : Nat)] 25) = W at *
  go_upto_region 4 with (fail)
  clear q1 q2 q3 q4 z1 EI EM haI hbI
  have SZ : Hid (w.heap.size < W.heap.size) := (Array.getElem?_eq_some_iff.1 HB).1
  have K0 : Hid (∀ w', Below W.heap.size W w' → w'.cell? ⟨w.heap.size, 0, none⟩ = some (.int .u32 (k.id : Nat)) ∧ w'.cell? ⟨w.heap.size, 1, none⟩ = some (.int .u64 (k.a : Nat)) ∧ w'.cell? ⟨w.heap.size, 2, none⟩ = some (.int .u64 (k.b : Nat))) := fun w' hb => by
    have c0 := blk_cell (o := 0) HB
    have c1 := blk_cell (o := 1) HB
    have c2 := blk_cell (o := 2) HB
    exact ⟨(hb.cell (World.block_lt_of_cell? W _ c0)).trans c0, (hb.cell (World.block_lt_of_cell? W _ c1)).trans c1, (hb.cell (World.block_lt_of_cell? W _ c2)).trans c2⟩
  have L1' := Lib.hid L1
  have HPW := Lib.hid (HP.out.below L1)
  obtain ⟨C0, C1, C2⟩ := K0.out W (Below.refl _ _)
  clear HB L1
  go_wp2_with fail
  have LD : Hid (ds.length = m) := by have := HP.out.len; rwa [valsN_len] at this
  have P1 : FactG W k.a k.b k.id #[.slice p m c] 1 T :=
    ⟨[⟨p, m, c, ds⟩], HK.out, rfl, rfl, by decide, (fun q hq => by obtain rfl := List.mem_singleton.1 hq; exact ⟨HPW.out, HY.out⟩), (by simp [totalP]; have := M2.out; omega), by rw [HT.out]; simp [joinP]⟩
  refine (fact_tag tag_code (V := W) ((Below.refl _ _).alloc (Nat.le_refl _) _) (heap_alloc_new _ _) P1).mono ?_
  rintro e w5 ⟨rfl, l5, -⟩
  replace P1 := Lib.hid P1
  have E0 : Hid (EachR W w5 ds (.slice none 0 0) 0 []) := ⟨l5, rfl, World.ownsRow_nil _ _ _ _, (fun q hq => by cases hq), rfl, Nat.zero_le _⟩
  obtain ⟨i0, hi, hz0, hz1, hz2⟩ := infoE_of infoS
  clear l5 C0 C1 C2
  go_wp2_with fail
  go_loopw [12, 13] (fun v i wr => ∃ (j : Nat) (es : List Prt), i = .int .i64 j ∧ Hid (j ≤ m) ∧ Hid (EachR W wr ds v j es)) (fun _ i _ => 1000 - (intOf i).toNat)
  case atStart => exact ⟨0, [], rfl, Nat.zero_le _, E0⟩
  case round =>
    obtain ⟨j, es, rfl, hj, hr⟩ := hrel
    have jb : (j : Int) ≤ 200 := by have := hj.out; have := M2.out; omega
    by_cases g : j < m
    · have g' : (j : Int) < (m : Int) := by omega
      have G : Hid (j + 1 ≤ m) := g
      have cj : ¬ c = j := by omega
      have jc : (j : Int) + 1 ≤ (c : Int) := by omega
      obtain ⟨a, ea, -⟩ := HPW.out.atN g
      subst ea
      have JL : j < ds.length := by rw [LD.out]; exact g
      have PH : Holds W (some (a.add j)) 1 (c - j) (valsN .u8 [ds.getD j 0]) := by
        have h := HPW.out.piece j (j + 1) (by omega) g
        rw [if_neg cj, Nat.add_sub_cancel_left, Option.map_some, Nat.mul_one] at h
        have e : ((valsN .u8 ds).drop j).take 1 = valsN .u8 [ds.getD j 0] := by
          unfold valsN
          rw [← List.map_drop, ← List.map_take, List.drop_eq_getElem_cons JL, List.take_succ_cons, List.take_zero, List.getD_eq_getElem?_getD, List.getElem?_eq_getElem JL]
          rfl
        rwa [e] at h
      have PY : Byt [ds.getD j 0] := fun d hd => by
        obtain rfl := List.mem_singleton.1 hd
        exact byt_get HY.out JL
      have OW : Hid ((wr.alloc (.cells #[.slice (some (a.add j)) 1 (c - j), .slice none 0 0] 28)).ownsRow W.heap.size 28 1 u12 (2 * j) (es.map prtV)) := World.ownsRow.alloc hr.out.own _
      have A1 : Hid (Below W.heap.size W (wr.alloc (.cells #[.slice (some (a.add j)) 1 (c - j), .slice none 0 0] 28))) := hr.out.low.alloc hr.out.low.size _
      have HH : Hid (Holds (wr.alloc (.cells #[.slice (some (a.add j)) 1 (c - j), .slice none 0 0] 28)) (some ⟨wr.heap.size, 0, none⟩) 2 2 [.slice (some (a.add j)) 1 (c - j), .slice none 0 0]) := blk_holds (heap_alloc_new wr _) rfl (by decide)
      have BM : Hid (2 * j + 2 ≤ maxLen) := by unfold Hid maxLen; omega
      have BY : Hid ((2 * j + 2) * 24 ≤ 140737488355328) := by unfold Hid; omega
      have NX : Hid (∀ v' w'', w''.ownsRow W.heap.size 28 1 v' (2 * j + 2) (es.map prtV ++ [.slice (some (a.add j)) 1 (c - j), .slice none 0 0]) → Below W.heap.size W w'' → ∃ es', EachR W w'' ds v' (j + 1) es') := fun v' w'' o l => ⟨_, each_next hr.out JL PH PY l o⟩
      clear hj hr JL PH PY g
      go_wp2_with (at_builtin; refine append_more rfl _ _ 26 rfl W.heap.size 28 i0 (.slice none 0 0) 24 Try.underlying26 hi hz0 hz1 hz2 rfl _ (2 * j) _ rfl OW.out (some ⟨wr.heap.size, 0, none⟩) 2 2 [.slice (some (a.add j)) 1 (c - j), .slice none 0 0] rfl HH.out (fun u hu => by simp only [List.mem_cons, List.not_mem_nil, or_false] at hu; rcases hu with rfl | rfl <;> rfl) BM.out BY.out A1.out.size ?_)
      intro v3 w3 o3 g3 _
      obtain ⟨es', N3⟩ := NX.out v3 w3 o3 (A1.out.grown g3 A1.out.size (fun j hj => (World.ownsRow.lt OW.out j hj).1))
      replace N3 := Lib.hid N3
      clear o3 g3 OW A1 HH BM BY NX
      go_wp2
      go_roundw
      case rel => exact ⟨j + 1, es', by go_num, G, N3⟩
      case measure => simp [intOf]; omega
    · have g' : (m : Int) ≤ (j : Int) := by omega
      obtain rfl : j = m := by have := hj.out; omega
      obtain ⟨pe, ce, rfl, HE, YE, JE, TE⟩ := each_parts hr.out LD.out.symm
      have HB0 := hr.out.low
      replace HE := Lib.hid HE
      clear hj hr g jb
      have yc : (y : Int) ≤ (c : Int) := by omega
      have xc : (x : Int) ≤ (c : Int) := by omega
      have z1 : (0 : Int) ≤ (x : Int) := by omega
      have z2 : (0 : Int) ≤ (y : Int) := by omega
      have F0 := fun t (ht : t ≤ j) => bytes_front HPW.out ht
      have LJ := LD.out
      have DX : ∀ t, (ds.drop t).take (j - t) = ds.drop t := fun t => List.take_of_length_le (by rw [List.length_drop, LJ]; exact Nat.le_refl _)
      have JJ : ∀ t, ds.take t ++ ds.drop t = ds := fun t => List.take_append_drop t ds
      have JT : ds.take x ++ ((ds.drop x).take (y - x) ++ ds.drop y) = ds := by
        have e : (ds.drop x).drop (y - x) = ds.drop y := by rw [List.drop_drop]; congr 1; have := XY.out; omega
        rw [← e, List.take_append_drop, List.take_append_drop]
      have TOT : ∀ t, t ≤ j → t + (j - t) ≤ 2000000 := fun t ht => by have := M2.out; omega
      obtain ⟨px, hpx⟩ : ∃ px : Option Addr, (if c = x then p else p.map (fun a => a.add x)) = px := ⟨_, rfl⟩
      obtain ⟨py, hpy⟩ : ∃ py : Option Addr, (if c = y then p else p.map (fun a => a.add y)) = py := ⟨_, rfl⟩
      have P2 : ∀ t, t ≤ j → FactG W k.a k.b k.id #[.slice p t c, .slice (if c = t then p else p.map (fun a => a.add t)) (j - t) (c - t)] 2 T := fun t ht =>
        ⟨[⟨p, t, c, ds.take t⟩, ⟨_, j - t, c - t, (ds.drop t).take (j - t)⟩], HK.out, rfl, rfl, by decide, (fun q hq => by
          rcases List.mem_cons.1 hq with rfl | hq
          · exact ⟨F0 t ht, byt_take HY.out _⟩
          · obtain rfl := List.mem_singleton.1 hq
            exact ⟨bytes_piece HPW.out t j ht (Nat.le_refl _), byt_piece HY.out _ _⟩), (by have := TOT t ht; simp only [totalP, List.map_cons, List.map_nil, List.sum_cons, List.sum_nil]; omega), by
          rw [HT.out]
          simp only [joinP, List.flatMap_cons, List.flatMap_nil, List.append_nil]
          rw [DX, JJ]⟩
      have PX0 := P2 x XM.out
      have PY0 := P2 y YM.out
      rw [hpx] at PX0
      rw [hpy] at PY0
      have PX := Lib.hid PX0
      have PY := Lib.hid PY0
      have NIL : Holds W none 0 0 (valsN .u8 []) := Holds.nil _ _ _ (Nat.zero_le _) (fun _ => rfl)
      have P5 : Hid (FactG W k.a k.b k.id #[.slice none 0 0, .slice p x c, .slice px (y - x) (c - x), .slice none 0 0, .slice py (j - y) (c - y)] 5 T) := by
        rw [← hpx, ← hpy]
        exact ⟨[⟨none, 0, 0, []⟩, ⟨p, x, c, ds.take x⟩, ⟨_, y - x, c - x, (ds.drop x).take (y - x)⟩, ⟨none, 0, 0, []⟩, ⟨_, j - y, c - y, (ds.drop y).take (j - y)⟩], HK.out, rfl, rfl, by decide, (fun q hq => by
          simp only [List.mem_cons, List.not_mem_nil, or_false] at hq
          rcases hq with rfl | rfl | rfl | rfl | rfl
          · exact ⟨NIL, fun d hd => by cases hd⟩
          · exact ⟨F0 x XM.out, byt_take HY.out _⟩
          · exact ⟨bytes_piece HPW.out x y XY.out YM.out, byt_piece HY.out _ _⟩
          · exact ⟨NIL, fun d hd => by cases hd⟩
          · exact ⟨bytes_piece HPW.out y j YM.out (Nat.le_refl _), byt_piece HY.out _ _⟩), (by have := TOT y YM.out; have := XY.out; simp only [totalP, List.map_cons, List.map_nil, List.sum_cons, List.sum_nil]; omega), by
          rw [HT.out]
          simp only [joinP, List.flatMap_cons, List.flatMap_nil, List.append_nil, List.nil_append]
          rw [DX, JT]⟩
      have PE : Hid (∀ w', Below wr.heap.size wr w' → Calls Try.prog 10 #[.agg #[.int .u32 (k.id : Nat), .int .u64 (k.a : Nat), .int .u64 (k.b : Nat)], .slice pe (2 * j) ce] w' fun e w'' => e = .returned (.int .u64 (T : Nat)) ∧ Below w'.heap.size w' w'') := fun w' hb => by
        have h := ptag_any w' k pe (2 * j) ce es HK.out (HE.out w' hb) YE (by have := M2.out; omega) (by have := M2.out; omega)
        rw [JE, ← HT.out] at h
        exact h
      have T64 : W64 T := by rw [HT.out]; exact tag_lt HK.out.2.1 HK.out.2.2 HY.out
      obtain ⟨T1, hT1⟩ : ∃ T1, T1 = (T + 1) % 18446744073709551616 := ⟨_, rfl⟩
      have eT1 : IntKind.u64.wrap ((T : Int) + 1) = (T1 : Int) := by rw [IntKind.wrap_u64]; omega
      have NE : T ≠ T1 := by unfold W64 at T64; omega
      have PR : Hid (∀ (w' : World) (N n' t : Nat) (B : Bool) (cs : Array Value), Below W.heap.size W w' → w'.heap[N]? = some (.cells cs 28 (0, 0)) → FactG W k.a k.b k.id cs n' T → decide (T = t) = B → Calls Try.prog 11 #[.agg #[.int .u32 (k.id : Nat), .int .u64 (k.a : Nat), .int .u64 (k.b : Nat)], .int .u64 (t : Nat), .slice (some ⟨N, 0, none⟩) n' n'] w' fun e w4 => e = .returned (.bool B) ∧ Below w'.heap.size w' w4) := fun w' N n' t B cs hb hN hF hB => by
        obtain ⟨ps, h1, h2, h3, h4, h5, h6, h7⟩ := hF
        have h := pright_any w' ⟨k.id, k.a, k.b⟩ t _ n' n' ps h1 (litP ps hN h2 h3 (fun q hq => (h5 q hq).1.below hb) (by unfold maxLen; omega)) (fun q hq => (h5 q hq).2) h4 h6
        rw [h7, hB] at h
        exact h
      have RF : Hid (decide (T = T1) = false) := decide_eq_false NE
      have SB : Hid (∀ w', Below wr.heap.size wr w' → Below W.heap.size W w') := fun w' h => HB0.trans (h.mono HB0.size)
      have H0 : Below wr.heap.size wr wr := Below.refl _ _
      have LW : Hid (∀ w', Below wr.heap.size wr w' → Below w.heap.size w w') := fun w' h => L1'.out.trans ((SB.out w' h).mono L1'.out.size)
      have N2 : Hid (∀ w' w'', Below wr.heap.size wr w' → Below w'.heap.size w' w'' → Below wr.heap.size wr w'') := fun w' w'' h l => h.trans (l.mono h.size)
      clear PX0 PY0 P2 NIL TOT JT JJ DX LJ F0 T64 NE hT1 HB0 JE TE YE
      go_wp2_with fail
      go_region_held3 (fun w' => w'.cell? ⟨w.heap.size, 0, none⟩ = some (.int .u32 (k.id : Nat)) ∧ w'.cell? ⟨w.heap.size, 1, none⟩ = some (.int .u64 (k.a : Nat)) ∧ w'.cell? ⟨w.heap.size, 2, none⟩ = some (.int .u64 (k.b : Nat)))
        (first | exact K0.out _ (SB.out _ H0) | exact K0.out _ (SB.out _ H0.drew) | exact K0.out _ (SB.out _ (H0.alloc H0.size _).drew) | exact K0.out _ (SB.out _ (H0.alloc H0.size _)))
        (first
          | (go_at_call_of 10 ce; refine (PE.out _ H0).mono ?_; rintro e w6 ⟨rfl, l6⟩; have H0 := N2.out _ _ H0 l6; clear l6)
          | (go_at_call_of 11 T1; refine (PR.out _ _ _ _ _ _ (SB.out _ (H0.alloc H0.size _)) (by exact heap_alloc_new _ _) P1.out RF.out).mono ?_; rintro e w6 ⟨rfl, l6⟩; have H0 := N2.out _ _ (H0.alloc H0.size _) l6; clear l6)
          | (go_at_call 11; refine (PR.out _ _ _ _ _ _ (SB.out _ (H0.alloc H0.size _)) (by exact heap_alloc_new _ _) PY.out (decide_eq_true rfl)).mono ?_; rintro e w6 ⟨rfl, l6⟩; have H0 := N2.out _ _ (H0.alloc H0.size _) l6; clear l6)
          | (go_at_call 10; refine (fact_tag tag_code (V := W) (by first | exact SB.out _ (H0.alloc H0.size _).drew | exact SB.out _ (H0.alloc H0.size _)) (by exact heap_alloc_new _ _) (by first | exact PX.out | exact P5.out)).mono ?_; rintro e w6 ⟨rfl, -, l6⟩; have H0 := N2.out _ _ (by first | exact (H0.alloc H0.size _).drew | exact H0.alloc H0.size _) l6; clear l6)
          | (go_at_call 12; refine (wakes6_any tag_code _).mono ?_; rintro e w6 ⟨rfl, l6⟩; have H0 := N2.out _ _ H0 l6; clear l6))
      all_goals
        go_wp2
        go_ret
        exact ⟨rfl, LW.out _ H0⟩
end Go.Proofs.Ytkojgegfmhoomaa
