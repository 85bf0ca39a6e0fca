/- A parameter that is a packet by value with its fields, opened: for layer 7 and on. (Written by wip/tools/genframey.py.) -/
import Derived.Test.YtfnidehbibfclaaFrameP
import Derived.Test.YtfnidehbibfclaaFrameX
import Derived.Test.YtfnidehbibfclaaFrameK
import Derived.Test.YtfnidehbibfclaaPktA
import Derived.Deep.Slices
import Derived.Deep.Fields
import Derived.ChangeSame
set_option maxRecDepth 100000
namespace Go.Proofs.Ytfnidehbibfclaa
open Go.ChangeShapes Go.WideShapes Go.ChangeAt Go.RowKit Go.Joins Go.Deep OctM

section
variable {H : Type} {enc : TypeId × Value → H}

theorem read_exts_in {t e : TypeId} {f0 f1 : Field} {g : TypeId} (ht : Try.prog.underlying t = some (.slice e)) (he : Try.prog.underlying e = some (.struct #[f0, f1])) (ce : Try.prog.cellsOf e = 2) (o0 : f0.offset = 0) (o1 : f1.offset = 1) (c0 : Try.prog.cellsOf f0.type = 1) (c1 : Try.prog.cellsOf f1.type = 1)
    (u0 : Try.prog.underlying f0.type = some (.int .u16)) (u1 : Try.prog.underlying f1.type = some (.slice g)) (ug : Try.prog.underlying g = some (.int .u8)) (cg : Try.prog.cellsOf g = 1) {W : World} {base fuel : Nat} {v : Value} {x : DataW H × List MemPlace}
    (hf : DataW.trod enc Try.prog W base (fun _ => true) true fuel t [v] = some x) :
    ∃ (p : Option Addr) (n c : Nat) (fs : List Fld), v = .slice p n c ∧ HoldsX W p n c fs ∧ FldsOk fs := by
  rcases open_slice_pairs ht he ce o0 o1 c0 c1 hf with ⟨e1, -⟩ | ⟨b, len, cap, m, n, V0, V1, D0, D1, P0, P1, e1, hb, hl, hm, hmm, -, hx⟩
  · obtain rfl : v = .slice none 0 0 := by simpa using e1
    exact ⟨none, 0, 0, [], rfl, holdsX_nil _ _ _ (Nat.zero_le _) (fun _ => rfl), fun f hf => by cases hf⟩
  · obtain rfl : v = .slice (some b) len cap := by simpa using e1
    have hm' : m = cap := by simpa using hmm
    have each : ∀ i, i < len → ∃ f : Fld, (W.cell? (b.add (i * 2)) = some (.int .u16 (f.ty : Nat)) ∧ W.cell? (b.add (i * 2 + 1)) = some (.slice f.p f.n f.c) ∧ Holds W f.p f.n f.c (valsN .u8 f.ds)) ∧ f.ty < 65536 ∧ Byt f.ds := by
      intro i hi
      obtain ⟨x0, x1, y0, y1⟩ := hx i (by omega)
      obtain ⟨n0, g0, -, w0⟩ := DataW.trod_int u0 y0
      obtain ⟨p1, n1, c1, ds, g1, hh, hy⟩ := open_bytes u1 ug cg y1
      simp at g0
      have b0 := u16_of_wf w0
      refine ⟨⟨n0.toNat, p1, n1, c1, ds⟩, ⟨?_, ?_, hh⟩, by simp only; omega, hy⟩
      · rw [x0, g0]; simp only; rw [Int.toNat_of_nonneg b0.1]
      · rw [x1, g1]
    obtain ⟨fs, hl', hc⟩ := choose_flds each
    exact ⟨some b, len, cap, fs, rfl, ⟨hl', hl, hm, (fun e => by cases e), fun i f hi => ⟨b, rfl, (hc i f hi).1⟩⟩, fun f hf => by
      obtain ⟨i, hi, rfl⟩ := List.getElem_of_mem hf
      exact (hc i _ (List.getElem?_eq_getElem hi)).2⟩

theorem read_pkx {W : World} {base : Nat} {v : Value} {d : DataW H} {ps : List MemPlace} (hok : Value.okWide Try.prog W .any base 27 v) (h : DataW.Trod enc Try.prog W 0 (fun _ => true) true 27 v d ps) :
    ∃ hd x fs, v = pkV hd x ∧ Pk W hd x fs ⟨hd, says fs, x.sg, x.ky, x.tg⟩ := by
  obtain ⟨cs, rfl, hsz⟩ := okWide_struct Try.underlying27 hok
  obtain ⟨l⟩ := cs
  obtain ⟨fuel, hf⟩ := h
  obtain ⟨xs, n, _, hx, _, hlen, hg⟩ := DataW.trod_struct Try.underlying27 hf
  clear hf hok hx
  match l, hsz.trans pkc_size with
  | [c0, c1, c2, c3, c4, c5, c6, c7, c8, c9, c10, c11, c12, c13, c14, c15, c16], _ =>
    match xs, hlen with
    | [y0, y1, y2, y3, y4, y5, y6, y7, y8, y9, y10, y11, y12, y13, y14, y15, y16], _ =>
      have g0 : DataW.trod enc Try.prog W 0 (fun _ => true) true n 5 (([c0, c1, c2, c3, c4, c5, c6, c7, c8, c9, c10, c11, c12, c13, c14, c15, c16].drop 0).take (Try.prog.cellsOf 5)) = some y0 := hg 0 _ rfl
      rw [pkc_u8] at g0
      change DataW.trod enc Try.prog W 0 (fun _ => true) true n 5 [c0] = some y0 at g0
      have g1 : DataW.trod enc Try.prog W 0 (fun _ => true) true n 5 (([c0, c1, c2, c3, c4, c5, c6, c7, c8, c9, c10, c11, c12, c13, c14, c15, c16].drop 1).take (Try.prog.cellsOf 5)) = some y1 := hg 1 _ rfl
      rw [pkc_u8] at g1
      change DataW.trod enc Try.prog W 0 (fun _ => true) true n 5 [c1] = some y1 at g1
      have g2 : DataW.trod enc Try.prog W 0 (fun _ => true) true n 5 (([c0, c1, c2, c3, c4, c5, c6, c7, c8, c9, c10, c11, c12, c13, c14, c15, c16].drop 2).take (Try.prog.cellsOf 5)) = some y2 := hg 2 _ rfl
      rw [pkc_u8] at g2
      change DataW.trod enc Try.prog W 0 (fun _ => true) true n 5 [c2] = some y2 at g2
      have g3 : DataW.trod enc Try.prog W 0 (fun _ => true) true n 5 (([c0, c1, c2, c3, c4, c5, c6, c7, c8, c9, c10, c11, c12, c13, c14, c15, c16].drop 3).take (Try.prog.cellsOf 5)) = some y3 := hg 3 _ rfl
      rw [pkc_u8] at g3
      change DataW.trod enc Try.prog W 0 (fun _ => true) true n 5 [c3] = some y3 at g3
      have g4 : DataW.trod enc Try.prog W 0 (fun _ => true) true n 22 (([c0, c1, c2, c3, c4, c5, c6, c7, c8, c9, c10, c11, c12, c13, c14, c15, c16].drop 4).take (Try.prog.cellsOf 22)) = some y4 := hg 4 _ rfl
      rw [pkc_i8] at g4
      change DataW.trod enc Try.prog W 0 (fun _ => true) true n 22 [c4] = some y4 at g4
      have g5 : DataW.trod enc Try.prog W 0 (fun _ => true) true n 22 (([c0, c1, c2, c3, c4, c5, c6, c7, c8, c9, c10, c11, c12, c13, c14, c15, c16].drop 5).take (Try.prog.cellsOf 22)) = some y5 := hg 5 _ rfl
      rw [pkc_i8] at g5
      change DataW.trod enc Try.prog W 0 (fun _ => true) true n 22 [c5] = some y5 at g5
      have g6 : DataW.trod enc Try.prog W 0 (fun _ => true) true n 23 (([c0, c1, c2, c3, c4, c5, c6, c7, c8, c9, c10, c11, c12, c13, c14, c15, c16].drop 6).take (Try.prog.cellsOf 23)) = some y6 := hg 6 _ rfl
      rw [pkc_u32] at g6
      change DataW.trod enc Try.prog W 0 (fun _ => true) true n 23 [c6] = some y6 at g6
      have g7 : DataW.trod enc Try.prog W 0 (fun _ => true) true n 23 (([c0, c1, c2, c3, c4, c5, c6, c7, c8, c9, c10, c11, c12, c13, c14, c15, c16].drop 7).take (Try.prog.cellsOf 23)) = some y7 := hg 7 _ rfl
      rw [pkc_u32] at g7
      change DataW.trod enc Try.prog W 0 (fun _ => true) true n 23 [c7] = some y7 at g7
      have g8 : DataW.trod enc Try.prog W 0 (fun _ => true) true n 23 (([c0, c1, c2, c3, c4, c5, c6, c7, c8, c9, c10, c11, c12, c13, c14, c15, c16].drop 8).take (Try.prog.cellsOf 23)) = some y8 := hg 8 _ rfl
      rw [pkc_u32] at g8
      change DataW.trod enc Try.prog W 0 (fun _ => true) true n 23 [c8] = some y8 at g8
      have g9 : DataW.trod enc Try.prog W 0 (fun _ => true) true n 24 (([c0, c1, c2, c3, c4, c5, c6, c7, c8, c9, c10, c11, c12, c13, c14, c15, c16].drop 9).take (Try.prog.cellsOf 24)) = some y9 := hg 9 _ rfl
      rw [pkc_u64] at g9
      change DataW.trod enc Try.prog W 0 (fun _ => true) true n 24 [c9] = some y9 at g9
      have g10 : DataW.trod enc Try.prog W 0 (fun _ => true) true n 24 (([c0, c1, c2, c3, c4, c5, c6, c7, c8, c9, c10, c11, c12, c13, c14, c15, c16].drop 10).take (Try.prog.cellsOf 24)) = some y10 := hg 10 _ rfl
      rw [pkc_u64] at g10
      change DataW.trod enc Try.prog W 0 (fun _ => true) true n 24 [c10] = some y10 at g10
      have g11 : DataW.trod enc Try.prog W 0 (fun _ => true) true n 24 (([c0, c1, c2, c3, c4, c5, c6, c7, c8, c9, c10, c11, c12, c13, c14, c15, c16].drop 11).take (Try.prog.cellsOf 24)) = some y11 := hg 11 _ rfl
      rw [pkc_u64] at g11
      change DataW.trod enc Try.prog W 0 (fun _ => true) true n 24 [c11] = some y11 at g11
      have g12 : DataW.trod enc Try.prog W 0 (fun _ => true) true n 24 (([c0, c1, c2, c3, c4, c5, c6, c7, c8, c9, c10, c11, c12, c13, c14, c15, c16].drop 12).take (Try.prog.cellsOf 24)) = some y12 := hg 12 _ rfl
      rw [pkc_u64] at g12
      change DataW.trod enc Try.prog W 0 (fun _ => true) true n 24 [c12] = some y12 at g12
      have g13 : DataW.trod enc Try.prog W 0 (fun _ => true) true n 25 (([c0, c1, c2, c3, c4, c5, c6, c7, c8, c9, c10, c11, c12, c13, c14, c15, c16].drop 13).take (Try.prog.cellsOf 25)) = some y13 := hg 13 _ rfl
      rw [pkc_S] at g13
      change DataW.trod enc Try.prog W 0 (fun _ => true) true n 25 [c13] = some y13 at g13
      have g14 : DataW.trod enc Try.prog W 0 (fun _ => true) true n 4 (([c0, c1, c2, c3, c4, c5, c6, c7, c8, c9, c10, c11, c12, c13, c14, c15, c16].drop 14).take (Try.prog.cellsOf 4)) = some y14 := hg 14 _ rfl
      rw [pkc_B] at g14
      change DataW.trod enc Try.prog W 0 (fun _ => true) true n 4 [c14] = some y14 at g14
      have g15 : DataW.trod enc Try.prog W 0 (fun _ => true) true n 23 (([c0, c1, c2, c3, c4, c5, c6, c7, c8, c9, c10, c11, c12, c13, c14, c15, c16].drop 15).take (Try.prog.cellsOf 23)) = some y15 := hg 15 _ rfl
      rw [pkc_u32] at g15
      change DataW.trod enc Try.prog W 0 (fun _ => true) true n 23 [c15] = some y15 at g15
      have g16 : DataW.trod enc Try.prog W 0 (fun _ => true) true n 24 (([c0, c1, c2, c3, c4, c5, c6, c7, c8, c9, c10, c11, c12, c13, c14, c15, c16].drop 16).take (Try.prog.cellsOf 24)) = some y16 := hg 16 _ rfl
      rw [pkc_u64] at g16
      change DataW.trod enc Try.prog W 0 (fun _ => true) true n 24 [c16] = some y16 at g16
      clear hg hsz
      obtain ⟨lp, e0, -, w0⟩ := DataW.trod_int Try.underlying5 g0
      simp only [List.cons.injEq, and_true] at e0
      have b0 := u8_of_wf w0
      obtain ⟨lp, rfl⟩ : ∃ m : Nat, lp = (m : Int) := ⟨lp.toNat, by omega⟩
      obtain ⟨ve, e1, -, w1⟩ := DataW.trod_int Try.underlying5 g1
      simp only [List.cons.injEq, and_true] at e1
      have b1 := u8_of_wf w1
      obtain ⟨ve, rfl⟩ : ∃ m : Nat, ve = (m : Int) := ⟨ve.toNat, by omega⟩
      obtain ⟨mo, e2, -, w2⟩ := DataW.trod_int Try.underlying5 g2
      simp only [List.cons.injEq, and_true] at e2
      have b2 := u8_of_wf w2
      obtain ⟨mo, rfl⟩ : ∃ m : Nat, mo = (m : Int) := ⟨mo.toNat, by omega⟩
      obtain ⟨st, e3, -, w3⟩ := DataW.trod_int Try.underlying5 g3
      simp only [List.cons.injEq, and_true] at e3
      have b3 := u8_of_wf w3
      obtain ⟨st, rfl⟩ : ∃ m : Nat, st = (m : Int) := ⟨st.toNat, by omega⟩
      obtain ⟨po, e4, -, w4⟩ := DataW.trod_int Try.underlying22 g4
      simp only [List.cons.injEq, and_true] at e4
      obtain ⟨pr, e5, -, w5⟩ := DataW.trod_int Try.underlying22 g5
      simp only [List.cons.injEq, and_true] at e5
      obtain ⟨de, e6, -, w6⟩ := DataW.trod_int Try.underlying23 g6
      simp only [List.cons.injEq, and_true] at e6
      have b6 := u32_of_wf w6
      obtain ⟨de, rfl⟩ : ∃ m : Nat, de = (m : Int) := ⟨de.toNat, by omega⟩
      obtain ⟨di, e7, -, w7⟩ := DataW.trod_int Try.underlying23 g7
      simp only [List.cons.injEq, and_true] at e7
      have b7 := u32_of_wf w7
      obtain ⟨di, rfl⟩ : ∃ m : Nat, di = (m : Int) := ⟨di.toNat, by omega⟩
      obtain ⟨ri, e8, -, w8⟩ := DataW.trod_int Try.underlying23 g8
      simp only [List.cons.injEq, and_true] at e8
      have b8 := u32_of_wf w8
      obtain ⟨ri, rfl⟩ : ∃ m : Nat, ri = (m : Int) := ⟨ri.toNat, by omega⟩
      obtain ⟨rf, e9, -, w9⟩ := DataW.trod_int Try.underlying24 g9
      simp only [List.cons.injEq, and_true] at e9
      have b9 := word_of_wf w9
      obtain ⟨rf, rfl⟩ : ∃ m : Nat, rf = (m : Int) := ⟨rf.toNat, by omega⟩
      obtain ⟨og, e10, -, w10⟩ := DataW.trod_int Try.underlying24 g10
      simp only [List.cons.injEq, and_true] at e10
      have b10 := word_of_wf w10
      obtain ⟨og, rfl⟩ : ∃ m : Nat, og = (m : Int) := ⟨og.toNat, by omega⟩
      obtain ⟨rc, e11, -, w11⟩ := DataW.trod_int Try.underlying24 g11
      simp only [List.cons.injEq, and_true] at e11
      have b11 := word_of_wf w11
      obtain ⟨rc, rfl⟩ : ∃ m : Nat, rc = (m : Int) := ⟨rc.toNat, by omega⟩
      obtain ⟨xm, e12, -, w12⟩ := DataW.trod_int Try.underlying24 g12
      simp only [List.cons.injEq, and_true] at e12
      have b12 := word_of_wf w12
      obtain ⟨xm, rfl⟩ : ∃ m : Nat, xm = (m : Int) := ⟨xm.toNat, by omega⟩
      obtain ⟨p, a, b, fs, rfl, hx, hok⟩ := read_exts_in (g := 5) Try.underlying25 Try.underlying52 (by kernel_rfl) (by kernel_rfl) (by kernel_rfl) (by kernel_rfl) (by kernel_rfl) (by kernel_rfl) (by kernel_rfl) Try.underlying5 (by kernel_rfl) g13
      obtain ⟨sg, e14, -⟩ := DataW.trod_bool Try.underlying4 g14
      simp only [List.cons.injEq, and_true] at e14
      obtain ⟨ky, e15, -, w15⟩ := DataW.trod_int Try.underlying23 g15
      simp only [List.cons.injEq, and_true] at e15
      have b15 := u32_of_wf w15
      obtain ⟨ky, rfl⟩ : ∃ m : Nat, ky = (m : Int) := ⟨ky.toNat, by omega⟩
      obtain ⟨tg, e16, -, w16⟩ := DataW.trod_int Try.underlying24 g16
      simp only [List.cons.injEq, and_true] at e16
      have b16 := word_of_wf w16
      obtain ⟨tg, rfl⟩ : ∃ m : Nat, tg = (m : Int) := ⟨tg.toNat, by omega⟩
      subst e0 e1 e2 e3 e4 e5 e6 e7 e8 e9 e10 e11 e12 e14 e15 e16
      exact ⟨⟨lp, ve, mo, st, po, pr, de, di, ri, rf, og, rc, xm⟩, ⟨p, a, b, sg, ky, tg⟩, fs, rfl, ⟨rfl, hx, ⟨⟨by have := b0; show lp < _; omega, by have := b1; show ve < _; omega, by have := b2; show mo < _; omega, by have := b3; show st < _; omega, i8_of_wf w4, i8_of_wf w5, by have := b6; show de < _; omega, by have := b7; show di < _; omega, by have := b8; show ri < _; omega, by have := b9; show rf < _; omega, by have := b10; show og < _; omega, by have := b11; show rc < _; omega, by have := b12; show xm < _; omega⟩, (fun x hx => by unfold says at hx; obtain ⟨f, hf, rfl⟩ := List.mem_map.1 hx; exact hok f hf), by have := b15; show ky < _; omega, by have := b16; show tg < _; omega⟩⟩⟩
end
theorem nat_of7 {x : Int} (h : 0 ≤ x) : ∃ n : Nat, x = (n : Int) := ⟨x.toNat, by omega⟩
theorem arr2 {C : Array Value} {zs : List Int} (hs : C.size = 2) (hl : C.toList = valsI .u64 zs) (hw : ∀ z ∈ zs, (Lit.int .u64 z).wf = true) :
    ∃ b0 b1 : Nat, C = #[.int .u64 (b0 : Nat), .int .u64 (b1 : Nat)] ∧ b0 < 18446744073709551616 ∧ b1 < 18446744073709551616 := by
  have ln : zs.length = 2 := by
    have e := congrArg List.length hl
    rw [valsI_len, Array.length_toList, hs] at e
    exact e.symm
  match zs, ln with
  | [z0, z1], _ =>
    have a0 := word_of_wf (hw z0 (by simp))
    have a1 := word_of_wf (hw z1 (by simp))
    obtain ⟨b0, rfl⟩ := nat_of7 a0.1
    obtain ⟨b1, rfl⟩ := nat_of7 a1.1
    refine ⟨b0, b1, ?_, by omega, by omega⟩
    apply Array.toList_inj.1
    rw [hl]
    rfl
end Go.Proofs.Ytfnidehbibfclaa
