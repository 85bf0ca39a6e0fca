/- A parameter that is a packet by value, opened: for every stage. (Written by wip/tools/genframep.py.) -/
import Derived.Test.YtggogcbmdillfaaDoorFrame
import Derived.Test.YtggogcbmdillfaaDoorPack
import Derived.Deep.Slices
import Derived.Deep.Fields
import Derived.ChangeSame
set_option maxRecDepth 100000
namespace Go.Proofs.YtggogcbmdillfaaDoor
open Go.ChangeShapes Go.WideShapes Go.ChangeAt Go.RowKit Go.Joins Go.Deep

theorem i8_of_wf {x : Int} (h : (Lit.int .i8 x).wf = true) : -128 ≤ x ∧ x ≤ 127 := by
  simp [Lit.wf, IntKind.min, IntKind.max, IntKind.signed, IntKind.bits] at h
  exact ⟨by omega, by omega⟩

section
variable {H : Type} {enc : TypeId × Value → H}

theorem pkc_u8 : Tryd.prog.cellsOf 5 = 1 := by kernel_rfl
theorem pkc_i8 : Tryd.prog.cellsOf 22 = 1 := by kernel_rfl
theorem pkc_u32 : Tryd.prog.cellsOf 23 = 1 := by kernel_rfl
theorem pkc_u64 : Tryd.prog.cellsOf 24 = 1 := by kernel_rfl
theorem pkc_S : Tryd.prog.cellsOf 25 = 1 := by kernel_rfl
theorem pkc_B : Tryd.prog.cellsOf 4 = 1 := by kernel_rfl
theorem pkc_size : Tryd.prog.cellsOf 27 = 17 := by kernel_rfl

theorem read_pk {W : World} {base : Nat} {v : Value} {d : DataW H} {ps : List MemPlace} (hok : Value.okWide Tryd.prog W .any base 27 v) (h : DataW.Trod enc Tryd.prog W 0 (fun _ => true) true 27 v d ps) :
    ∃ hd x, v = pkV hd x ∧ hd.wf := by
  obtain ⟨cs, rfl, hsz⟩ := okWide_struct Tryd.underlying27 hok
  obtain ⟨l⟩ := cs
  obtain ⟨fuel, hf⟩ := h
  obtain ⟨xs, n, _, hx, _, hlen, hg⟩ := DataW.trod_struct Tryd.underlying27 hf
  clear hf hok hx
  match l, hsz.trans pkc_size with
  | [c0, c1, c2, c3, c4, c5, c6, c7, c8, c9, c10, c11, c12, c13, c14, c15, c16], _ =>
    match xs, hlen with
    | [y0, y1, y2, y3, y4, y5, y6, y7, y8, y9, y10, y11, y12, y13, y14, y15, y16], _ =>
      have g0 : DataW.trod enc Tryd.prog W 0 (fun _ => true) true n 5 (([c0, c1, c2, c3, c4, c5, c6, c7, c8, c9, c10, c11, c12, c13, c14, c15, c16].drop 0).take (Tryd.prog.cellsOf 5)) = some y0 := hg 0 _ rfl
      rw [pkc_u8] at g0
      change DataW.trod enc Tryd.prog W 0 (fun _ => true) true n 5 [c0] = some y0 at g0
      have g1 : DataW.trod enc Tryd.prog W 0 (fun _ => true) true n 5 (([c0, c1, c2, c3, c4, c5, c6, c7, c8, c9, c10, c11, c12, c13, c14, c15, c16].drop 1).take (Tryd.prog.cellsOf 5)) = some y1 := hg 1 _ rfl
      rw [pkc_u8] at g1
      change DataW.trod enc Tryd.prog W 0 (fun _ => true) true n 5 [c1] = some y1 at g1
      have g2 : DataW.trod enc Tryd.prog W 0 (fun _ => true) true n 5 (([c0, c1, c2, c3, c4, c5, c6, c7, c8, c9, c10, c11, c12, c13, c14, c15, c16].drop 2).take (Tryd.prog.cellsOf 5)) = some y2 := hg 2 _ rfl
      rw [pkc_u8] at g2
      change DataW.trod enc Tryd.prog W 0 (fun _ => true) true n 5 [c2] = some y2 at g2
      have g3 : DataW.trod enc Tryd.prog W 0 (fun _ => true) true n 5 (([c0, c1, c2, c3, c4, c5, c6, c7, c8, c9, c10, c11, c12, c13, c14, c15, c16].drop 3).take (Tryd.prog.cellsOf 5)) = some y3 := hg 3 _ rfl
      rw [pkc_u8] at g3
      change DataW.trod enc Tryd.prog W 0 (fun _ => true) true n 5 [c3] = some y3 at g3
      have g4 : DataW.trod enc Tryd.prog W 0 (fun _ => true) true n 22 (([c0, c1, c2, c3, c4, c5, c6, c7, c8, c9, c10, c11, c12, c13, c14, c15, c16].drop 4).take (Tryd.prog.cellsOf 22)) = some y4 := hg 4 _ rfl
      rw [pkc_i8] at g4
      change DataW.trod enc Tryd.prog W 0 (fun _ => true) true n 22 [c4] = some y4 at g4
      have g5 : DataW.trod enc Tryd.prog W 0 (fun _ => true) true n 22 (([c0, c1, c2, c3, c4, c5, c6, c7, c8, c9, c10, c11, c12, c13, c14, c15, c16].drop 5).take (Tryd.prog.cellsOf 22)) = some y5 := hg 5 _ rfl
      rw [pkc_i8] at g5
      change DataW.trod enc Tryd.prog W 0 (fun _ => true) true n 22 [c5] = some y5 at g5
      have g6 : DataW.trod enc Tryd.prog W 0 (fun _ => true) true n 23 (([c0, c1, c2, c3, c4, c5, c6, c7, c8, c9, c10, c11, c12, c13, c14, c15, c16].drop 6).take (Tryd.prog.cellsOf 23)) = some y6 := hg 6 _ rfl
      rw [pkc_u32] at g6
      change DataW.trod enc Tryd.prog W 0 (fun _ => true) true n 23 [c6] = some y6 at g6
      have g7 : DataW.trod enc Tryd.prog W 0 (fun _ => true) true n 23 (([c0, c1, c2, c3, c4, c5, c6, c7, c8, c9, c10, c11, c12, c13, c14, c15, c16].drop 7).take (Tryd.prog.cellsOf 23)) = some y7 := hg 7 _ rfl
      rw [pkc_u32] at g7
      change DataW.trod enc Tryd.prog W 0 (fun _ => true) true n 23 [c7] = some y7 at g7
      have g8 : DataW.trod enc Tryd.prog W 0 (fun _ => true) true n 23 (([c0, c1, c2, c3, c4, c5, c6, c7, c8, c9, c10, c11, c12, c13, c14, c15, c16].drop 8).take (Tryd.prog.cellsOf 23)) = some y8 := hg 8 _ rfl
      rw [pkc_u32] at g8
      change DataW.trod enc Tryd.prog W 0 (fun _ => true) true n 23 [c8] = some y8 at g8
      have g9 : DataW.trod enc Tryd.prog W 0 (fun _ => true) true n 24 (([c0, c1, c2, c3, c4, c5, c6, c7, c8, c9, c10, c11, c12, c13, c14, c15, c16].drop 9).take (Tryd.prog.cellsOf 24)) = some y9 := hg 9 _ rfl
      rw [pkc_u64] at g9
      change DataW.trod enc Tryd.prog W 0 (fun _ => true) true n 24 [c9] = some y9 at g9
      have g10 : DataW.trod enc Tryd.prog W 0 (fun _ => true) true n 24 (([c0, c1, c2, c3, c4, c5, c6, c7, c8, c9, c10, c11, c12, c13, c14, c15, c16].drop 10).take (Tryd.prog.cellsOf 24)) = some y10 := hg 10 _ rfl
      rw [pkc_u64] at g10
      change DataW.trod enc Tryd.prog W 0 (fun _ => true) true n 24 [c10] = some y10 at g10
      have g11 : DataW.trod enc Tryd.prog W 0 (fun _ => true) true n 24 (([c0, c1, c2, c3, c4, c5, c6, c7, c8, c9, c10, c11, c12, c13, c14, c15, c16].drop 11).take (Tryd.prog.cellsOf 24)) = some y11 := hg 11 _ rfl
      rw [pkc_u64] at g11
      change DataW.trod enc Tryd.prog W 0 (fun _ => true) true n 24 [c11] = some y11 at g11
      have g12 : DataW.trod enc Tryd.prog W 0 (fun _ => true) true n 24 (([c0, c1, c2, c3, c4, c5, c6, c7, c8, c9, c10, c11, c12, c13, c14, c15, c16].drop 12).take (Tryd.prog.cellsOf 24)) = some y12 := hg 12 _ rfl
      rw [pkc_u64] at g12
      change DataW.trod enc Tryd.prog W 0 (fun _ => true) true n 24 [c12] = some y12 at g12
      have g13 : DataW.trod enc Tryd.prog W 0 (fun _ => true) true n 25 (([c0, c1, c2, c3, c4, c5, c6, c7, c8, c9, c10, c11, c12, c13, c14, c15, c16].drop 13).take (Tryd.prog.cellsOf 25)) = some y13 := hg 13 _ rfl
      rw [pkc_S] at g13
      change DataW.trod enc Tryd.prog W 0 (fun _ => true) true n 25 [c13] = some y13 at g13
      have g14 : DataW.trod enc Tryd.prog W 0 (fun _ => true) true n 4 (([c0, c1, c2, c3, c4, c5, c6, c7, c8, c9, c10, c11, c12, c13, c14, c15, c16].drop 14).take (Tryd.prog.cellsOf 4)) = some y14 := hg 14 _ rfl
      rw [pkc_B] at g14
      change DataW.trod enc Tryd.prog W 0 (fun _ => true) true n 4 [c14] = some y14 at g14
      have g15 : DataW.trod enc Tryd.prog W 0 (fun _ => true) true n 23 (([c0, c1, c2, c3, c4, c5, c6, c7, c8, c9, c10, c11, c12, c13, c14, c15, c16].drop 15).take (Tryd.prog.cellsOf 23)) = some y15 := hg 15 _ rfl
      rw [pkc_u32] at g15
      change DataW.trod enc Tryd.prog W 0 (fun _ => true) true n 23 [c15] = some y15 at g15
      have g16 : DataW.trod enc Tryd.prog W 0 (fun _ => true) true n 24 (([c0, c1, c2, c3, c4, c5, c6, c7, c8, c9, c10, c11, c12, c13, c14, c15, c16].drop 16).take (Tryd.prog.cellsOf 24)) = some y16 := hg 16 _ rfl
      rw [pkc_u64] at g16
      change DataW.trod enc Tryd.prog W 0 (fun _ => true) true n 24 [c16] = some y16 at g16
      clear hg hsz
      obtain ⟨lp, e0, -, w0⟩ := DataW.trod_int Tryd.underlying5 g0
      simp only [List.cons.injEq, and_true] at e0
      have b0 := u8_of_wf w0
      obtain ⟨lp, rfl⟩ : ∃ m : Nat, lp = (m : Int) := ⟨lp.toNat, by omega⟩
      obtain ⟨ve, e1, -, w1⟩ := DataW.trod_int Tryd.underlying5 g1
      simp only [List.cons.injEq, and_true] at e1
      have b1 := u8_of_wf w1
      obtain ⟨ve, rfl⟩ : ∃ m : Nat, ve = (m : Int) := ⟨ve.toNat, by omega⟩
      obtain ⟨mo, e2, -, w2⟩ := DataW.trod_int Tryd.underlying5 g2
      simp only [List.cons.injEq, and_true] at e2
      have b2 := u8_of_wf w2
      obtain ⟨mo, rfl⟩ : ∃ m : Nat, mo = (m : Int) := ⟨mo.toNat, by omega⟩
      obtain ⟨st, e3, -, w3⟩ := DataW.trod_int Tryd.underlying5 g3
      simp only [List.cons.injEq, and_true] at e3
      have b3 := u8_of_wf w3
      obtain ⟨st, rfl⟩ : ∃ m : Nat, st = (m : Int) := ⟨st.toNat, by omega⟩
      obtain ⟨po, e4, -, w4⟩ := DataW.trod_int Tryd.underlying22 g4
      simp only [List.cons.injEq, and_true] at e4
      obtain ⟨pr, e5, -, w5⟩ := DataW.trod_int Tryd.underlying22 g5
      simp only [List.cons.injEq, and_true] at e5
      obtain ⟨de, e6, -, w6⟩ := DataW.trod_int Tryd.underlying23 g6
      simp only [List.cons.injEq, and_true] at e6
      have b6 := u32_of_wf w6
      obtain ⟨de, rfl⟩ : ∃ m : Nat, de = (m : Int) := ⟨de.toNat, by omega⟩
      obtain ⟨di, e7, -, w7⟩ := DataW.trod_int Tryd.underlying23 g7
      simp only [List.cons.injEq, and_true] at e7
      have b7 := u32_of_wf w7
      obtain ⟨di, rfl⟩ : ∃ m : Nat, di = (m : Int) := ⟨di.toNat, by omega⟩
      obtain ⟨ri, e8, -, w8⟩ := DataW.trod_int Tryd.underlying23 g8
      simp only [List.cons.injEq, and_true] at e8
      have b8 := u32_of_wf w8
      obtain ⟨ri, rfl⟩ : ∃ m : Nat, ri = (m : Int) := ⟨ri.toNat, by omega⟩
      obtain ⟨rf, e9, -, w9⟩ := DataW.trod_int Tryd.underlying24 g9
      simp only [List.cons.injEq, and_true] at e9
      have b9 := word_of_wf w9
      obtain ⟨rf, rfl⟩ : ∃ m : Nat, rf = (m : Int) := ⟨rf.toNat, by omega⟩
      obtain ⟨og, e10, -, w10⟩ := DataW.trod_int Tryd.underlying24 g10
      simp only [List.cons.injEq, and_true] at e10
      have b10 := word_of_wf w10
      obtain ⟨og, rfl⟩ : ∃ m : Nat, og = (m : Int) := ⟨og.toNat, by omega⟩
      obtain ⟨rc, e11, -, w11⟩ := DataW.trod_int Tryd.underlying24 g11
      simp only [List.cons.injEq, and_true] at e11
      have b11 := word_of_wf w11
      obtain ⟨rc, rfl⟩ : ∃ m : Nat, rc = (m : Int) := ⟨rc.toNat, by omega⟩
      obtain ⟨xm, e12, -, w12⟩ := DataW.trod_int Tryd.underlying24 g12
      simp only [List.cons.injEq, and_true] at e12
      have b12 := word_of_wf w12
      obtain ⟨xm, rfl⟩ : ∃ m : Nat, xm = (m : Int) := ⟨xm.toNat, by omega⟩
      have s13 : ∃ (p : Option Addr) (a b : Nat), c13 = .slice p a b := by
        rcases open_slice Tryd.underlying25 g13 with ⟨e, -⟩ | ⟨a, len, cap, _, _, _, _, e, -⟩
        · exact ⟨none, 0, 0, by simpa using e⟩
        · exact ⟨some a, len, cap, by simpa using e⟩
      obtain ⟨p, a, b, rfl⟩ := s13
      obtain ⟨sg, e14, -⟩ := DataW.trod_bool Tryd.underlying4 g14
      simp only [List.cons.injEq, and_true] at e14
      obtain ⟨ky, e15, -, w15⟩ := DataW.trod_int Tryd.underlying23 g15
      simp only [List.cons.injEq, and_true] at e15
      have b15 := u32_of_wf w15
      obtain ⟨ky, rfl⟩ : ∃ m : Nat, ky = (m : Int) := ⟨ky.toNat, by omega⟩
      obtain ⟨tg, e16, -, w16⟩ := DataW.trod_int Tryd.underlying24 g16
      simp only [List.cons.injEq, and_true] at e16
      have b16 := word_of_wf w16
      obtain ⟨tg, rfl⟩ : ∃ m : Nat, tg = (m : Int) := ⟨tg.toNat, by omega⟩
      subst e0 e1 e2 e3 e4 e5 e6 e7 e8 e9 e10 e11 e12 e14 e15 e16
      exact ⟨⟨lp, ve, mo, st, po, pr, de, di, ri, rf, og, rc, xm⟩, ⟨p, a, b, sg, ky, tg⟩, rfl, ⟨by have := b0; show lp < _; omega, by have := b1; show ve < _; omega, by have := b2; show mo < _; omega, by have := b3; show st < _; omega, i8_of_wf w4, i8_of_wf w5, by have := b6; show de < _; omega, by have := b7; show di < _; omega, by have := b8; show ri < _; omega, by have := b9; show rf < _; omega, by have := b10; show og < _; omega, by have := b11; show rc < _; omega, by have := b12; show xm < _; omega⟩⟩
end
end Go.Proofs.YtggogcbmdillfaaDoor

