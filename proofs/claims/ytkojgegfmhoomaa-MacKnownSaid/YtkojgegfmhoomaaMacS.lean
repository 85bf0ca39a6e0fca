/- Layer 6 (mac), the program's own: a state begins, takes a word, ends. -/
import Derived.Test.YtkojgegfmhoomaaMacP
import Derived.Test.YtkojgegfmhoomaaMacI
import Derived.Deep.QuietTactic
import Derived.BigQuiet
import Derived.StillTailTactics
namespace Go.Proofs.Ytkojgegfmhoomaa
open Go.ChangeShapes Go.WideShapes Go.ChangeAt Go.RowKit OctM

theorem sizeState : (Try.prog.info? 59).map (·.size) = some 4 := by kernel_rfl
theorem OnlyB.drewN {B : Nat} {W W' : World} (h : OnlyB B W W') (n : Nat) : OnlyB B W (W'.drewN n) := ⟨h.keep, h.size, fun N hN => below_drewN (h.low N hN) n⟩
def stV (s : St) : Value := .agg #[.int .u64 (s.a : Nat), .int .u64 (s.b : Nat), .int .u64 (s.c : Nat), .int .u64 (s.d : Nat)]
/-- A state is told. -/
theorem results_st {fn : Func} {p : Tmp} (h : fn.results = #[.cell p 59]) (tmps : Array Value) (w : World) (N : Nat) (s : St)
    (hp : tmps.getD p undef = .pointer (some ⟨N, 0, none⟩)) (hg : StP w N s) :
    (results fn tmps).run Try.prog w = .ok (stV s) w := by
  have hp' : tmps[p]?.getD undef = .pointer (some ⟨N, 0, none⟩) := by simpa using hp
  have hl : (loadVar 59 ⟨N, 0, none⟩).run Try.prog w = .ok (stV s) w :=
    run_loadVar_row w N _ _ _ (0, 0) _ hg Try.underlying59 rfl sizeState
  simp [results, h, hp', asAddr, hl]
theorem blk_four {w : World} {N : Nat} {x y z u : Value} {T : TypeId} (h : w.heap[N]? = some (.cells #[x, y, z, u] T (0, 0))) (a b c d : Value) :
    ((((w.setCell ⟨N, 0, none⟩ a).setCell ⟨N, 1, none⟩ b).setCell ⟨N, 2, none⟩ c).setCell ⟨N, 3, none⟩ d).heap[N]? = some (.cells #[a, b, c, d] T (0, 0)) := by
  have h1 : (w.setCell ⟨N, 0, none⟩ a).heap[N]? = some (.cells #[a, y, z, u] T (0, 0)) := blk_set h
  have h2 : ((w.setCell ⟨N, 0, none⟩ a).setCell ⟨N, 1, none⟩ b).heap[N]? = some (.cells #[a, b, z, u] T (0, 0)) := blk_set h1
  have h3 : (((w.setCell ⟨N, 0, none⟩ a).setCell ⟨N, 1, none⟩ b).setCell ⟨N, 2, none⟩ c).heap[N]? = some (.cells #[a, b, c, u] T (0, 0)) := blk_set h2
  exact blk_set h3

set_option maxRecDepth 100000 in
theorem pbegin_any (w : World) (k : Ky) (hk : KeyOk k) : Calls Try.prog 22 #[keyV k] w fun e w' => e = .returned (stV (initS k.a k.b)) ∧ Below w.heap.size w w' := by
  obtain ⟨id, A, B⟩ := k
  obtain ⟨-, hA, hB⟩ := hk
  simp only at hA hB
  obtain ⟨x0, hx0⟩ : ∃ x, x = A ^^^ 8317987319222330741 := ⟨_, rfl⟩
  obtain ⟨x1, hx1⟩ : ∃ x, x = B ^^^ 7237128888997146477 := ⟨_, rfl⟩
  obtain ⟨x2, hx2⟩ : ∃ x, x = A ^^^ 7816392313619706465 := ⟨_, rfl⟩
  obtain ⟨x3, hx3⟩ : ∃ x, x = B ^^^ 8387220255154660723 := ⟨_, rfl⟩
  have e0 : bits .xor .u64 (A : Int) 8317987319222330741 = (x0 : Int) := by rw [hx0]; exact bits_xor_u64_nat _ 8317987319222330741 hA (by decide)
  have e1 : bits .xor .u64 (B : Int) 7237128888997146477 = (x1 : Int) := by rw [hx1]; exact bits_xor_u64_nat _ 7237128888997146477 hB (by decide)
  have e2 : bits .xor .u64 (A : Int) 7816392313619706465 = (x2 : Int) := by rw [hx2]; exact bits_xor_u64_nat _ 7816392313619706465 hA (by decide)
  have e3 : bits .xor .u64 (B : Int) 8387220255154660723 = (x3 : Int) := by rw [hx3]; exact bits_xor_u64_nat _ 8387220255154660723 hB (by decide)
  have IS : Hid (initS A B = ⟨x0, x1, x2, x3⟩) := by unfold Hid initS; rw [hx0, hx1, hx2, hx3]
  clear hx0 hx1 hx2 hx3
  unfold keyV
  go_enter Try.func22, Try.ntmps22
  go_wp2_with fail
  refine bodyPost_ret (results_st rfl _ _ (w.heap.size + 1) ⟨x0, x1, x2, x3⟩ rfl (heap_alloc2_new _ _ _)) rfl ?_
  exact ⟨by rw [← IS.out], ((Below.refl _ _).alloc (Nat.le_refl _) _).alloc (by simp) _⟩

set_option maxRecDepth 100000 in
set_option maxHeartbeats 4000000 in
theorem ptake_any (w : World) (B : Nat) (s : St) (m : Nat) (hs : s.ok) (hb : StP w B s) (hm : W64 m) :
    Calls Try.prog 23 #[.pointer (some ⟨B, 0, none⟩), .int .u64 (m : Nat)] w fun e w' => e = .returned (.tuple #[]) ∧ StP w' B (takeS s m) ∧ OnlyB B w w' := by
  obtain ⟨a, b, c, d⟩ := s
  obtain ⟨wa, wb, wc, wd⟩ := hs
  simp only at wa wb wc wd
  have h0 : w.heap[B]? = some (.cells #[.int .u64 (a : Nat), .int .u64 (b : Nat), .int .u64 (c : Nat), .int .u64 (d : Nat)] 59 (0, 0)) := hb
  obtain ⟨d1, hd1⟩ : ∃ x, x = d ^^^ m := ⟨_, rfl⟩
  have ev : bits .xor .u64 (d : Int) (m : Int) = (d1 : Int) := by rw [hd1]; exact bits_xor_u64_nat _ _ wd hm
  have S1 : Hid (inD ⟨a, b, c, d⟩ m = ⟨a, b, c, d1⟩) := by unfold Hid; rw [hd1]; rfl
  have OK1 : Hid (St.ok ⟨a, b, c, d1⟩) := ⟨wa, wb, wc, by rw [hd1]; exact xor_lt wd hm⟩
  have H0 := Lib.hid h0
  have WM := Lib.hid hm
  have O0 := Lib.hid (OnlyB.refl B w)
  have c1 := blk_cell (o := 3) H0.out
  clear hb hm wa wb wc wd h0 hd1
  go_enter Try.func23, Try.ntmps23
  go_wp2_with fail
  go_still_tail 8, (by kernel_rfl)
  change wpList _ _ _ _ _ w.drew
  have G0 := Lib.hid (show w.drew.heap[B]? = _ from H0.out)
  have Q0 := Lib.hid O0.out.drew
  clear c1
  have c1 := blk_cell (o := 3) G0.out
  have f1 := blk_free (o := 3) G0.out
  generalize w.drew = v0 at *
  go_wp2_with fail
  have H1 := Lib.hid (show StP (v0.setCell ⟨B, 3, none⟩ (.int .u64 (d1 : Nat))) B ⟨a, b, c, d1⟩ from blk_set (o := 3) (u := .int .u64 (d1 : Nat)) G0.out)
  have O1 := Lib.hid (Q0.out.set 3 (.int .u64 (d1 : Nat)))
  clear c1 f1 ev
  generalize v0.setCell ⟨B, 3, none⟩ (.int .u64 (d1 : Nat)) = v1 at *
  refine (pturn6_any v1 B _ 2 OK1.out H1.out (by decide)).mono ?_; rintro e v3 ⟨rfl, st3, on2⟩
  have O3 := Lib.hid (O1.out.trans on2)
  have ok3 := roundsK_ok OK1.out 2
  rw [← S1.out] at st3 ok3
  have NXT : Hid (takeS ⟨a, b, c, d⟩ m = inA (roundsK (inD ⟨a, b, c, d⟩ m) 2) m) := rfl
  generalize roundsK (inD ⟨a, b, c, d⟩ m) 2 = s3 at *
  obtain ⟨a3, b3, c3', d3⟩ := s3
  have H3 : Hid (v3.heap[B]? = some (.cells #[.int .u64 (a3 : Nat), .int .u64 (b3 : Nat), .int .u64 (c3' : Nat), .int .u64 (d3 : Nat)] 59 (0, 0))) := st3
  obtain ⟨a4, ha4⟩ : ∃ x, x = a3 ^^^ m := ⟨_, rfl⟩
  have ev : bits .xor .u64 (a3 : Int) (m : Int) = (a4 : Int) := by rw [ha4]; exact bits_xor_u64_nat _ _ ok3.a WM.out
  have S4 : Hid (takeS ⟨a, b, c, d⟩ m = ⟨a4, b3, c3', d3⟩) := by unfold Hid; rw [NXT.out, ha4]; rfl
  have c1 := blk_cell (o := 0) H3.out
  clear st3 on2 ok3 ha4 NXT S1
  go_wp2_with fail
  go_still_tail 8, (by kernel_rfl)
  change wpList _ _ _ _ _ v3.drew
  have G3 := Lib.hid (show v3.drew.heap[B]? = _ from H3.out)
  have Q3 := Lib.hid O3.out.drew
  clear c1
  have c1 := blk_cell (o := 0) G3.out
  have f1 := blk_free (o := 0) G3.out
  generalize v3.drew = v4 at *
  have H4 : Hid (StP (v4.setCell ⟨B, 0, none⟩ (.int .u64 (a4 : Nat))) B (takeS ⟨a, b, c, d⟩ m)) := by
    unfold Hid
    rw [S4.out]
    exact blk_set (o := 0) (u := .int .u64 (a4 : Nat)) G3.out
  have O4 := Lib.hid (Q3.out.set 0 (.int .u64 (a4 : Nat)))
  clear S4
  go_wp2
  go_end0
  exact ⟨rfl, H4.out, O4.out⟩

set_option maxRecDepth 100000 in
set_option maxHeartbeats 4000000 in
theorem pend_any (w : World) (B : Nat) (s : St) (hs : s.ok) (hb : StP w B s) (T : Nat) (hT : T = endN (fourN (inC s))) :
    Calls Try.prog 24 #[.pointer (some ⟨B, 0, none⟩)] w fun e w' => e = .returned (.int .u64 (T : Nat)) ∧ OnlyB B w w' := by
  obtain ⟨a, b, c, d⟩ := s
  have okc := inC_ok hs
  obtain ⟨wa, wb, wc, wd⟩ := hs
  simp only at wa wb wc wd
  have h0 : w.heap[B]? = some (.cells #[.int .u64 (a : Nat), .int .u64 (b : Nat), .int .u64 (c : Nat), .int .u64 (d : Nat)] 59 (0, 0)) := hb
  obtain ⟨c1', hc1⟩ : ∃ x, x = c ^^^ 255 := ⟨_, rfl⟩
  have ev : bits .xor .u64 (c : Int) 255 = (c1' : Int) := by rw [hc1]; exact bits_xor_u64_nat _ 255 wc (by decide)
  have S1 : Hid (inC ⟨a, b, c, d⟩ = ⟨a, b, c1', d⟩) := by unfold Hid; rw [hc1]; rfl
  have H0 := Lib.hid h0
  have OKC := Lib.hid okc
  have O0 := Lib.hid (OnlyB.refl B w)
  have TG := Lib.hid hT
  have q1 := blk_cell (o := 2) H0.out
  clear hb wa wb wc wd h0 hc1 okc hT
  go_enter Try.func24, Try.ntmps24
  go_wp2_with fail
  go_still_tail 7, (by kernel_rfl)
  change wpList _ _ _ _ _ w.drew
  have G0 := Lib.hid (show w.drew.heap[B]? = _ from H0.out)
  have Q0 := Lib.hid O0.out.drew
  clear q1
  have q1 := blk_cell (o := 2) G0.out
  have f1 := blk_free (o := 2) G0.out
  generalize w.drew = v0 at *
  go_wp2_with fail
  have H1 := Lib.hid (show StP (v0.setCell ⟨B, 2, none⟩ (.int .u64 (c1' : Nat))) B ⟨a, b, c1', d⟩ from blk_set (o := 2) (u := .int .u64 (c1' : Nat)) G0.out)
  have O1 := Lib.hid (Q0.out.set 2 (.int .u64 (c1' : Nat)))
  rw [← S1.out] at H1
  clear q1 f1 ev
  generalize v0.setCell ⟨B, 2, none⟩ (.int .u64 (c1' : Nat)) = v1 at *
  refine (pturn6_any v1 B _ 4 OKC.out H1.out (by decide)).mono ?_; rintro e v3 ⟨rfl, st3, on2⟩
  have O3 := Lib.hid (O1.out.trans on2)
  have ok3 := roundsK_ok OKC.out 4
  rw [show roundsK (inC ⟨a, b, c, d⟩) 4 = fourN (inC ⟨a, b, c, d⟩) from rfl] at st3 ok3
  generalize fourN (inC ⟨a, b, c, d⟩) = s3 at *
  obtain ⟨a3, b3, c3, d3⟩ := s3
  have H3 : Hid (v3.heap[B]? = some (.cells #[.int .u64 (a3 : Nat), .int .u64 (b3 : Nat), .int .u64 (c3 : Nat), .int .u64 (d3 : Nat)] 59 (0, 0))) := st3
  obtain ⟨y1, hy1⟩ : ∃ x, x = a3 ^^^ b3 := ⟨_, rfl⟩
  obtain ⟨y2, hy2⟩ : ∃ x, x = y1 ^^^ c3 := ⟨_, rfl⟩
  obtain ⟨y3, hy3⟩ : ∃ x, x = y2 ^^^ d3 := ⟨_, rfl⟩
  have f1 : bits .xor .u64 (a3 : Int) (b3 : Int) = (y1 : Int) := by rw [hy1]; exact bits_xor_u64_nat _ _ ok3.a ok3.b
  have wy1 : W64 y1 := by rw [hy1]; exact xor_lt ok3.a ok3.b
  have f2 : bits .xor .u64 (y1 : Int) (c3 : Int) = (y2 : Int) := by rw [hy2]; exact bits_xor_u64_nat _ _ wy1 ok3.c
  have wy2 : W64 y2 := by rw [hy2]; exact xor_lt wy1 ok3.c
  have f3 : bits .xor .u64 (y2 : Int) (d3 : Int) = (y3 : Int) := by rw [hy3]; exact bits_xor_u64_nat _ _ wy2 ok3.d
  have TG' : Hid ((y3 : Nat) = T) := by
    unfold Hid
    rw [TG.out, hy3, hy2, hy1]
    rfl
  have k0 := blk_cell (o := 0) H3.out
  have k1 := blk_cell (o := 1) H3.out
  have k2 := blk_cell (o := 2) H3.out
  have k3 := blk_cell (o := 3) H3.out
  clear st3 on2 ok3 hy1 hy2 hy3 wy1 wy2 TG S1
  go_wp2_with fail
  go_quiet (fail)
  go_wp2
  go_ret
  exact ⟨ret_int (by rw [TG'.out]), O3.out.drewN _⟩
end Go.Proofs.Ytkojgegfmhoomaa
