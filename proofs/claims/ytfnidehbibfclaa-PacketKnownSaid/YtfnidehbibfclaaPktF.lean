/- Layer 7 (packet): the program's May: what of a packet may not be, asked by closures in an array; Same; seal. -/
import Derived.Test.YtfnidehbibfclaaPktB
import Derived.Test.YtfnidehbibfclaaGE
import Derived.Test.YtfnidehbibfclaaGG
set_option maxRecDepth 100000
namespace Go.Proofs.Ytfnidehbibfclaa
open Go.ChangeShapes Go.WideShapes Go.ChangeAt Go.RowKit OctM

attribute [local go_sem ↓] loadP_eq storeP_eq boxP_eq allocP_eq

def dbC (N : Nat) : Array Value := #[.func (.func 68) #[] #[.pointer (some ⟨N, 0, none⟩)], .func (.func 69) #[] #[.pointer (some ⟨N, 0, none⟩)], .func (.func 70) #[] #[.pointer (some ⟨N, 0, none⟩)], .func (.func 71) #[] #[.pointer (some ⟨N, 0, none⟩)]]
def dbV (N : Nat) : Value := .agg (dbC N)
/-- A whole array of four functions is stored: under a name that a walk does not open. -/
def storeD (a v : Value) : Sem Unit := Instr.storeAt 68 a v
theorem storeD_eq (a v : Value) : Instr.storeAt 68 a v = storeD a v := rfl
theorem size_db : (Try.prog.info? 68).map (·.size) = some 4 := by kernel_rfl
theorem store_db (w : World) (N : Nat) (old : Array Value) (ho : old.size = 4) : (storeD (.pointer (some ⟨w.heap.size, 0, none⟩)) (dbV N)).run Try.prog (w.alloc (.cells old 68)) = .ok () (w.alloc (.cells (dbC N) 68)) := by
  unfold storeD dbV
  simp only [Instr.storeAt, Instr.sureAddr, Sem.run_bind, Sem.run_pure, Result.andThen]
  exact run_storeVar_new w _ old (dbC N) size_db ho (by simp [dbC, Value.oneCell'])
theorem results_db {fn : Func} {p : Tmp} (h : fn.results = #[.cell p 68]) (tmps : Array Value) (w : World) (M N : Nat)
    (hp : tmps.getD p undef = .pointer (some ⟨M, 0, none⟩)) (hg : w.heap[M]? = some (.cells (dbC N) 68 (0, 0))) :
    (results fn tmps).run Try.prog w = .ok (dbV N) w := by
  have hp' : tmps[p]?.getD undef = .pointer (some ⟨M, 0, none⟩) := by simpa using hp
  have hl : (loadVar 68 ⟨M, 0, none⟩).run Try.prog w = .ok (dbV N) w := run_loadVar_row w M _ _ (dbC N) (0, 0) _ hg Try.underlying68 rfl size_db
  simp [results, h, hp', asAddr, hl]
theorem db_0 (N : Nat) (w : World) : (Instr.index 68 (dbV N) (.int .i64 0)).run Try.prog w = .ok (.func (.func 68) #[] #[.pointer (some ⟨N, 0, none⟩)]) w := by
  unfold dbV dbC
  simp [Instr.index, go_sem]
theorem db_1 (N : Nat) (w : World) : (Instr.index 68 (dbV N) (.int .i64 1)).run Try.prog w = .ok (.func (.func 69) #[] #[.pointer (some ⟨N, 0, none⟩)]) w := by
  unfold dbV dbC
  simp [Instr.index, go_sem]
theorem db_2 (N : Nat) (w : World) : (Instr.index 68 (dbV N) (.int .i64 2)).run Try.prog w = .ok (.func (.func 70) #[] #[.pointer (some ⟨N, 0, none⟩)]) w := by
  unfold dbV dbC
  simp [Instr.index, go_sem]
theorem db_3 (N : Nat) (w : World) : (Instr.index 68 (dbV N) (.int .i64 3)).run Try.prog w = .ok (.func (.func 71) #[] #[.pointer (some ⟨N, 0, none⟩)]) w := by
  unfold dbV dbC
  simp [Instr.index, go_sem]

attribute [local go_sem ↓] storeD_eq
theorem pdoubts7_any (w : World) (h : Hd) (x : Xt) :
    Calls Try.prog 41 #[pkV h x] w fun e w' => e = .returned (dbV w.heap.size) ∧ w'.heap[w.heap.size]? = some (.cells (pkC h x) 27 (0, 0)) ∧ Below w.heap.size w w' := by
  have bx := box_pk h x
  have SD : ∀ old : Array Value, old.size = 4 → (storeD (.pointer (some ⟨w.heap.size + 1, 0, none⟩)) (.agg #[.func (.func 68) #[] #[.pointer (some ⟨w.heap.size, 0, none⟩)], .func (.func 69) #[] #[.pointer (some ⟨w.heap.size, 0, none⟩)], .func (.func 70) #[] #[.pointer (some ⟨w.heap.size, 0, none⟩)], .func (.func 71) #[] #[.pointer (some ⟨w.heap.size, 0, none⟩)]])).run Try.prog ((w.alloc (.cells (pkC h x) 27)).alloc (.cells old 68)) = .ok () ((w.alloc (.cells (pkC h x) 27)).alloc (.cells (dbC w.heap.size) 68)) := fun old ho => by
    have := store_db (w.alloc (.cells (pkC h x) 27)) w.heap.size old ho
    simpa [dbV, dbC] using this
  have B1 : Hid (((w.alloc (.cells (pkC h x) 27)).alloc (.cells (dbC w.heap.size) 68)).heap[w.heap.size]? = some (.cells (pkC h x) 27 (0, 0))) := heap_alloc2_old w _ _
  have B2 : Hid (((w.alloc (.cells (pkC h x) 27)).alloc (.cells (dbC w.heap.size) 68)).heap[w.heap.size + 1]? = some (.cells (dbC w.heap.size) 68 (0, 0))) := heap_alloc2_new w _ _
  have L0 : Hid (Below w.heap.size w ((w.alloc (.cells (pkC h x) 27)).alloc (.cells (dbC w.heap.size) 68))) := ((Below.refl _ _).alloc (Nat.le_refl _) _).alloc (by simp) _
  go_enter Try.func41, Try.ntmps41
  go_wp2
  (try simp only [Exit.inBlock, Exit.then])
  refine bodyPost_ret (results_db rfl _ _ (w.heap.size + 1) w.heap.size rfl B2.out) rfl ?_
  exact ⟨rfl, B1.out, L0.out⟩

theorem pdoubt1_any (w : World) (N : Nat) (h : Hd) (x : Xt) (hg : w.heap[N]? = some (.cells (pkC h x) 27 (0, 0))) :
    Calls Try.prog 68 #[.pointer (some ⟨N, 0, none⟩)] w fun e w' => e = .returned (.bool (!decide (mayH h))) ∧ Below w.heap.size w w' := by
  have LD := load_pk hg
  have PM := Lib.hid (fun w => pmay_any w h x)
  generalize decide (mayH h) = b at *
  clear hg
  go_enter Try.func68, Try.ntmps68
  go_wp2_with fail
  refine (PM.out _).mono ?_; rintro e w1 ⟨rfl, o⟩
  have L := Lib.hid o.b
  clear o LD
  go_wp2
  go_ret
  exact ⟨rfl, L.out⟩

theorem pdoubt2_any (w : World) (N : Nat) (h : Hd) (x : Xt) (fs : List Fld) (hg : w.heap[N]? = some (.cells (pkC h x) 27 (0, 0))) (hx : HoldsX w x.p x.n x.c fs) :
    Calls Try.prog 69 #[.pointer (some ⟨N, 0, none⟩)] w fun e w' => e = .returned (.bool (!decide (mayX (says fs)))) ∧ Below w.heap.size w w' := by
  have c13 := (pk_at hg).1
  have PM := Lib.hid (pmay5_any w x.p x.n x.c fs hx)
  generalize decide (mayX (says fs)) = b at *
  clear hg hx
  go_enter Try.func69, Try.ntmps69
  go_wp2_with fail
  refine PM.out.mono ?_; rintro e w1 ⟨rfl, l⟩
  have L := Lib.hid l
  clear l
  go_wp2
  go_ret
  exact ⟨rfl, L.out⟩

theorem pdoubt3_any (w : World) (N : Nat) (h : Hd) (x : Xt) (hg : w.heap[N]? = some (.cells (pkC h x) 27 (0, 0))) :
    Calls Try.prog 70 #[.pointer (some ⟨N, 0, none⟩)] w fun e w' => e = .returned (.bool (x.sg && decide (x.ky = 0))) ∧ Below w.heap.size w w' := by
  obtain ⟨-, c14, c15, -⟩ := pk_at hg
  clear hg
  obtain ⟨p, n, c, sg, ky, tg⟩ := x
  simp only at c14 c15 ⊢
  cases sg
  all_goals
    go_enter Try.func70, Try.ntmps70
    go_wp2
    all_goals
      go_ret
      refine ⟨ret_bool ?_, Below.refl _ _⟩
      first
        | rfl
        | (rw [Bool.eq_iff_iff]; simp; done)
        | (rw [Bool.eq_iff_iff]; simp; omega)

theorem pdoubt4_any (w : World) (N : Nat) (h : Hd) (x : Xt) (hg : w.heap[N]? = some (.cells (pkC h x) 27 (0, 0))) :
    Calls Try.prog 71 #[.pointer (some ⟨N, 0, none⟩)] w fun e w' => e = .returned (.bool (!x.sg && (!decide (x.ky = 0) || !decide (x.tg = 0)))) ∧ Below w.heap.size w w' := by
  obtain ⟨-, c14, c15, c16⟩ := pk_at hg
  clear hg
  obtain ⟨p, n, c, sg, ky, tg⟩ := x
  simp only at c14 c15 c16 ⊢
  cases sg
  all_goals
    go_enter Try.func71, Try.ntmps71
    go_wp2
    all_goals
      go_ret
      refine ⟨ret_bool ?_, Below.refl _ _⟩
      first
        | rfl
        | (rw [Bool.eq_iff_iff]; simp; done)
        | (rw [Bool.eq_iff_iff]; simp; omega)

set_option maxHeartbeats 4000000 in
theorem pmay7_any (w : World) (h : Hd) (x : Xt) (fs : List Fld) (k : Pak) (I : Pk w h x fs k) :
    Calls Try.prog 17 #[pkV h x] w fun e w' => e = .returned (.bool (decide (mayP k))) ∧ Below w.heap.size w w' := by
  have bx := box_pk h x
  have LD := load_pk (heap_alloc_new w (.cells (pkC h x) 27))
  have L0 : Hid (Below w.heap.size w (w.alloc (.cells (pkC h x) 27))) := (Below.refl _ _).alloc (Nat.le_refl _) _
  obtain ⟨b1, h1⟩ : ∃ b, (!decide (mayH h)) = b := ⟨_, rfl⟩
  obtain ⟨b2, h2⟩ : ∃ b, (!decide (mayX (says fs))) = b := ⟨_, rfl⟩
  obtain ⟨b3, h3⟩ : ∃ b, (x.sg && decide (x.ky = 0)) = b := ⟨_, rfl⟩
  obtain ⟨b4, h4⟩ : ∃ b, (!x.sg && (!decide (x.ky = 0) || !decide (x.tg = 0))) = b := ⟨_, rfl⟩
  have EV : decide (mayP k) = (!b1 && !b2 && !b3 && !b4) := by
    rw [I.e, ← h1, ← h2, ← h3, ← h4, Bool.eq_iff_iff]
    unfold mayP mayS
    cases x.sg <;> simp [and_assoc]
  have C1 := Lib.hid (fun W N (hg : W.heap[N]? = some (.cells (pkC h x) 27 (0, 0))) => show Calls Try.prog _ _ W fun e w' => e = .returned (.bool b1) ∧ Below W.heap.size W w' from h1 ▸ pdoubt1_any W N h x hg)
  have C2 := Lib.hid (fun W N (hg : W.heap[N]? = some (.cells (pkC h x) 27 (0, 0))) (l : Below w.heap.size w W) => show Calls Try.prog _ _ W fun e w' => e = .returned (.bool b2) ∧ Below W.heap.size W w' from h2 ▸ pdoubt2_any W N h x fs hg (I.hx.below l))
  have C3 := Lib.hid (fun W N (hg : W.heap[N]? = some (.cells (pkC h x) 27 (0, 0))) => show Calls Try.prog _ _ W fun e w' => e = .returned (.bool b3) ∧ Below W.heap.size W w' from h3 ▸ pdoubt3_any W N h x hg)
  have C4 := Lib.hid (fun W N (hg : W.heap[N]? = some (.cells (pkC h x) 27 (0, 0))) => show Calls Try.prog _ _ W fun e w' => e = .returned (.bool b4) ∧ Below W.heap.size W w' from h4 ▸ pdoubt4_any W N h x hg)
  rw [EV]
  clear h1 h2 h3 h4 I EV
  go_enter Try.func17, Try.ntmps17
  go_wp2_with fail
  refine (pdoubts7_any _ h x).mono ?_; rintro e w1 ⟨rfl, hg, l1⟩
  have L1 : Hid (Below w.heap.size w w1) := L0.out.trans (l1.mono L0.out.size)
  generalize (w.alloc (.cells (pkC h x) 27)).heap.size = N at *
  have HG := Lib.hid hg
  have i0 := db_0 N
  have i1 := db_1 N
  have i2 := db_2 N
  have i3 := db_3 N
  clear hg l1 LD L0
  go_wp2_with fail
  go_loopw [7] (fun i wr => ∃ k : Nat, i = .int .i64 k ∧ Hid (k ≤ 4) ∧ Hid ((0 < k → b1 = false) ∧ (1 < k → b2 = false) ∧ (2 < k → b3 = false) ∧ (3 < k → b4 = false)) ∧ Hid (wr.heap[N]? = some (.cells (pkC h x) 27 (0, 0))) ∧ Hid (Below w.heap.size w wr)) (fun i _ => 10 - (intOf i).toNat)
  case atStart => exact ⟨0, rfl, Nat.zero_le _, ⟨by omega, by omega, by omega, by omega⟩, HG.out, L1.out⟩
  case round =>
    obtain ⟨k, rfl, hk, hb, hgr, low⟩ := hrel
    have cases5 : k = 0 ∨ k = 1 ∨ k = 2 ∨ k = 3 ∨ k = 4 := by have := hk.out; omega
    rcases cases5 with rfl | rfl | rfl | rfl | rfl
    · have B := Lib.hid (C1.out wr N hgr.out)
      clear hk hb
      go_wp2_with fail
      refine B.out.mono ?_; rintro e w2 ⟨rfl, l2⟩
      have G2 := Lib.hid (pk_keep hgr.out l2)
      have L2 : Hid (Below w.heap.size w w2) := low.out.trans (l2.mono low.out.size)
      clear l2
      cases b1
      · go_wp2
        go_roundw
        case rel => exact ⟨1, rfl, by unfold Hid; omega, ⟨fun _ => trivial, by omega, by omega, by omega⟩, G2.out, L2.out⟩
        case measure => simp [intOf]
      · go_wp2
        go_ret
        exact ⟨rfl, L2.out⟩
    · have e1 := hb.out.1 (by omega)
      have B := Lib.hid (C2.out wr N hgr.out low.out)
      clear hk hb
      go_wp2_with fail
      refine B.out.mono ?_; rintro e w2 ⟨rfl, l2⟩
      have G2 := Lib.hid (pk_keep hgr.out l2)
      have L2 : Hid (Below w.heap.size w w2) := low.out.trans (l2.mono low.out.size)
      have E1 := Lib.hid e1
      clear l2 e1
      cases b2
      · go_wp2
        go_roundw
        case rel => exact ⟨2, rfl, by unfold Hid; omega, ⟨fun _ => E1.out, fun _ => trivial, by omega, by omega⟩, G2.out, L2.out⟩
        case measure => simp [intOf]
      · go_wp2
        go_ret
        exact ⟨ret_bool (by rw [E1.out]; rfl), L2.out⟩
    · have e1 := hb.out.1 (by omega)
      have e2 := hb.out.2.1 (by omega)
      have B := Lib.hid (C3.out wr N hgr.out)
      clear hk hb
      go_wp2_with fail
      refine B.out.mono ?_; rintro e w2 ⟨rfl, l2⟩
      have G2 := Lib.hid (pk_keep hgr.out l2)
      have L2 : Hid (Below w.heap.size w w2) := low.out.trans (l2.mono low.out.size)
      have E1 := Lib.hid e1
      have E2 := Lib.hid e2
      clear l2 e1 e2
      cases b3
      · go_wp2
        go_roundw
        case rel => exact ⟨3, rfl, by unfold Hid; omega, ⟨fun _ => E1.out, fun _ => E2.out, fun _ => trivial, by omega⟩, G2.out, L2.out⟩
        case measure => simp [intOf]
      · go_wp2
        go_ret
        exact ⟨ret_bool (by rw [E1.out, E2.out]; rfl), L2.out⟩
    · have e1 := hb.out.1 (by omega)
      have e2 := hb.out.2.1 (by omega)
      have e3 := hb.out.2.2.1 (by omega)
      have B := Lib.hid (C4.out wr N hgr.out)
      clear hk hb
      go_wp2_with fail
      refine B.out.mono ?_; rintro e w2 ⟨rfl, l2⟩
      have G2 := Lib.hid (pk_keep hgr.out l2)
      have L2 : Hid (Below w.heap.size w w2) := low.out.trans (l2.mono low.out.size)
      have E1 := Lib.hid e1
      have E2 := Lib.hid e2
      have E3 := Lib.hid e3
      clear l2 e1 e2 e3
      cases b4
      · go_wp2
        go_roundw
        case rel => exact ⟨4, rfl, by unfold Hid; omega, ⟨fun _ => E1.out, fun _ => E2.out, fun _ => E3.out, fun _ => trivial⟩, G2.out, L2.out⟩
        case measure => simp [intOf]
      · go_wp2
        go_ret
        exact ⟨ret_bool (by rw [E1.out, E2.out, E3.out]; rfl), L2.out⟩
    · have E1 := Lib.hid (hb.out.1 (by omega))
      have E2 := Lib.hid (hb.out.2.1 (by omega))
      have E3 := Lib.hid (hb.out.2.2.1 (by omega))
      have E4 := Lib.hid (hb.out.2.2.2 (by omega))
      clear hk hb
      go_wp2
      go_ret
      exact ⟨ret_bool (by rw [E1.out, E2.out, E3.out, E4.out]; rfl), low.out⟩
end Go.Proofs.Ytfnidehbibfclaa
