/- Layer 16 (leap), the program's: tables in their blocks; New, Copy. -/
import Derived.Test.YtpfbdpoileepoaaLpX
set_option maxRecDepth 100000
namespace Go.Proofs.Ytpfbdpoileepoaa
open Go.ChangeShapes Go.WideShapes Go.ChangeAt Go.RowKit SmM

/-- A table that New made: its own block, and a row that never changes (copies share it). -/
structure PLp (w : World) (N : Nat) (p : Option Addr) (c : Nat) (l : List Lp) (e b : Int) : Prop where
  bk : w.heap[N]? = some (.cells #[.bool true, .slice p l.length c, .int .i64 e, .int .i64 b] 67 (0, 0))
  ow : OwnL w 0 p l.length c l
  ok : OkT l e b
theorem PLp.keep {w w' : World} {N : Nat} {p : Option Addr} {c : Nat} {l : List Lp} {e b : Int} (h : PLp w N p c l e b) (k : ∀ M, SF N p M → w'.heap[M]? = w.heap[M]?) : PLp w' N p c l e b :=
  ⟨(k N (.inl rfl)).trans h.bk, own_same h.ow fun g hg => by
    cases p with
    | none => cases hg
    | some a =>
      injection hg with hg
      subst hg
      exact k _ (.inr ⟨a, rfl, rfl⟩), h.ok⟩
theorem PLp.lt {w : World} {N : Nat} {p : Option Addr} {c : Nat} {l : List Lp} {e b : Int} (h : PLp w N p c l e b) : ∀ M, SF N p M → M < w.heap.size := by
  rintro M (rfl | ⟨a, rfl, rfl⟩)
  · exact (Array.getElem?_eq_some_iff.1 h.bk).1
  · exact (World.ownsRow.lt h.ow a.block rfl).2
theorem PLp.below {w w' : World} {N : Nat} {p : Option Addr} {c : Nat} {l : List Lp} {e b : Int} (h : PLp w N p c l e b) (k : Below w.heap.size w w') : PLp w' N p c l e b := h.keep fun M hM => k.block M (h.lt M hM)
theorem PLp.has {w : World} {N : Nat} {p : Option Addr} {c : Nat} {l : List Lp} {e b : Int} (h : PLp w N p c l e b) : HasT w (some ⟨N, 0, none⟩) true p l.length c l e b :=
  ⟨fun _ k => pheld16 (h.below k).bk, h.ow.holds, h.ok.1, h.ok.2.1, h.ok.2.2.2, fun e => by cases e⟩
/-- A table that New did not make, or none. -/
def NtP (w : World) (P : Option Addr) : Prop := P = none ∨ ∃ N, P = some ⟨N, 0, none⟩ ∧ w.heap[N]? = some (.cells #[.bool false, .slice none 0 0, .int .i64 0, .int .i64 0] 67 (0, 0))
theorem NtP.below {w w' : World} {P : Option Addr} (h : NtP w P) (k : Below w.heap.size w w') : NtP w' P := by
  rcases h with rfl | ⟨N, rfl, h⟩
  · exact .inl rfl
  · exact .inr ⟨N, rfl, (k.block _ (Array.getElem?_eq_some_iff.1 h).1).trans h⟩
theorem NtP.has {w : World} {P : Option Addr} (h : NtP w P) : HasT w P false none 0 0 [] 0 0 :=
  ⟨fun w' k => by
    rcases h.below k with rfl | ⟨N, rfl, hN⟩
    · exact pheld16_none w'
    · exact pheld16 hN, ⟨rfl, Nat.le_refl _, Nat.zero_le _, fun i hi => absurd hi (by omega)⟩, ⟨fun y hy => (by cases hy), trivial⟩, Nat.zero_le _, by decide, fun _ => ⟨rfl, rfl⟩⟩

/-- What New makes of leaps. -/
def NewTP (w : World) (l : List Lp) (e b : Int) (r : Ending) (w' : World) : Prop := Below w.heap.size w w' ∧
  ((OkT l e b ∧ ∃ N q d, r = .returned (.tuple #[.pointer (some ⟨N, 0, none⟩), .int .i64 0]) ∧ PLp w' N q d l e b ∧ ∀ M, SF N q M → w.heap.size ≤ M) ∨ (∃ x, NewT l e b x ∧ x ≠ 0 ∧ r = .returned (.tuple #[.pointer none, .int .i64 x])))
set_option maxHeartbeats 4000000 in
theorem pnew16 (w : World) (p : Option Addr) (n c : Nat) (l : List Lp) (h : HoldsL w p n c l) (hi : ∀ y ∈ l, I64 y.t ∧ I64 y.k) (e b : Int) :
    Calls Try.prog 10 #[.slice p n c, .int .i64 e, .int .i64 b] w (NewTP w l e b) := by
  have SN := Lib.hid (pnew15 w p n c l h hi)
  have HL := Lib.hid h
  have LN := Lib.hid h.len
  have IS := Lib.hid (fun w' => pinstant16 w' e)
  clear h hi
  go_enter Try.func10, Try.ntmps10
  go_wp2_with fail
  refine SN.out.mono ?_; rintro r1 w1 ⟨b1, ⟨ok, few, N1, q1, d1, rfl, -, -⟩ | ⟨x, ne, x0, rfl⟩⟩
  · have L1 := Lib.hid b1
    have OK := Lib.hid ok
    have FW := Lib.hid few
    have ARG : Hid (¬ OkT l e b → ∀ w', Below w.heap.size w w' → NewTP w l e b (.returned (.tuple #[.pointer none, .int .i64 1])) w') := fun no w' k =>
      ⟨k, .inr ⟨1, .inr ⟨by rw [LN.out]; exact few, .inl ⟨rfl, no⟩⟩, by decide, rfl⟩⟩
    obtain ⟨s, hs⟩ : ∃ s, decide (0 ≤ e ∧ e ≤ topI) = s := ⟨_, rfl⟩
    rw [hs] at IS
    have HS := Lib.hid hs
    clear b1 ok few SN hs
    go_wp2_with fail
    refine (IS.out _).mono ?_; rintro e2 w2 ⟨rfl, hw⟩
    obtain rfl := hw.symm
    clear IS
    cases s
    · have F := Lib.hid (ARG.out (fun o => absurd o.2.2.1 (of_decide_eq_false HS.out)) _ L1.out)
      clear ARG
      go_wp2
      go_ret2
      exact F.out
    · by_cases g1 : b < -1000
      · have g2 : decide (b < -1000) = true := decide_eq_true g1
        have F := Lib.hid (ARG.out (fun o => by have := o.2.2.2.1; omega) _ L1.out)
        clear ARG g1
        go_wp2
        go_ret2
        exact F.out
      · have g2 : decide (b < -1000) = false := decide_eq_false g1
        by_cases g3 : 1000 < b
        · have g4 : decide (1000 < b) = true := decide_eq_true g3
          have F := Lib.hid (ARG.out (fun o => by have := o.2.2.2.2; omega) _ L1.out)
          clear ARG g1 g3
          go_wp2
          go_ret2
          exact F.out
        · have g4 : decide (1000 < b) = false := decide_eq_false g3
          have OT : Hid (OkT l e b) := ⟨OK.out, by rw [LN.out]; exact FW.out, of_decide_eq_true HS.out, by omega, by omega⟩
          have CL := Lib.hid (pclone15 w1 p n c l (HL.out.below L1.out) (by have := FW.out; omega))
          clear ARG g1 g3
          go_wp2_with fail
          refine CL.out.mono ?_; rintro e3 w3 ⟨q, d, rfl, o3, b3⟩
          have L3 := Lib.hid (L1.out.trans (b3.mono L1.out.size))
          have F : Hid (NewTP w l e b (.returned (.tuple #[.pointer (some ⟨w3.heap.size, 0, none⟩), .int .i64 0])) (w3.alloc (.cells #[.bool true, .slice q n d, .int .i64 e, .int .i64 b] 67))) := by
            have AL : Below w3.heap.size w3 (w3.alloc (.cells #[.bool true, .slice q n d, .int .i64 e, .int .i64 b] 67)) := (Below.refl _ _).alloc (Nat.le_refl _) _
            refine ⟨L3.out.alloc L3.out.size _, .inl ⟨OT.out, w3.heap.size, q, d, rfl, ⟨?_, ?_, OT.out⟩, ?_⟩⟩
            · rw [LN.out]
              exact heap_alloc_new _ _
            · rw [LN.out]
              exact own_keep (own_base o3 (Nat.zero_le _)) AL
            · rintro M (rfl | ⟨a, rfl, rfl⟩)
              · exact L3.out.size
              · exact Nat.le_trans L1.out.size (World.ownsRow.lt o3 a.block rfl).1
          clear o3 b3 CL HL OK
          go_wp2
          go_ret2
          exact F.out
  · have F : Hid (NewTP w l e b (.returned (.tuple #[.pointer none, .int .i64 x])) w1) := by
      refine ⟨b1, .inr ⟨x, ?_, x0, rfl⟩⟩
      rcases ne with ⟨a, k⟩ | ⟨a, ⟨z, -⟩ | ⟨z, k⟩⟩
      · exact .inl ⟨a, k⟩
      · exact absurd z x0
      · exact .inr ⟨a, .inl ⟨z, fun o => k o.1⟩⟩
    have x1 : (x != 0) = true := by rw [bne_iff_ne]; exact x0
    clear b1 ne x0 IS SN
    go_wp2
    go_ret2
    exact F.out
theorem pcopy16 {w : World} {N : Nat} {p : Option Addr} {c : Nat} {l : List Lp} {e b : Int} (h : PLp w N p c l e b) :
    Calls Try.prog 15 #[.pointer (some ⟨N, 0, none⟩)] w fun r w' => ∃ N', r = .returned (.pointer (some ⟨N', 0, none⟩)) ∧ PLp w' N' p c l e b ∧ w.heap.size ≤ N' ∧ Below w.heap.size w w' := by
  have HE := Lib.hid (h.has.held w (Below.refl _ _))
  have HP := Lib.hid h
  obtain ⟨n, hn⟩ : ∃ n, l.length = n := ⟨_, rfl⟩
  rw [hn] at HE
  have HN := Lib.hid hn
  clear h hn
  go_enter Try.func15, Try.ntmps15
  go_wp2_with fail
  refine HE.out.mono ?_; rintro e1 w3 ⟨rfl, b3⟩
  have F : Hid (∃ N', Ending.returned (.pointer (some ⟨w3.heap.size, 0, none⟩)) = .returned (.pointer (some ⟨N', 0, none⟩)) ∧ PLp (w3.alloc (.cells #[.bool true, .slice p n c, .int .i64 e, .int .i64 b] 67)) N' p c l e b ∧ w.heap.size ≤ N' ∧ Below w.heap.size w (w3.alloc (.cells #[.bool true, .slice p n c, .int .i64 e, .int .i64 b] 67))) := by
    have AL := b3.alloc b3.size (.cells #[.bool true, .slice p n c, .int .i64 e, .int .i64 b] 67)
    refine ⟨w3.heap.size, rfl, ⟨?_, (HP.out.below AL).ow, HP.out.ok⟩, b3.size, AL⟩
    rw [HN.out]
    exact heap_alloc_new _ _
  clear b3 HE HP
  go_wp2
  go_ret
  exact F.out
theorem pcopy16_no {w : World} {P : Option Addr} {p : Option Addr} {n c : Nat} {l : List Lp} {e b : Int} (h : HasT w P false p n c l e b) :
    Calls Try.prog 15 #[.pointer P] w fun r w' => r = .returned (.pointer none) ∧ Below w.heap.size w w' := by
  have HE := Lib.hid (h.held w (Below.refl _ _))
  clear h
  go_enter Try.func15, Try.ntmps15
  go_wp2_with fail
  refine HE.out.mono ?_; rintro e1 w3 ⟨rfl, b3⟩
  have L4 := Lib.hid (b3.alloc b3.size (.cells #[.bool false, .slice p n c, .int .i64 e, .int .i64 b] 67))
  clear HE b3
  go_wp2
  go_ret
  exact ⟨rfl, L4.out⟩
end Go.Proofs.Ytpfbdpoileepoaa
