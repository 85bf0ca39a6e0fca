/- Layer 6's laws: the chapter's key, the bytes 0, 1, 2, .. -/
import Derived.Test.YtkojgegfmhoomaaMacG
import Derived.Test.YtkojgegfmhoomaaMacE
namespace Go.Proofs.Ytkojgegfmhoomaa
open Go.ChangeShapes Go.WideShapes Go.ChangeAt Go.RowKit OctM

/-- A key is told. -/
theorem results_key1 {fn : Func} {p : Tmp} (h : fn.results = #[.cell p 25]) (tmps : Array Value) (w : World) (N : Nat) (k : Ky)
    (hp : tmps.getD p undef = .pointer (some ⟨N, 0, none⟩)) (hg : w.heap[N]? = some (.cells #[.int .u32 (k.id : Nat), .int .u64 (k.a : Nat), .int .u64 (k.b : Nat)] 25 (0, 0))) :
    (results fn tmps).run Try.prog w = .ok (keyV k) w := by
  have hp' : tmps[p]?.getD undef = .pointer (some ⟨N, 0, none⟩) := by simpa using hp
  have hl : (loadVar 25 ⟨N, 0, none⟩).run Try.prog w = .ok (keyV k) w :=
    run_loadVar_row w N _ _ _ (0, 0) _ hg Try.underlying25 rfl sizeKey
  simp [results, h, hp', asAddr, hl]

theorem one6_new (w : World) (x : Value) (T : TypeId) : ∀ (j : Nat) (u : Value), [x][j]? = some u → (w.alloc (.cells #[x] T)).cell? ((⟨w.heap.size, 0, none⟩ : Addr).add j) = some u := by
  intro j u hu
  rcases j with _ | j
  · have e : x = u := by simpa using hu
    subst e
    have hadd : (⟨w.heap.size, 0, none⟩ : Addr).add 0 = ⟨w.heap.size, 0, none⟩ := by unfold Addr.add; split <;> simp_all
    rw [hadd, World.cell?_alloc_at _ _ _ _ rfl]
    rfl
  · simp at hu
theorem one6_cell (d : Nat) : ∀ u ∈ [Value.int .u8 (d : Int)], u.oneCell' = true := by
  intro u hu
  obtain rfl := List.mem_singleton.1 hu
  rfl
theorem holds_one (w : World) (d : Nat) : Holds (w.alloc (.cells #[.int .u8 (d : Int)] 5)) (some ⟨w.heap.size, 0, none⟩) 1 1 [.int .u8 (d : Int)] :=
  ⟨rfl, Nat.le_refl _, by decide, (fun e => by cases e), fun j u hu => ⟨_, rfl, one6_new w _ _ j u hu⟩⟩
/-- The chapter's key. -/
def kyC : Ky := ⟨1, 0x0706050403020100, 0x0f0e0d0c0b0a0908⟩
set_option maxRecDepth 100000 in
theorem known6_any (w : World) : Calls Try.prog 18 #[] w fun e w' => e = .returned (keyV kyC) ∧ Below w.heap.size w w' := by
  go_enter Try.func18, Try.ntmps18
  go_wp2_with fail
  refine bodyPost_ret (results_key1 rfl _ _ w.heap.size kyC rfl (heap_alloc_new w _)) rfl ?_
  exact ⟨rfl, (Below.refl w.heap.size w).alloc (Nat.le_refl _) _⟩
set_option maxRecDepth 100000 in
theorem counting6_any (w : World) (n : Nat) (hn : n ≤ 200) : Calls Try.prog 19 #[.int .i64 (n : Nat)] w fun e w' =>
    ∃ v, e = .returned v ∧ w'.ownsRow w.heap.size 5 1 v n (valsN .u8 (List.range n)) ∧ Below w.heap.size w w' := by
  go_enter Try.func19, Try.ntmps19
  obtain ⟨i0, hi, hz0, hz1, hz2⟩ := infoE_of info8e
  have nb : (n : Int) ≤ 200 := by omega
  have HN := Lib.hid hn
  clear hn
  go_wp2_with fail
  go_loopw [3, 4] (fun v i wr => ∃ k : Nat, i = .int .i64 k ∧ Hid (k ≤ n) ∧ Hid (wr.ownsRow w.heap.size 5 1 v k (valsN .u8 (List.range k))) ∧ Hid (Below w.heap.size w wr)) (fun _ i _ => 200000 - (intOf i).toNat)
  case atStart => exact ⟨0, rfl, Nat.zero_le _, World.ownsRow_nil w _ _ 1, Below.refl _ _⟩
  case round =>
    obtain ⟨k, rfl, hk, own, low⟩ := hrel
    have kb : (k : Int) ≤ 200 := by have := hk.out; have := HN.out; omega
    by_cases g : k < n
    · have g' : (k : Int) < (n : Int) := by omega
      have G : Hid (k + 1 ≤ n) := g
      have wk : IntKind.u8.wrap (k : Int) = (k : Int) := by simp [IntKind.wrap, IntKind.signed, IntKind.bits]; omega
      have NX : Hid (∀ (v' : Value) (w' : World), w'.ownsRow w.heap.size 5 1 v' (k + 1) (valsN .u8 (List.range k) ++ [.int .u8 (k : Int)]) → w'.ownsRow w.heap.size 5 1 v' (k + 1) (valsN .u8 (List.range (k + 1)))) := fun v' w' o => by
        rw [List.range_succ, valsN_append]
        exact o
      have BM : Hid (k + 1 ≤ maxLen) := by unfold Hid maxLen; omega
      have BY : Hid ((k + 1) * 1 ≤ 140737488355328) := by unfold Hid; omega
      have A1 : Hid (Below w.heap.size w (wr.alloc (.cells #[.int .u8 (k : Int)] 5))) := low.out.alloc low.out.size _
      have OW : Hid ((wr.alloc (.cells #[.int .u8 (k : Int)] 5)).ownsRow w.heap.size 5 1 u3 k (valsN .u8 (List.range k))) := World.ownsRow.alloc own.out _
      clear g hk low own
      go_wp2_with (at_builtin; refine append_more rfl _ _ 28 rfl w.heap.size 5 i0 (.int .u8 0) 1 Try.underlying28 hi hz0 hz1 hz2 rfl _ k _ rfl OW.out (some ⟨wr.heap.size, 0, none⟩) 1 1 [.int .u8 (k : Int)] rfl (holds_one wr k) (one6_cell k) BM.out BY.out A1.out.size ?_)
      intro v3 w3 o3 g3 _
      have O3 := Lib.hid (NX.out v3 w3 o3)
      have L3 : Hid (Below w.heap.size w w3) := A1.out.grown g3 A1.out.size (fun j hj => (World.ownsRow.lt OW.out j hj).1)
      clear o3 g3
      go_wp2
      go_roundw
      case rel => exact ⟨k + 1, by go_num, G, O3, L3⟩
      case measure => simp [intOf]; omega
    · have g' : (n : Int) ≤ (k : Int) := by omega
      have F : Hid (∃ v, Ending.returned u3 = .returned v ∧ wr.ownsRow w.heap.size 5 1 v n (valsN .u8 (List.range n)) ∧ Below w.heap.size w wr) := by
        have e : k = n := by have := hk.out; omega
        subst e
        exact ⟨u3, rfl, own.out, low.out⟩
      clear g hk low own
      go_wp2
      go_ret
      exact F.out
end Go.Proofs.Ytkojgegfmhoomaa
