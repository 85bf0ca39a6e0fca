/- The document's own table of keys (layer 6): asked. -/
import Derived.Test.YtkojgegfmhoomaaMacF
namespace Go.Proofs.Ytkojgegfmhoomaa
open Go.ChangeShapes Go.WideShapes Go.ChangeAt Go.RowKit OctM

def keyV (k : Ky) : Value := .agg #[.int .u32 (k.id : Nat), .int .u64 (k.a : Nat), .int .u64 (k.b : Nat)]
def findK (ks : List Ky) (id : Nat) : Option Ky := ks.find? fun k => k.id == id
/-- What Find tells. -/
def FindR (w : World) (ks : List Ky) (id : Nat) (e : Ending) (w' : World) : Prop :=
  e = .returned (.tuple #[keyV ((findK ks id).getD ⟨0, 0, 0⟩), .bool (findK ks id).isSome]) ∧ Below w.heap.size w w'

theorem sizeKey : (Try.prog.info? 25).map (·.size) = some 3 := by kernel_rfl
/-- A key and one more are told. -/
theorem results_key {fn : Func} {p u : Tmp} (h : fn.results = #[.cell p 25, .tmp u]) (tmps : Array Value) (w : World) (N : Nat) (k : Ky)
    (hp : tmps.getD p undef = .pointer (some ⟨N, 0, none⟩)) (hg : w.heap[N]? = some (.cells #[.int .u32 (k.id : Nat), .int .u64 (k.a : Nat), .int .u64 (k.b : Nat)] 25 (0, 0))) :
    (results fn tmps).run Try.prog w = .ok (.tuple #[keyV k, tmps.getD u undef]) w := by
  have hp' : tmps[p]?.getD undef = .pointer (some ⟨N, 0, none⟩) := by simpa using hp
  have hl : (loadVar 25 ⟨N, 0, none⟩).run Try.prog w = .ok (keyV k) w :=
    run_loadVar_row w N _ _ _ (0, 0) _ hg Try.underlying25 rfl sizeKey
  simp [results, h, hp', asAddr, hl]
theorem blk_key {w : World} {N : Nat} {x y z : Value} {T : TypeId} (h : w.heap[N]? = some (.cells #[x, y, z] T (0, 0))) (a b c : Value) :
    (((w.setCell ⟨N, 0, none⟩ a).setCell ⟨N, 1, none⟩ b).setCell ⟨N, 2, none⟩ c).heap[N]? = some (.cells #[a, b, c] T (0, 0)) := by
  have h1 : (w.setCell ⟨N, 0, none⟩ a).heap[N]? = some (.cells #[a, y, z] T (0, 0)) := blk_set h
  have h2 : ((w.setCell ⟨N, 0, none⟩ a).setCell ⟨N, 1, none⟩ b).heap[N]? = some (.cells #[a, b, z] T (0, 0)) := blk_set h1
  exact blk_set h2
/-- The first so many are not asked for. -/
def missK (ks : List Ky) (id n : Nat) : Prop := ∀ (j : Nat) (l : Ky), j < n → ks[j]? = some l → l.id ≠ id
theorem findK_none {ks : List Ky} {id : Nat} (h : missK ks id ks.length) : findK ks id = none := by
  unfold findK
  rw [List.find?_eq_none]
  intro k hk e
  obtain ⟨j, hj, ej⟩ := List.getElem_of_mem hk
  exact h j k hj (by rw [List.getElem?_eq_getElem hj, ej]) (by simpa using e)
theorem findK_some : ∀ {ks : List Ky} {id i : Nat} {k : Ky}, missK ks id i → ks[i]? = some k → k.id = id → findK ks id = some k
  | [], _, _, _, _, h, _ => by simp at h
  | f :: fs, id, 0, k, _, h, e => by
    have ef : f = k := by simpa using h
    subst ef
    unfold findK
    rw [List.find?_cons_of_pos (by simpa using e)]
  | f :: fs, id, i + 1, k, hm, h, e => by
    have h0 := hm 0 f (Nat.succ_pos _) rfl
    unfold findK
    rw [List.find?_cons_of_neg (by simpa using h0)]
    exact findK_some (ks := fs) (i := i) (fun j l hj hl => hm (j + 1) l (by omega) (by simpa using hl)) (by simpa using h) e

set_option maxRecDepth 100000 in
set_option maxHeartbeats 16000000 in
theorem rfind6_any (w : World) (T : Nat) (p : Option Addr) (n c id : Nat) (ks : List Ky) (hT : w.heap[T]? = some (.cells #[.slice p n c] 70 (0, 0))) (hx : HoldsK w p n c ks) (hn : n ≤ 100000) :
    Calls Try.prog 16 #[.pointer (some ⟨T, 0, none⟩), .int .u32 (id : Nat)] w (FindR w ks id) := by
  have nb : (n : Int) ≤ 100000 := by omega
  have HX := Lib.hid hx
  have LN := Lib.hid hx.len
  have HN := Lib.hid hn
  have C0 := cell_of_one hT
  clear hx hn
  go_enter Try.func16, Try.ntmps16
  go_wp2_with fail
  have L1 := Lib.hid ((Below.refl w.heap.size w).alloc (Nat.le_refl _) (.cells #[.int .u32 0, .int .u64 0, .int .u64 0] 25))
  have HX1 := Lib.hid (HX.out.below L1.out)
  have C1 := (L1.out.cell (World.block_lt_of_cell? w _ C0)).trans C0
  have H1 := heap_alloc_new w (.cells #[.int .u32 0, .int .u64 0, .int .u64 0] 25)
  generalize w.alloc (.cells #[.int .u32 0, .int .u64 0, .int .u64 0] 25) = w1 at *
  have Z0 : w1.cell? ⟨w.heap.size, 0, none⟩ = some (.int .u32 0) := by simp [World.cell?, H1]
  have Z1 : w1.cell? ⟨w.heap.size, 1, none⟩ = some (.int .u64 0) := by simp [World.cell?, H1]
  have Z2 : w1.cell? ⟨w.heap.size, 2, none⟩ = some (.int .u64 0) := by simp [World.cell?, H1]
  have F0 : w1.frozen? ⟨w.heap.size, 0, none⟩ = false := by simp [World.frozen?, H1]
  have F1 : w1.frozen? ⟨w.heap.size, 1, none⟩ = false := by simp [World.frozen?, H1]
  have F2 : w1.frozen? ⟨w.heap.size, 2, none⟩ = false := by simp [World.frozen?, H1]
  replace H1 := Lib.hid H1
  clear hT C0 HX
  go_loop [6] (fun i => ∃ k : Nat, i = .int .i64 k ∧ Hid (k ≤ n) ∧ Hid (missK ks id k)) (fun i => 200000 - (intOf i).toNat)
  case atStart => exact ⟨0, rfl, Nat.zero_le _, fun i k h => absurd h (Nat.not_lt_zero _)⟩
  case round =>
    obtain ⟨i, rfl, hk, nz⟩ := hrel
    have ib : (i : Int) ≤ 100000 := by have := hk.out; have := HN.out; omega
    by_cases g : i < n
    · have g' : (i : Int) < (n : Int) := by omega
      have G : Hid (i + 1 ≤ n) := g
      obtain ⟨a, k, rfl, hf, c0, c1, c2⟩ := HX1.out.at g
      obtain ⟨x, hx⟩ : ∃ x, x = k.id := ⟨_, rfl⟩
      obtain ⟨ya, hya⟩ : ∃ x, x = k.a := ⟨_, rfl⟩
      obtain ⟨yb, hyb⟩ : ∃ x, x = k.b := ⟨_, rfl⟩
      rw [← hx] at c0
      rw [← hya] at c1
      rw [← hyb] at c2
      by_cases e : x = id
      · subst e
        have FD : Hid (findK ks x = some k) := findK_some nz.out hf hx.symm
        have HB := Lib.hid (blk_key H1.out (.int .u32 (k.id : Nat)) (.int .u64 (k.a : Nat)) (.int .u64 (k.b : Nat)))
        have LB := Lib.hid (((L1.out.setCell (p := ⟨w.heap.size, 0, none⟩) (Nat.le_refl _) (.int .u32 (k.id : Nat))).setCell (p := ⟨w.heap.size, 1, none⟩) (Nat.le_refl _) (.int .u64 (k.a : Nat))).setCell (p := ⟨w.heap.size, 2, none⟩) (Nat.le_refl _) (.int .u64 (k.b : Nat)))
        subst hx hya hyb
        clear g hk nz hf
        go_wp2
        (try simp only [Exit.inBlock, Exit.then])
        refine bodyPost_ret (results_key rfl _ _ w.heap.size k rfl HB.out) rfl ?_
        exact ⟨by rw [FD.out]; rfl, LB.out⟩
      · have z1 : ((x : Int) == (id : Int)) = false := by simp; omega
        have z2 : ¬ (x : Int) = (id : Int) := by omega
        have NX : Hid (missK ks id (i + 1)) := fun j l hj hl => by
          by_cases ej : j = i
          · subst ej
            rw [hf] at hl
            injection hl with hl
            subst hl
            rw [← hx]
            exact e
          · exact nz.out j l (by omega) hl
        clear g hk nz hf c1 c2 hx hya hyb e
        go_wp2
        go_round
        case rel => exact ⟨i + 1, by go_num, G, NX⟩
        case measure => simp [intOf]; omega
    · have g' : (n : Int) ≤ (i : Int) := by omega
      have FD : Hid (findK ks id = none) := findK_none (fun j l hj hl => nz.out j l (by rw [LN.out] at hj; omega) hl)
      have HB := Lib.hid (blk_key H1.out (.int .u32 0) (.int .u64 0) (.int .u64 0))
      have LB := Lib.hid (((L1.out.setCell (p := ⟨w.heap.size, 0, none⟩) (Nat.le_refl _) (.int .u32 0)).setCell (p := ⟨w.heap.size, 1, none⟩) (Nat.le_refl _) (.int .u64 0)).setCell (p := ⟨w.heap.size, 2, none⟩) (Nat.le_refl _) (.int .u64 0))
      clear g hk nz
      go_wp2
      (try simp only [Exit.inBlock, Exit.then])
      refine bodyPost_ret (results_key rfl _ _ w.heap.size ⟨0, 0, 0⟩ rfl HB.out) rfl ?_
      exact ⟨by rw [FD.out]; rfl, LB.out⟩
end Go.Proofs.Ytkojgegfmhoomaa
