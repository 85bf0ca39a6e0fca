/- The document's examples of layer 3 (octet), as every law of it asks them. -/
import Derived.Test.YtpamnephndoefaaOctC
import Derived.Test.YtpamnephndoefaaOctE
namespace Go.Proofs.Ytpamnephndoefaa
open Go.ChangeShapes Go.WideShapes Go.ChangeAt Go.RowKit OctM

theorem seqB {x y z : World} (a : Below x.heap.size x y) (b : Below y.heap.size y z) : Below x.heap.size x z := a.trans (b.mono a.size)
theorem laidB (w : World) (o : Obj) : Below w.heap.size w (w.alloc o) := (Below.refl _ _).alloc (Nat.le_refl _) _

/-- A literal's block. -/
theorem lit_holds {w : World} {N n : Nat} {cs : Array Value} {T : TypeId} {vs : List Value} (h : w.heap[N]? = some (.cells cs T (0, 0))) (hs : cs.toList = vs) (hn : cs.size = n) (hm : n ≤ maxLen) : Holds w (some ⟨N, 0, none⟩) n n vs := by
  have o := own_of_blk h hn hm (Nat.zero_le N)
  rw [hs] at o
  obtain ⟨p, c, e, hh⟩ := own_holds o
  injection e with e1 e2 e3
  subst e1 e3
  exact hh
theorem lit_one (w : World) (cs : Array Value) (T : TypeId) (vs : List Value) (n : Nat) (hs : cs.toList = vs) (hn : cs.size = n) (hm : n ≤ maxLen) : Holds (w.alloc (.cells cs T)) (some ⟨w.heap.size, 0, none⟩) n n vs :=
  lit_holds (heap_alloc_new w _) hs hn hm
theorem lit_two (w : World) (cs ds : Array Value) (S T : TypeId) (vs us : List Value) (n m : Nat) (hs : cs.toList = vs) (hn : cs.size = n) (hm : n ≤ maxLen) (gs : ds.toList = us) (gn : ds.size = m) (gm : m ≤ maxLen) :
    Holds ((w.alloc (.cells cs S)).alloc (.cells ds T)) (some ⟨w.heap.size, 0, none⟩) n n vs ∧ Holds ((w.alloc (.cells cs S)).alloc (.cells ds T)) (some ⟨w.heap.size + 1, 0, none⟩) m m us := by
  refine ⟨(lit_one w cs S vs n hs hn hm).below (laidB _ _), ?_⟩
  have h := lit_one (w.alloc (.cells cs S)) ds T us m gs gn gm
  have e : (w.alloc (.cells cs S)).heap.size = w.heap.size + 1 := by simp
  rwa [e] at h

theorem lay_at (H : OctCode) (w : World) (p q : Option Addr) (n c m c' : Nat) (zs : List Int) (xs : List Nat) (D : List Nat) (E : Int) (hz : Holds w p n c (valsI .i64 zs)) (hx : Holds w q m c' (valsN .u64 xs)) (h64 : ∀ x ∈ xs, x < 18446744073709551616) (hn : n ≤ 1000) (hm : m ≤ 1000) (hD : layD zs xs = D) (hE : layE zs xs = E) :
    Calls Try.prog 11 #[.slice p n c, .slice q m c'] w (RowR w D E) := by
  rw [← hD, ← hE]; exact H.lay w p q n c m c' zs xs hz hx h64 hn hm
theorem take_at (H : OctCode) (w : World) (p q : Option Addr) (n c m c' : Nat) (zs : List Int) (ds : List Nat) (X D : List Nat) (E : Int) (hz : Holds w p n c (valsI .i64 zs)) (hd : Holds w q m c' (valsN .u8 ds)) (hy : Byt ds) (hn : n ≤ 1000) (hm : m ≤ 10000) (hX : takX zs ds = X) (hD : takD zs ds = D) (hE : takE zs ds = E) :
    Calls Try.prog 13 #[.slice p n c, .slice q m c'] w (TakR w X D E) := by
  rw [← hX, ← hD, ← hE]; exact H.take w p q n c m c' zs ds hz hd hy hn hm
theorem put_at (H : OctCode) (w : World) (p : Option Addr) (n c : Nat) (ds : List Nat) (x z : Int) (v : Nat) (D : List Nat) (E : Int) (hd : Holds w p n c (valsN .u8 ds)) (hy : Byt ds) (hx : I64 x) (hz : I64 z) (hn : n ≤ 10000) (hv : v < 18446744073709551616) (hD : putD ds x z v = D) (hE : putE ds x z v = E) :
    Calls Try.prog 22 #[.slice p n c, .int .i64 x, .int .i64 z, .int .u64 v] w (RowR w D E) := by
  rw [← hD, ← hE]; exact H.put w p n c ds x z v hd hy hx hz hn hv
theorem at_at (H : OctCode) (w : World) (p : Option Addr) (n c : Nat) (ds : List Nat) (x z : Int) (V : Nat) (B : Bool) (hd : Holds w p n c (valsN .u8 ds)) (hy : Byt ds) (hx : I64 x) (hz : I64 z) (hn : n ≤ 10000) (hV : atV ds x z = V) (hB : decide (inP ds.length x z) = B) :
    Calls Try.prog 20 #[.slice p n c, .int .i64 x, .int .i64 z] w (TellPost w (.returned (.tuple #[.int .u64 V, .bool B]))) := by
  rw [← hV, ← hB]; exact H.at' w p n c ds x z hd hy hx hz hn
theorem sg_at (H : OctCode) (w : World) (n : Nat) (z V E : Int) (hn : n < 18446744073709551616) (hz : I64 z) (hV : sgR n z = V) (hE : sgE n z = E) :
    Calls Try.prog 24 #[.int .u64 n, .int .i64 z] w (TellPost w (.returned (.tuple #[.int .i64 V, .int .i64 E]))) := by
  rw [← hV, ← hE]; exact H.signed w n z hn hz
theorem un_at (H : OctCode) (w : World) (n z : Int) (V : Nat) (E : Int) (hn : I64 n) (hz : I64 z) (hV : unR n z = V) (hE : unE n z = E) :
    Calls Try.prog 26 #[.int .i64 n, .int .i64 z] w (TellPost w (.returned (.tuple #[.int .u64 V, .int .i64 E]))) := by
  rw [← hV, ← hE]; exact H.unsigned w n z hn hz

theorem width_at (H : OctCode) (w : World) (p : Option Addr) (n c : Nat) (zs : List Int) (V E : Int) (hz : Holds w p n c (valsI .i64 zs)) (hn : n ≤ 1000) (hV : widV zs = V) (hE : widE zs = E) :
    Calls Try.prog 15 #[.slice p n c] w (TellPost w (.returned (.tuple #[.int .i64 V, .int .i64 E]))) := by
  rw [← hV, ← hE]; exact H.width w p n c zs hz hn

theorem i64k (x : Int) (h : -9223372036854775808 ≤ x) (g : x ≤ 9223372036854775807) : I64 x := ⟨h, g⟩

set_option maxRecDepth 100000 in
set_option maxHeartbeats 3200000 in
theorem awake3_any (H : OctCode) (w : World) :
    Calls Try.prog 19 #[] w fun e w' => e = .returned (.bool true) ∧ Below w.heap.size w w' := by
  have HH := Lib.hid H
  clear H
  go_enter Try.func19, Try.ntmps19
  go_wp2_with fail
  have t1 := lit_two w #[.int .i64 1, .int .i64 2] #[.int .u64 5, .int .u64 4660] 3 40 _ _ 2 2 rfl rfl (by decide) rfl rfl (by decide)
  refine (lay_at HH.out _ _ _ 2 2 2 2 [1, 2] [5, 4660] [5, 18, 52] 0 t1.1 t1.2 (by decide) (by omega) (by omega) (by decide +kernel) (by decide +kernel)).mono ?_
  rintro e w1 ⟨pa, ca, rfl, na, l1⟩
  have C1 : Hid (Below w.heap.size w w1) := seqB (seqB (laidB _ _) (laidB _ _)) l1
  have A1 : Hid (∀ w', Below w1.heap.size w1 w' → Holds w' pa 3 ca (valsN .u8 [5, 18, 52])) := fun w' h => na.holds.below h
  clear t1 na l1
  go_wp2_with fail
  have t1 := lit_two w1 #[.int .i64 1] #[.int .u64 256] 3 40 _ _ 1 1 rfl rfl (by decide) rfl rfl (by decide)
  refine (lay_at HH.out _ _ _ 1 1 1 1 [1] [256] [] 20 t1.1 t1.2 (by decide) (by omega) (by omega) (by decide +kernel) (by decide +kernel)).mono ?_
  rintro e w2 ⟨p2, c2, rfl, na, l1⟩
  have C2 : Hid (Below w1.heap.size w1 w2) := seqB (seqB (laidB _ _) (laidB _ _)) l1
  clear t1 na l1
  go_wp2_with fail
  have t1 := lit_two w2 #[.int .i64 1, .int .i64 2] #[.int .u8 5, .int .u8 18, .int .u8 52, .int .u8 153] 3 5 _ _ 2 4 rfl rfl (by decide) rfl rfl (by decide)
  refine (take_at HH.out _ _ _ 2 2 4 4 [1, 2] [5, 18, 52, 153] [5, 4660] [153] 0 t1.1 t1.2 (by decide) (by omega) (by omega) (by decide +kernel) (by decide +kernel) (by decide +kernel)).mono ?_
  rintro e w3 ⟨px, cx, pr, cr, rfl, nx, nr, l1⟩
  have C3 : Hid (Below w2.heap.size w2 w3) := seqB (seqB (laidB _ _) (laidB _ _)) l1
  have A3 : Hid (∀ w', Below w3.heap.size w3 w' → Holds w' px 2 cx (valsN .u64 [5, 4660])) := fun w' h => nx.holds.below h
  have A4 : Hid (∀ w', Below w3.heap.size w3 w' → Holds w' pr 1 cr (valsN .u8 [153])) := fun w' h => nr.holds.below h
  clear t1 nx nr l1
  go_wp2_with fail
  refine (sg_at HH.out _ 250 1 (-6) 0 (by omega) (i64k _ (by omega) (by omega)) (by decide +kernel) (by decide +kernel)).mono ?_
  rintro e w4 ⟨rfl, l1⟩
  have C4 := Lib.hid l1
  clear l1
  go_wp2_with fail
  refine (un_at HH.out _ (-6) 1 250 0 (i64k _ (by omega) (by omega)) (i64k _ (by omega) (by omega)) (by decide +kernel) (by decide +kernel)).mono ?_
  rintro e w5 ⟨rfl, l1⟩
  have C5 := Lib.hid l1
  clear l1
  go_wp2_with fail
  refine (un_at HH.out _ 128 1 0 20 (i64k _ (by omega) (by omega)) (i64k _ (by omega) (by omega)) (by decide +kernel) (by decide +kernel)).mono ?_
  rintro e w6 ⟨rfl, l1⟩
  have C6 := Lib.hid l1
  clear l1
  go_wp2_with fail
  have t1 := lit_one w6 #[.int .u8 0, .int .u8 0] 5 _ 2 rfl rfl (by decide)
  refine (put_at HH.out _ _ 2 2 [0, 0] 1 1 7 [0, 7] 0 t1 (by decide) (i64k _ (by omega) (by omega)) (i64k _ (by omega) (by omega)) (by omega) (by omega) (by decide +kernel) (by decide +kernel)).mono ?_
  rintro e w7 ⟨pd, cd, rfl, nd, l1⟩
  have C7 : Hid (Below w6.heap.size w6 w7) := seqB (laidB _ _) l1
  have A7 := Lib.hid nd.holds
  clear t1 nd l1
  go_wp2_with fail
  refine (at_at HH.out _ pd 2 cd [0, 7] 0 2 7 true A7.out (by decide) (i64k _ (by omega) (by omega)) (i64k _ (by omega) (by omega)) (by omega) (by decide +kernel) (by decide +kernel)).mono ?_
  rintro e w8 ⟨rfl, l1⟩
  have C8 := Lib.hid l1
  have C38 : Hid (Below w3.heap.size w3 w8) := seqB (seqB (seqB (seqB C4.out C5.out) C6.out) C7.out) l1
  have C18 : Hid (Below w1.heap.size w1 w8) := seqB (seqB C2.out C3.out) C38.out
  have C08 : Hid (Below w.heap.size w w8) := seqB C1.out C18.out
  clear l1
  go_wp2_with fail
  have t1 := lit_one w8 #[.int .u8 5, .int .u8 18, .int .u8 52] 5 _ 3 rfl rfl (by decide)
  refine (bequal_same _ _ _ 3 _ 3 3 [5, 18, 52] (A1.out _ (seqB C18.out (laidB _ _))) t1 (by decide)).mono ?_
  rintro e w' ⟨rfl, rfl⟩
  clear t1
  go_wp2_with fail
  have t1 := lit_one (w8.alloc (.cells #[.int .u8 5, .int .u8 18, .int .u8 52] 5)) #[.int .u64 5, .int .u64 4660] 40 _ 2 rfl rfl (by decide)
  have e1 : (w8.alloc (.cells #[.int .u8 5, .int .u8 18, .int .u8 52] 5)).heap.size = w8.heap.size + 1 := by simp
  rw [e1] at t1
  refine (sequal_any _ _ _ 2 _ 2 2 [5, 4660] [5, 4660] (A3.out _ (seqB (seqB C38.out (laidB _ _)) (laidB _ _))) t1 (by omega) (by omega)).mono ?_
  rintro e w9 ⟨rfl, k, rfl⟩
  rw [show decide ([5, 4660] = [5, 4660]) = true from rfl]
  have C9 : Hid (Below w8.heap.size w8 ((((w8.alloc (.cells #[.int .u8 5, .int .u8 18, .int .u8 52] 5)).alloc (.cells #[.int .u64 5, .int .u64 4660] 40))).drewN k)) := below_drewN (seqB (laidB _ _) (laidB _ _)) k
  generalize hw9 : (((w8.alloc (.cells #[.int .u8 5, .int .u8 18, .int .u8 52] 5)).alloc (.cells #[.int .u64 5, .int .u64 4660] 40))).drewN k = w9 at *
  clear t1 e1 hw9
  go_wp2_with fail
  have t1 := lit_one w9 #[.int .u8 153] 5 _ 1 rfl rfl (by decide)
  refine (bequal_same _ _ _ 1 _ 1 1 [153] (A4.out _ (seqB (seqB C38.out C9.out) (laidB _ _))) t1 (by decide)).mono ?_
  rintro e w' ⟨rfl, rfl⟩
  clear t1
  have FIN : Hid (Below w.heap.size w (w9.alloc (.cells #[.int .u8 153] 5))) := seqB (seqB C08.out C9.out) (laidB _ _)
  go_wp2
  go_ret
  exact ⟨rfl, FIN.out⟩
end Go.Proofs.Ytpamnephndoefaa
