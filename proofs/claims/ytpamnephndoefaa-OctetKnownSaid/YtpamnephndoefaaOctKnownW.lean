/- The walk of OctetKnown: the document's examples, and ends. -/
import Derived.Test.YtpamnephndoefaaOctW
namespace Go.Proofs.Ytpamnephndoefaa
open Go.ChangeShapes Go.WideShapes Go.ChangeAt Go.RowKit OctM

set_option maxRecDepth 100000 in
set_option maxHeartbeats 6400000 in
theorem octknown_walk (H : OctCode) (w : World) :
    Calls Try.prog 9 #[] w fun e w' => e = .returned (.bool true) ∧ Below w.heap.size w w' := by
  have HH := Lib.hid H
  clear H
  go_enter Try.func9, Try.ntmps9
  go_wp2_with fail
  have t1 := lit_one w #[.int .i64 1, .int .i64 0] 3 _ 2 rfl rfl (by decide)
  refine (width_at HH.out _ _ 2 2 [1, 0] 0 1 t1 (by omega) (by decide +kernel) (by decide +kernel)).mono ?_
  rintro e w1 ⟨rfl, l1⟩
  have C1 : Hid (Below w.heap.size w w1) := seqB (laidB _ _) l1
  clear t1 l1
  go_wp2_with fail
  have t1 := lit_one w1 #[.int .i64 9] 3 _ 1 rfl rfl (by decide)
  refine (width_at HH.out _ _ 1 1 [9] 0 1 t1 (by omega) (by decide +kernel) (by decide +kernel)).mono ?_
  rintro e w2 ⟨rfl, l1⟩
  have C2 : Hid (Below w1.heap.size w1 w2) := seqB (laidB _ _) l1
  clear t1 l1
  go_wp2_with fail
  refine (width_at HH.out _ none 0 0 [] 0 0 (Holds.nil _ _ _ (by decide) (fun _ => rfl)) (by omega) (by decide +kernel) (by decide +kernel)).mono ?_
  rintro e w3 ⟨rfl, l1⟩
  have C3 : Hid (Below w2.heap.size w2 w3) := l1
  clear l1
  go_wp2_with fail
  have t1 := lit_one w3 #[.int .i64 1] 3 _ 1 rfl rfl (by decide)
  refine (lay_at HH.out _ _ none 1 1 0 0 [1] [] [] 1 t1 (Holds.nil _ _ _ (by decide) (fun _ => rfl)) (by decide) (by omega) (by omega) (by decide +kernel) (by decide +kernel)).mono ?_
  rintro e w4 ⟨p4, c4, rfl, -, l1⟩
  have C4 : Hid (Below w3.heap.size w3 w4) := seqB (laidB _ _) l1
  clear t1 l1
  go_wp2_with fail
  have t1 := lit_one w4 #[.int .u64 1] 40 _ 1 rfl rfl (by decide)
  refine (lay_at HH.out _ none _ 0 0 1 1 [] [1] [] 1 (Holds.nil _ _ _ (by decide) (fun _ => rfl)) t1 (by decide) (by omega) (by omega) (by decide +kernel) (by decide +kernel)).mono ?_
  rintro e w5 ⟨p5, c5, rfl, -, l1⟩
  have C5 : Hid (Below w4.heap.size w4 w5) := seqB (laidB _ _) l1
  clear t1 l1
  go_wp2_with fail
  have t1 := lit_one w5 #[.int .i64 (-1)] 3 _ 1 rfl rfl (by decide)
  refine (take_at HH.out _ _ none 1 1 0 0 [-1] [] [] [] 1 t1 (Holds.nil _ _ _ (by decide) (fun _ => rfl)) (by decide) (by omega) (by omega) (by decide +kernel) (by decide +kernel) (by decide +kernel)).mono ?_
  rintro e w6 ⟨p6, c6, q6, d6, rfl, -, -, l1⟩
  have C6 : Hid (Below w5.heap.size w5 w6) := seqB (laidB _ _) l1
  clear t1 l1
  go_wp2_with fail
  have t1 := lit_one w6 #[.int .u8 1] 5 _ 1 rfl rfl (by decide)
  refine (take_at HH.out _ none _ 0 0 1 1 [] [1] [] [1] 0 (Holds.nil _ _ _ (by decide) (fun _ => rfl)) t1 (by decide) (by omega) (by omega) (by decide +kernel) (by decide +kernel) (by decide +kernel)).mono ?_
  rintro e w7 ⟨p7, c7, q7, d7, rfl, -, -, l1⟩
  have C7 : Hid (Below w6.heap.size w6 w7) := seqB (laidB _ _) l1
  clear t1 l1
  go_wp2_with fail
  have t1 := lit_one w7 #[.int .u8 1, .int .u8 2] 5 _ 2 rfl rfl (by decide)
  refine (at_at HH.out _ _ 2 2 [1, 2] 1 2 0 false t1 (by decide) (i64k _ (by omega) (by omega)) (i64k _ (by omega) (by omega)) (by omega) (by decide +kernel) (by decide +kernel)).mono ?_
  rintro e w8 ⟨rfl, l1⟩
  have C8 : Hid (Below w7.heap.size w7 w8) := seqB (laidB _ _) l1
  clear t1 l1
  go_wp2_with fail
  have t1 := lit_one w8 #[.int .u8 1, .int .u8 2] 5 _ 2 rfl rfl (by decide)
  refine (at_at HH.out _ _ 2 2 [1, 2] (-1) 1 0 false t1 (by decide) (i64k _ (by omega) (by omega)) (i64k _ (by omega) (by omega)) (by omega) (by decide +kernel) (by decide +kernel)).mono ?_
  rintro e w9 ⟨rfl, l1⟩
  have C9 : Hid (Below w8.heap.size w8 w9) := seqB (laidB _ _) l1
  clear t1 l1
  go_wp2_with fail
  have t1 := lit_one w9 #[.int .u8 1, .int .u8 2] 5 _ 2 rfl rfl (by decide)
  refine (at_at HH.out _ _ 2 2 [1, 2] 4611686018427387904 1 0 false t1 (by decide) (i64k _ (by omega) (by omega)) (i64k _ (by omega) (by omega)) (by omega) (by decide +kernel) (by decide +kernel)).mono ?_
  rintro e w10 ⟨rfl, l1⟩
  have C10 : Hid (Below w9.heap.size w9 w10) := seqB (laidB _ _) l1
  clear t1 l1
  go_wp2_with fail
  refine (put_at HH.out _ none 0 0 [] (-1) 1 0 [] 1 (Holds.nil _ _ _ (by decide) (fun _ => rfl)) (by decide) (i64k _ (by omega) (by omega)) (i64k _ (by omega) (by omega)) (by omega) (by omega) (by decide +kernel) (by decide +kernel)).mono ?_
  rintro e w11 ⟨p11, c11, rfl, -, l1⟩
  have C11 : Hid (Below w10.heap.size w10 w11) := l1
  clear l1
  go_wp2_with fail
  refine (put_at HH.out _ none 0 0 [] 0 9 0 [] 1 (Holds.nil _ _ _ (by decide) (fun _ => rfl)) (by decide) (i64k _ (by omega) (by omega)) (i64k _ (by omega) (by omega)) (by omega) (by omega) (by decide +kernel) (by decide +kernel)).mono ?_
  rintro e w12 ⟨p12, c12, rfl, -, l1⟩
  have C12 : Hid (Below w11.heap.size w11 w12) := l1
  clear l1
  go_wp2_with fail
  have t1 := lit_one w12 #[.int .u8 0] 5 _ 1 rfl rfl (by decide)
  refine (put_at HH.out _ _ 1 1 [0] 0 1 256 [] 20 t1 (by decide) (i64k _ (by omega) (by omega)) (i64k _ (by omega) (by omega)) (by omega) (by omega) (by decide +kernel) (by decide +kernel)).mono ?_
  rintro e w13 ⟨p13, c13, rfl, -, l1⟩
  have C13 : Hid (Below w12.heap.size w12 w13) := seqB (laidB _ _) l1
  clear t1 l1
  go_wp2_with fail
  have t1 := lit_one w13 #[.int .u8 0] 5 _ 1 rfl rfl (by decide)
  refine (put_at HH.out _ _ 1 1 [0] 0 2 0 [] 4 t1 (by decide) (i64k _ (by omega) (by omega)) (i64k _ (by omega) (by omega)) (by omega) (by omega) (by decide +kernel) (by decide +kernel)).mono ?_
  rintro e w14 ⟨p14, c14, rfl, -, l1⟩
  have C14 : Hid (Below w13.heap.size w13 w14) := seqB (laidB _ _) l1
  clear t1 l1
  go_wp2_with fail
  refine (sg_at HH.out _ 18446744073709551615 8 (-1) 0 (by omega) (i64k _ (by omega) (by omega)) (by decide +kernel) (by decide +kernel)).mono ?_
  rintro e w15 ⟨rfl, l1⟩
  have C15 : Hid (Below w14.heap.size w14 w15) := l1
  clear l1
  go_wp2_with fail
  refine (un_at HH.out _ (-9223372036854775808) 8 9223372036854775808 0 (i64k _ (by omega) (by omega)) (i64k _ (by omega) (by omega)) (by decide +kernel) (by decide +kernel)).mono ?_
  rintro e w16 ⟨rfl, l1⟩
  have C16 : Hid (Below w15.heap.size w15 w16) := l1
  clear l1
  go_wp2_with fail
  refine (sg_at HH.out _ 0 0 0 1 (by omega) (i64k _ (by omega) (by omega)) (by decide +kernel) (by decide +kernel)).mono ?_
  rintro e w17 ⟨rfl, l1⟩
  have C17 : Hid (Below w16.heap.size w16 w17) := l1
  clear l1
  go_wp2_with fail
  refine (un_at HH.out _ 0 9 0 1 (i64k _ (by omega) (by omega)) (i64k _ (by omega) (by omega)) (by decide +kernel) (by decide +kernel)).mono ?_
  rintro e w18 ⟨rfl, l1⟩
  have C18 : Hid (Below w17.heap.size w17 w18) := l1
  clear l1
  go_wp2_with fail
  refine (awake3_any HH.out _).mono ?_
  rintro e wz ⟨rfl, l1⟩
  have FIN : Hid (Below w.heap.size w wz) := seqB (seqB (seqB (seqB (seqB (seqB (seqB (seqB (seqB (seqB (seqB (seqB (seqB (seqB (seqB (seqB (seqB (seqB C1.out C2.out) C3.out) C4.out) C5.out) C6.out) C7.out) C8.out) C9.out) C10.out) C11.out) C12.out) C13.out) C14.out) C15.out) C16.out) C17.out) C18.out) l1
  clear l1
  go_wp2
  go_ret
  exact ⟨rfl, FIN.out⟩
end Go.Proofs.Ytpamnephndoefaa
