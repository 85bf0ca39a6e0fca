/- Layer 8 (sane): a kiss and its code: the program's; the document's own. -/
import Derived.Test.YtggogcbmdillfaaDoorSaneA
import Derived.Test.YtggogcbmdillfaaDoorShelf
import Derived.LoopTactic
set_option maxRecDepth 100000
namespace Go.Proofs.YtggogcbmdillfaaDoor
open Go.ChangeShapes Go.WideShapes Go.ChangeAt Go.RowKit OctM SaneM

/-- a packet's code, "" of one that is no kiss. -/
def kissS (st ri : Nat) : ByteArray := if st = 0 then strN (codeL ri) else ⟨#[]⟩

theorem strN_data (l : List Nat) : (strN l).data.toList = l.map UInt8.ofNat := by
  unfold strN strOfNums
  simp only [List.map_map]
  refine List.map_congr_left fun d _ => ?_
  show UInt8.ofNat ((d : Int).toNat) = _
  rw [Int.toNat_natCast]
theorem strN_mk (l : List Nat) : (⟨(l.map UInt8.ofNat).toArray⟩ : ByteArray) = strN l := by
  rw [← strN_data]
theorem ret_str {a b : ByteArray} (h : a = b) : Ending.returned (.string a) = .returned (.string b) := by rw [h]
theorem strN_nil : strN [] = ⟨#[]⟩ := rfl
theorem strN_zero : strN [0] = ⟨#[0]⟩ := rfl

theorem trim_code (w : World) (r : Nat) (hr : r < 4294967296) :
    Calls Tryd.prog 18 #[.string (strN (fourL r)), .string ⟨#[0]⟩] w fun e w' => e = .returned (.string (strN (codeL r))) ∧ w' = w := by
  refine (Tryd.strings_TrimRight_one (strN (fourL r)) 0 (by decide) w (by rw [strN_size]; show 4 ≤ _; decide)).mono ?_
  rintro e w' ⟨rfl, rfl⟩
  refine ⟨?_, rfl⟩
  rw [strN_data, trim_four hr, strN_mk]

attribute [local go_sem ↓] loadP_eq storeP_eq boxP_eq allocP_eq strB_eq addS_eq

theorem pkiss8_any (w : World) (h : Hd) (x : Xt) (h8 : h.ri < 4294967296) :
    Calls Tryd.prog 8 #[pkV h x] w fun e w' => e = .returned (.tuple #[.string (kissS h.st h.ri), .bool (decide (h.st = 0))]) ∧ Below w.heap.size w w' := by
  have bx := box_pk h x
  have B0 : Hid ((w.alloc (.cells (pkC h x) 27)).heap[w.heap.size]? = some (.cells (pkC h x) 27 (0, 0))) := heap_alloc_new w _
  have L0 : Hid (Below w.heap.size w (w.alloc (.cells (pkC h x) 27))) := (Below.refl _ _).alloc (Nat.le_refl _) _
  have c3 := pk8_cell (v := .int .u8 (h.st : Nat)) B0.out 3 rfl
  have c8 := pk8_cell (v := .int .u32 (h.ri : Nat)) B0.out 8 rfl
  by_cases e : h.st = 0
  · have i : (h.st : Int) = 0 := by omega
    rw [decide_eq_true e, show kissS h.st h.ri = strN (codeL h.ri) from if_pos e]
    have TR := Lib.hid (fun w => trim_code w h.ri h8)
    clear e
    generalize h.st = st at *
    generalize h.ri = r at *
    obtain ⟨b3, e3⟩ : ∃ b, r / 16777216 = b := ⟨_, rfl⟩
    obtain ⟨b2, e2⟩ : ∃ b, r / 65536 % 256 = b := ⟨_, rfl⟩
    obtain ⟨b1, e1⟩ : ∃ b, r / 256 % 256 = b := ⟨_, rfl⟩
    obtain ⟨b0, e0⟩ : ∃ b, r % 256 = b := ⟨_, rfl⟩
    have w3 : IntKind.u8.wrap ((r : Int) / 16777216) = (b3 : Int) := by rw [IntKind.wrap_u8]; omega
    have w2 : IntKind.u8.wrap ((r : Int) / 65536) = (b2 : Int) := by rw [IntKind.wrap_u8]; omega
    have w1 : IntKind.u8.wrap ((r : Int) / 256) = (b1 : Int) := by rw [IntKind.wrap_u8]; omega
    have w0 : IntKind.u8.wrap (r : Int) = (b0 : Int) := by rw [IntKind.wrap_u8]; omega
    have W2 : ((w.alloc (.cells (pkC h x) 27)).alloc (.cells #[.int .u8 (b3 : Nat), .int .u8 (b2 : Nat), .int .u8 (b1 : Nat), .int .u8 (b0 : Nat)] 42)).heap[w.heap.size + 1]? = some (.cells #[.int .u8 (b3 : Nat), .int .u8 (b2 : Nat), .int .u8 (b1 : Nat), .int .u8 (b0 : Nat)] 42 (0, 0)) := heap_alloc2_new w _ _
    have FE : Hid (fourL r = [b3, b2, b1, b0]) := by unfold Hid fourL; rw [e3, e2, e1, e0]
    have ST : (strB (.slice (some ⟨w.heap.size + 1, 0, none⟩) 4 4)).run Tryd.prog ((w.alloc (.cells (pkC h x) 27)).alloc (.cells #[.int .u8 (b3 : Nat), .int .u8 (b2 : Nat), .int .u8 (b1 : Nat), .int .u8 (b0 : Nat)] 42)) = .ok (.string (strN (fourL r))) ((w.alloc (.cells (pkC h x) 27)).alloc (.cells #[.int .u8 (b3 : Nat), .int .u8 (b2 : Nat), .int .u8 (b1 : Nat), .int .u8 (b0 : Nat)] 42)) := by
      rw [FE.out]
      exact str_held (blk_holds W2 rfl (by decide))
    have L2 : Hid (Below w.heap.size w ((w.alloc (.cells (pkC h x) 27)).alloc (.cells #[.int .u8 (b3 : Nat), .int .u8 (b2 : Nat), .int .u8 (b1 : Nat), .int .u8 (b0 : Nat)] 42))) := L0.out.alloc L0.out.size _
    clear e3 e2 e1 e0 FE W2
    generalize strN (fourL r) = F at *
    generalize strN (codeL r) = C at *
    go_enter Tryd.func8, Tryd.ntmps8
    go_wp2_with fail
    refine (TR.out _).mono ?_; rintro e w1 ⟨rfl, rfl⟩
    go_wp2
    go_ret2
    exact ⟨rfl, L2.out⟩
  · have i : ¬ (h.st : Int) = 0 := by omega
    rw [decide_eq_false e, show kissS h.st h.ri = ⟨#[]⟩ from if_neg e]
    clear e
    generalize h.st = st at *
    go_enter Tryd.func8, Tryd.ntmps8
    go_wp2
    go_ret2
    exact ⟨rfl, L0.out⟩

theorem rfront8_any (w : World) (r : Nat) (hr : r < 4294967296) :
    Calls Tryd.prog 19 #[.int .u32 (r : Nat)] w fun e w' => e = .returned (.string (strN (frontL r))) ∧ w' = w := by
  by_cases r0 : r = 0
  · subst r0
    go_enter Tryd.func19, Tryd.ntmps19
    go_wp2
    go_ret
    exact ⟨rfl, rfl⟩
  · have i0 : ¬ (r : Int) = 0 := by omega
    go_enter Tryd.func19, Tryd.ntmps19
    go_wp2_with fail
    go_loop [0, 3] (fun a b => ∃ (m : Nat) (zs : List Nat), a = .int .u32 (m : Nat) ∧ b = .string (strN zs) ∧ Hid (frontL r = zs ++ frontL m) ∧ Hid (0 < m ∧ m < 4294967296)) (fun a _ => 4294967296 - (intOf a).toNat)
    case atStart => exact ⟨r, [], rfl, rfl, rfl, ⟨by omega, hr⟩⟩
    case round =>
      obtain ⟨m, zs, rfl, rfl, hf, hm⟩ := hrel
      by_cases c : m < 16777216
      · have i1 : (m : Int) < 16777216 := by omega
        have w1 : IntKind.u32.wrap ((m : Int) * 256) = ((m * 256 : Nat) : Int) := by rw [IntKind.wrap_u32]; omega
        have lz : zs.length ≤ 3 := by have := congrArg List.length hf.out; rw [List.length_append] at this; have := front_len r; omega
        have AD := fun w => add_str w zs [0] (by simp; omega)
        rw [strN_zero] at AD
        have NX : Hid (frontL r = (zs ++ [0]) ++ frontL (m * 256)) := by unfold Hid; rw [hf.out, front_step c hm.out.1]; simp
        have NM : Hid (0 < m * 256 ∧ m * 256 < 4294967296) := ⟨by have := hm.out.1; omega, by omega⟩
        have NS : Hid (4294967296 - m * 256 < 4294967296 - m) := by unfold Hid; have := hm.out; omega
        generalize m * 256 = m2 at *
        generalize zs ++ [0] = z2 at *
        clear c hf lz
        go_wp2
        go_round
        case rel => exact ⟨m2, z2, rfl, rfl, NX.out, NM.out⟩
        case measure => exact NS.out
      · have i1 : ¬ (m : Int) < 16777216 := by omega
        have E : Hid (strN (frontL r) = strN zs) := by unfold Hid; rw [hf.out, front_end (by omega), List.append_nil]
        clear c hf
        go_wp2
        go_ret
        exact ⟨ret_str E.out.symm, rfl⟩

theorem bare_next {r n : Nat} (hr : r < 4294967296) (h : r = n ∨ r = n * 256 ∨ r = n * 65536 ∨ r = n * 16777216) (h0 : 0 < n) (h1 : n % 256 = 0) : r = n / 256 ∨ r = n / 256 * 256 ∨ r = n / 256 * 65536 ∨ r = n / 256 * 16777216 := by omega

theorem rkiss8_pos (w : World) (h : Hd) (x : Xt) (hs : h.st ≠ 0) :
    Calls Tryd.prog 9 #[pkV h x] w fun e w' => e = .returned (.tuple #[.string ⟨#[]⟩, .bool false]) ∧ Below w.heap.size w w' := by
  have bx := box_pk h x
  have B0 : Hid ((w.alloc (.cells (pkC h x) 27)).heap[w.heap.size]? = some (.cells (pkC h x) 27 (0, 0))) := heap_alloc_new w _
  have L0 : Hid (Below w.heap.size w (w.alloc (.cells (pkC h x) 27))) := (Below.refl _ _).alloc (Nat.le_refl _) _
  have c3 := pk8_cell (v := .int .u8 (h.st : Nat)) B0.out 3 rfl
  have i : 0 < (h.st : Int) := by omega
  clear hs
  generalize h.st = st at *
  go_enter Tryd.func9, Tryd.ntmps9
  go_wp2
  go_ret2
  exact ⟨rfl, L0.out⟩

set_option maxHeartbeats 4000000 in
theorem rkiss8_zero (w : World) (h : Hd) (x : Xt) (h8 : h.ri < 4294967296) (hs : h.st = 0) :
    Calls Tryd.prog 9 #[pkV h x] w fun e w' => e = .returned (.tuple #[.string (strN (codeL h.ri)), .bool true]) ∧ Below w.heap.size w w' := by
  have bx := box_pk h x
  have B0 : Hid ((w.alloc (.cells (pkC h x) 27)).heap[w.heap.size]? = some (.cells (pkC h x) 27 (0, 0))) := heap_alloc_new w _
  have L0 : Hid (Below w.heap.size w (w.alloc (.cells (pkC h x) 27))) := (Below.refl _ _).alloc (Nat.le_refl _) _
  have c3 := pk8_cell (v := .int .u8 (h.st : Nat)) B0.out 3 rfl
  have c8 := pk8_cell (v := .int .u32 (h.ri : Nat)) B0.out 8 rfl
  have CE : Hid (∀ v : World, v.heap[w.heap.size]? = some (.cells (pkC h x) 27 (0, 0)) → v.cell? ⟨w.heap.size, 8, none⟩ = some (.int .u32 (h.ri : Nat))) := fun v hv => pk8_cell hv 8 rfl
  have FR := Lib.hid (fun w => rfront8_any w h.ri h8)
  have R8 := Lib.hid h8
  have z : (h.st : Int) = 0 := by omega
  have wri : IntKind.u64.wrap (h.ri : Int) = (h.ri : Int) := by rw [IntKind.wrap_u64]; omega
  clear hs h8
  generalize h.st = st at *
  generalize h.ri = r at *
  obtain ⟨C, CC⟩ : ∃ C, strN (codeL r) = C := ⟨_, rfl⟩
  rw [CC]
  replace CC := Lib.hid CC
  go_enter Tryd.func9, Tryd.ntmps9
  go_wp2_with fail
  go_loop [5] (fun a => ∃ n : Nat, a = .int .u64 (n : Nat) ∧ Hid (r = n ∨ r = n * 256 ∨ r = n * 65536 ∨ r = n * 16777216)) (fun a => (intOf a).toNat)
  case atStart => exact ⟨r, rfl, .inl rfl⟩
  case round =>
    obtain ⟨n, rfl, hn⟩ := hrel
    by_cases c : 0 < n ∧ n % 256 = 0
    · have i0 : 0 < (n : Int) := by omega
      have i1 : (n : Int) % 256 = 0 := by omega
      have NX := Lib.hid (bare_next R8.out hn.out c.1 c.2)
      have NS : Hid (n / 256 < n) := by unfold Hid; omega
      have q : (n : Int) / 256 = ((n / 256 : Nat) : Int) := by omega
      have wm : IntKind.u64.wrap ((n / 256 : Nat) : Int) = ((n / 256 : Nat) : Int) := by rw [IntKind.wrap_u64]; have := R8.out; have := hn.out; omega
      generalize n / 256 = m at *
      clear c hn
      go_wp2
      go_round
      case rel => exact ⟨m, rfl, NX.out⟩
      case measure => exact NS.out
    · by_cases c0 : n = 0
      · have i0 : ¬ 0 < (n : Int) := by omega
        have HB : bare r n := ⟨hn.out, .inl c0⟩
        clear c0
        have BR : Hid (bare r n) := HB
        clear HB hn c
        go_wp2_with fail
        go_loopw [4, 5] (fun a b wr => ∃ (m : Nat) (cs : List Nat), a = .string (strN cs) ∧ b = .int .u64 (m : Nat) ∧ Hid (bigL n = bigL m ++ cs) ∧ Hid (m ≤ n) ∧ Hid (wr.heap[w.heap.size]? = some (.cells (pkC h x) 27 (0, 0))) ∧ Hid (Below w.heap.size w wr)) (fun _ b _ => (intOf b).toNat)
        case atStart => exact ⟨n, [], rfl, rfl, (List.append_nil _).symm, Nat.le_refl _, B0.out, L0.out⟩
        case round =>
          obtain ⟨m, cs, rfl, rfl, hc, hm, hg, low⟩ := hrel
          have lc : Hid (cs.length ≤ 4) := by have := congrArg List.length hc.out; rw [List.length_append] at this; have := big_len n; unfold Hid; omega
          have n32 : Hid (n < 4294967296) := by have := BR.out.1; have := R8.out; unfold Hid; omega
          by_cases d : m = 0
          · subst d
            have E : Hid (frontL r ++ cs = codeL r) := by
              unfold Hid
              rw [← code_parts R8.out BR.out, hc.out, big_zero, List.nil_append]
            have AD := fun w => add_str w (frontL r) cs (by have := front_len r; have := lc.out; omega)
            rw [E.out, CC.out] at AD
            have c8' := CE.out _ hg.out
            clear c3 c8
            generalize strN (frontL r) = fs at *
            generalize strN cs = fz at *
            go_wp2_with fail
            refine (FR.out _).mono ?_; rintro e w1 ⟨rfl, rfl⟩
            go_wp2
            go_ret2
            exact ⟨rfl, low.out⟩
          · have i2 : 0 < (m : Int) := by omega
            obtain ⟨b, hb⟩ : ∃ b : Nat, m % 256 = b := ⟨_, rfl⟩
            have wb : IntKind.u8.wrap ((m : Int) % 256) = (b : Int) := by rw [IntKind.wrap_u8]; omega
            have NX : Hid (bigL n = bigL (m / 256) ++ (b :: cs)) := by
              unfold Hid
              rw [hc.out, big_step (by have := n32.out; have := hm.out; omega) (by omega), hb]
              simp
            have NM : Hid (m / 256 ≤ n) := by have := hm.out; unfold Hid; omega
            have NS : Hid (m / 256 < m) := by unfold Hid; omega
            have q : (m : Int) / 256 = ((m / 256 : Nat) : Int) := by omega
            have wm : IntKind.u64.wrap ((m / 256 : Nat) : Int) = ((m / 256 : Nat) : Int) := by rw [IntKind.wrap_u64]; have := n32.out; have := hm.out; omega
            have ST : (strB (.slice (some ⟨wr.heap.size, 0, none⟩) 1 1)).run Tryd.prog (wr.alloc (.cells #[.int .u8 (b : Nat)] 5)) = .ok (.string (strN [b])) (wr.alloc (.cells #[.int .u8 (b : Nat)] 5)) := str_held (blk_holds (heap_alloc_new _ _) rfl (by decide))
            have AD := fun w => add_str w [b] cs (by have := lc.out; simp; omega)
            have GN : Hid ((wr.alloc (.cells #[.int .u8 (b : Nat)] 5)).heap[w.heap.size]? = some (.cells (pkC h x) 27 (0, 0))) := pk8_keep hg.out ((Below.refl _ _).alloc (Nat.le_refl _) _)
            have LN : Hid (Below w.heap.size w (wr.alloc (.cells #[.int .u8 (b : Nat)] 5))) := low.out.alloc low.out.size _
            rw [show [b] ++ cs = b :: cs from rfl] at AD
            generalize m / 256 = m2 at *
            generalize hz : b :: cs = z2 at *
            clear hb d hc hm c3 c8
            go_wp2
            go_roundw
            case rel => exact ⟨m2, z2, rfl, rfl, NX.out, NM.out, GN.out, LN.out⟩
            case measure => exact NS.out
      · have i0 : 0 < (n : Int) := by omega
        have i1 : ¬ (n : Int) % 256 = 0 := by omega
        have HB : bare r n := ⟨hn.out, .inr (by omega)⟩
        clear c0
        have BR : Hid (bare r n) := HB
        clear HB hn c
        go_wp2_with fail
        go_loopw [4, 5] (fun a b wr => ∃ (m : Nat) (cs : List Nat), a = .string (strN cs) ∧ b = .int .u64 (m : Nat) ∧ Hid (bigL n = bigL m ++ cs) ∧ Hid (m ≤ n) ∧ Hid (wr.heap[w.heap.size]? = some (.cells (pkC h x) 27 (0, 0))) ∧ Hid (Below w.heap.size w wr)) (fun _ b _ => (intOf b).toNat)
        case atStart => exact ⟨n, [], rfl, rfl, (List.append_nil _).symm, Nat.le_refl _, B0.out, L0.out⟩
        case round =>
          obtain ⟨m, cs, rfl, rfl, hc, hm, hg, low⟩ := hrel
          have lc : Hid (cs.length ≤ 4) := by have := congrArg List.length hc.out; rw [List.length_append] at this; have := big_len n; unfold Hid; omega
          have n32 : Hid (n < 4294967296) := by have := BR.out.1; have := R8.out; unfold Hid; omega
          by_cases d : m = 0
          · subst d
            have E : Hid (frontL r ++ cs = codeL r) := by
              unfold Hid
              rw [← code_parts R8.out BR.out, hc.out, big_zero, List.nil_append]
            have AD := fun w => add_str w (frontL r) cs (by have := front_len r; have := lc.out; omega)
            rw [E.out, CC.out] at AD
            have c8' := CE.out _ hg.out
            clear c3 c8
            generalize strN (frontL r) = fs at *
            generalize strN cs = fz at *
            go_wp2_with fail
            refine (FR.out _).mono ?_; rintro e w1 ⟨rfl, rfl⟩
            go_wp2
            go_ret2
            exact ⟨rfl, low.out⟩
          · have i2 : 0 < (m : Int) := by omega
            obtain ⟨b, hb⟩ : ∃ b : Nat, m % 256 = b := ⟨_, rfl⟩
            have wb : IntKind.u8.wrap ((m : Int) % 256) = (b : Int) := by rw [IntKind.wrap_u8]; omega
            have NX : Hid (bigL n = bigL (m / 256) ++ (b :: cs)) := by
              unfold Hid
              rw [hc.out, big_step (by have := n32.out; have := hm.out; omega) (by omega), hb]
              simp
            have NM : Hid (m / 256 ≤ n) := by have := hm.out; unfold Hid; omega
            have NS : Hid (m / 256 < m) := by unfold Hid; omega
            have q : (m : Int) / 256 = ((m / 256 : Nat) : Int) := by omega
            have wm : IntKind.u64.wrap ((m / 256 : Nat) : Int) = ((m / 256 : Nat) : Int) := by rw [IntKind.wrap_u64]; have := n32.out; have := hm.out; omega
            have ST : (strB (.slice (some ⟨wr.heap.size, 0, none⟩) 1 1)).run Tryd.prog (wr.alloc (.cells #[.int .u8 (b : Nat)] 5)) = .ok (.string (strN [b])) (wr.alloc (.cells #[.int .u8 (b : Nat)] 5)) := str_held (blk_holds (heap_alloc_new _ _) rfl (by decide))
            have AD := fun w => add_str w [b] cs (by have := lc.out; simp; omega)
            have GN : Hid ((wr.alloc (.cells #[.int .u8 (b : Nat)] 5)).heap[w.heap.size]? = some (.cells (pkC h x) 27 (0, 0))) := pk8_keep hg.out ((Below.refl _ _).alloc (Nat.le_refl _) _)
            have LN : Hid (Below w.heap.size w (wr.alloc (.cells #[.int .u8 (b : Nat)] 5))) := low.out.alloc low.out.size _
            rw [show [b] ++ cs = b :: cs from rfl] at AD
            generalize m / 256 = m2 at *
            generalize hz : b :: cs = z2 at *
            clear hb d hc hm c3 c8
            go_wp2
            go_roundw
            case rel => exact ⟨m2, z2, rfl, rfl, NX.out, NM.out, GN.out, LN.out⟩
            case measure => exact NS.out

theorem rkiss8_any (w : World) (h : Hd) (x : Xt) (h8 : h.ri < 4294967296) :
    Calls Tryd.prog 9 #[pkV h x] w fun e w' => e = .returned (.tuple #[.string (kissS h.st h.ri), .bool (decide (h.st = 0))]) ∧ Below w.heap.size w w' := by
  by_cases e : h.st = 0
  · rw [decide_eq_true e, show kissS h.st h.ri = strN (codeL h.ri) from if_pos e]
    exact rkiss8_zero w h x h8 e
  · rw [decide_eq_false e, show kissS h.st h.ri = ⟨#[]⟩ from if_neg e]
    exact rkiss8_pos w h x e
end Go.Proofs.YtggogcbmdillfaaDoor
