/- Texts of earlier layers, laid together: XMacM XMacA XMacB XMacC XMacD. -/
import Derived.Test.YtfnidehbibfclaaGA
import Derived.Laws.Bits64
import Derived.StillTailTactics
import Derived.Deep.DeepCutAuto
import Derived.Deep.AppendLies
import Derived.Deep.QuietTactic
import Derived.BigQuiet
set_option maxRecDepth 100000
/- Layer 6 (mac): tags as functions of numbers and lists: the document's chapter. -/
namespace Go.Proofs.Ytfnidehbibfclaa
open Go.ChangeShapes Go.WideShapes Go.ChangeAt Go.RowKit OctM

def W64 (x : Nat) : Prop := x < 18446744073709551616
instance (x : Nat) : Decidable (W64 x) := by unfold W64; exact inferInstance
/-- a number turned round by one bit. -/
def rot1 (x : Nat) : Nat := 2 * x % 18446744073709551616 + x / 9223372036854775808
def rotN (x : Nat) : Nat → Nat
  | 0 => x
  | n + 1 => rot1 (rotN x n)
theorem rot1_lt {x : Nat} (h : W64 x) : W64 (rot1 x) := by
  unfold W64 rot1 at *
  omega
theorem rotN_lt {x : Nat} (h : W64 x) : ∀ n, W64 (rotN x n)
  | 0 => h
  | n + 1 => rot1_lt (rotN_lt h n)
/-- ... in one step: the bits that fall out come in below. -/
theorem rotN_eq {x : Nat} (h : W64 x) : ∀ n, n ≤ 64 → rotN x n = x * 2 ^ n % 18446744073709551616 + x / 2 ^ (64 - n)
  | 0, _ => by
    unfold W64 at h
    show x = x * 1 % 18446744073709551616 + x / 18446744073709551616
    omega
  | n + 1, hn => by
    have ih := rotN_eq h n (by omega)
    have lt := rotN_lt h n
    show rot1 (rotN x n) = _
    obtain ⟨k, hk⟩ : ∃ k, 64 - n = k + 1 := ⟨63 - n, by omega⟩
    have hk' : 64 - (n + 1) = k := by omega
    rw [hk] at ih
    rw [hk']
    obtain ⟨P, hP⟩ : ∃ P, P = 2 ^ n := ⟨_, rfl⟩
    obtain ⟨Q, hQ⟩ : ∃ Q, Q = 2 ^ k := ⟨_, rfl⟩
    have PQ : P * Q * 2 = 18446744073709551616 := by
      rw [hP, hQ, ← Nat.pow_add, ← Nat.pow_succ, show (n + k).succ = 64 by omega]
    rw [Nat.pow_succ, ← hP, ← hQ]
    rw [← hP, Nat.pow_succ, ← hQ] at ih
    have Q0 : 0 < Q := by rw [hQ]; exact Nat.pos_of_ne_zero (by simp)
    have P0 : 0 < P := by rw [hP]; exact Nat.pos_of_ne_zero (by simp)
    -- x = u * (Q * 2) + v * Q + w, with v the bit that falls out next
    obtain ⟨u, hu⟩ : ∃ u, u = x / (Q * 2) := ⟨_, rfl⟩
    obtain ⟨r, hr⟩ : ∃ r, r = x % (Q * 2) := ⟨_, rfl⟩
    have hx : x = Q * 2 * u + r := by rw [hu, hr]; exact (Nat.div_add_mod x (Q * 2)).symm
    have r1 : r < Q * 2 := by rw [hr]; exact Nat.mod_lt _ (by omega)
    have u1 : u < P := by
      unfold W64 at h
      rcases Nat.lt_or_ge u P with g | g
      · exact g
      · have := Nat.mul_le_mul_left (Q * 2) g
        have e : Q * 2 * P = 18446744073709551616 := by rw [← PQ, Nat.mul_comm (Q * 2) P, Nat.mul_assoc]
        omega
    have m1 : x * P % 18446744073709551616 = r * P := by
      have e : x * P = r * P + 18446744073709551616 * u := by
        rw [hx, Nat.add_mul, Nat.add_comm]
        congr 1
        have : Q * 2 * u * P = (P * Q * 2) * u := by
          rw [Nat.mul_right_comm, Nat.mul_comm (Q * 2) P, ← Nat.mul_assoc]
        rw [this, PQ]
      rw [e, Nat.add_mul_mod_self_left]
      have := Nat.mul_lt_mul_of_pos_right r1 P0
      have e2 : Q * 2 * P = 18446744073709551616 := by rw [Nat.mul_comm (Q * 2) P, ← Nat.mul_assoc, PQ]
      exact Nat.mod_eq_of_lt (by omega)
    rw [m1, ← hu] at ih
    obtain ⟨v, hv⟩ : ∃ v, v = r / Q := ⟨_, rfl⟩
    obtain ⟨t, ht⟩ : ∃ t, t = r % Q := ⟨_, rfl⟩
    have hrr : r = Q * v + t := by rw [hv, ht]; exact (Nat.div_add_mod r Q).symm
    have t1 : t < Q := by rw [ht]; exact Nat.mod_lt _ Q0
    have v1 : v < 2 := by rw [hv]; exact (Nat.div_lt_iff_lt_mul Q0).2 (by omega)
    have d1 : x / Q = 2 * u + v := by
      have : x = t + Q * (2 * u + v) := by rw [hx, hrr, Nat.mul_add, ← Nat.mul_assoc]; omega
      rw [this, Nat.add_mul_div_left _ _ Q0, Nat.div_eq_of_lt t1, Nat.zero_add]
    have m2 : x * (P * 2) % 18446744073709551616 = t * P * 2 := by
      have e : x * (P * 2) = t * P * 2 + 18446744073709551616 * (2 * u + v) := by
        have : x = t + Q * (2 * u + v) := by rw [hx, hrr, Nat.mul_add, ← Nat.mul_assoc]; omega
        rw [this, Nat.add_mul, ← Nat.mul_assoc t]
        congr 1
        rw [← PQ]
        rw [Nat.mul_comm Q, Nat.mul_assoc, Nat.mul_comm (2 * u + v)]
        congr 1
        rw [← Nat.mul_assoc, Nat.mul_comm Q P]
      rw [e, Nat.add_mul_mod_self_left]
      have := Nat.mul_lt_mul_of_pos_right t1 P0
      have e2 : Q * P * 2 = 18446744073709551616 := by rw [Nat.mul_comm Q P, PQ]
      exact Nat.mod_eq_of_lt (by omega)
    have rp : r * P = v * (Q * P) + t * P := by rw [hrr, Nat.add_mul, Nat.mul_comm Q v, Nat.mul_assoc]
    have QP : Q * P = 9223372036854775808 := by rw [Nat.mul_comm]; omega
    have tp : t * P < 9223372036854775808 := by rw [← QP]; exact Nat.mul_lt_mul_of_pos_right t1 P0
    have up : u + t * P < 9223372036854775808 := by
      have := Nat.mul_le_mul_right P (show t + 1 ≤ Q by omega)
      rw [Nat.add_mul, QP] at this
      omega
    rw [ih, m2, d1]
    unfold rot1
    rw [rp, QP]
    have : v = 0 ∨ v = 1 := by omega
    rcases this with rfl | rfl <;> omega

/-- The four numbers. -/
structure St where
  a : Nat
  b : Nat
  c : Nat
  d : Nat
structure St.ok (s : St) : Prop where
  a : W64 s.a
  b : W64 s.b
  c : W64 s.c
  d : W64 s.d
theorem xor_lt {x y : Nat} (hx : W64 x) (hy : W64 y) : W64 (x ^^^ y) := Nat.xor_lt_two_pow (n := 64) hx hy
def add64 (x y : Nat) : Nat := (x + y) % 18446744073709551616
theorem add64_lt (x y : Nat) : W64 (add64 x y) := Nat.mod_lt _ (by decide)
/-- A round, a step at a time. -/
def r0 (s : St) : St := { s with a := add64 s.a s.b }
def r1 (s : St) : St := { s with b := rotN s.b 13 }
def r2 (s : St) : St := { s with b := s.b ^^^ s.a }
def r3 (s : St) : St := { s with a := rotN s.a 32 }
def r4 (s : St) : St := { s with c := add64 s.c s.d }
def r5 (s : St) : St := { s with d := rotN s.d 16 }
def r6 (s : St) : St := { s with d := s.d ^^^ s.c }
def r7 (s : St) : St := { s with a := add64 s.a s.d }
def r8 (s : St) : St := { s with d := rotN s.d 21 }
def r9 (s : St) : St := { s with d := s.d ^^^ s.a }
def r10 (s : St) : St := { s with c := add64 s.c s.b }
def r11 (s : St) : St := { s with b := rotN s.b 17 }
def r12 (s : St) : St := { s with b := s.b ^^^ s.c }
def r13 (s : St) : St := { s with c := rotN s.c 32 }
def roundN (s : St) : St := r13 (r12 (r11 (r10 (r9 (r8 (r7 (r6 (r5 (r4 (r3 (r2 (r1 (r0 s)))))))))))))
theorem r0_ok {s : St} (h : s.ok) : (r0 s).ok := ⟨add64_lt _ _, h.b, h.c, h.d⟩
theorem r1_ok {s : St} (h : s.ok) : (r1 s).ok := ⟨h.a, rotN_lt h.b _, h.c, h.d⟩
theorem r2_ok {s : St} (h : s.ok) : (r2 s).ok := ⟨h.a, xor_lt h.b h.a, h.c, h.d⟩
theorem r3_ok {s : St} (h : s.ok) : (r3 s).ok := ⟨rotN_lt h.a _, h.b, h.c, h.d⟩
theorem r4_ok {s : St} (h : s.ok) : (r4 s).ok := ⟨h.a, h.b, add64_lt _ _, h.d⟩
theorem r5_ok {s : St} (h : s.ok) : (r5 s).ok := ⟨h.a, h.b, h.c, rotN_lt h.d _⟩
theorem r6_ok {s : St} (h : s.ok) : (r6 s).ok := ⟨h.a, h.b, h.c, xor_lt h.d h.c⟩
theorem r7_ok {s : St} (h : s.ok) : (r7 s).ok := ⟨add64_lt _ _, h.b, h.c, h.d⟩
theorem r8_ok {s : St} (h : s.ok) : (r8 s).ok := ⟨h.a, h.b, h.c, rotN_lt h.d _⟩
theorem r9_ok {s : St} (h : s.ok) : (r9 s).ok := ⟨h.a, h.b, h.c, xor_lt h.d h.a⟩
theorem r10_ok {s : St} (h : s.ok) : (r10 s).ok := ⟨h.a, h.b, add64_lt _ _, h.d⟩
theorem r11_ok {s : St} (h : s.ok) : (r11 s).ok := ⟨h.a, rotN_lt h.b _, h.c, h.d⟩
theorem r12_ok {s : St} (h : s.ok) : (r12 s).ok := ⟨h.a, xor_lt h.b h.c, h.c, h.d⟩
theorem r13_ok {s : St} (h : s.ok) : (r13 s).ok := ⟨h.a, h.b, rotN_lt h.c _, h.d⟩
theorem round_ok {s : St} (h : s.ok) : (roundN s).ok := r13_ok (r12_ok (r11_ok (r10_ok (r9_ok (r8_ok (r7_ok (r6_ok (r5_ok (r4_ok (r3_ok (r2_ok (r1_ok (r0_ok h)))))))))))))
/-- A word is taken in. -/
def inD (s : St) (m : Nat) : St := { s with d := s.d ^^^ m }
def inA (s : St) (m : Nat) : St := { s with a := s.a ^^^ m }
def takeS (s : St) (m : Nat) : St := inA (roundN (roundN (inD s m))) m
theorem inD_ok {s : St} (h : s.ok) {m : Nat} (hm : W64 m) : (inD s m).ok := ⟨h.a, h.b, h.c, xor_lt h.d hm⟩
theorem inA_ok {s : St} (h : s.ok) {m : Nat} (hm : W64 m) : (inA s m).ok := ⟨xor_lt h.a hm, h.b, h.c, h.d⟩
theorem take_ok {s : St} (h : s.ok) {m : Nat} (hm : W64 m) : (takeS s m).ok := inA_ok (round_ok (round_ok (inD_ok h hm))) hm
def initS (A B : Nat) : St := ⟨A ^^^ 8317987319222330741, B ^^^ 7237128888997146477, A ^^^ 7816392313619706465, B ^^^ 8387220255154660723⟩
theorem init_ok {A B : Nat} (hA : W64 A) (hB : W64 B) : (initS A B).ok := ⟨xor_lt hA (by decide), xor_lt hB (by decide), xor_lt hA (by decide), xor_lt hB (by decide)⟩
def inC (s : St) : St := { s with c := s.c ^^^ 255 }
theorem inC_ok {s : St} (h : s.ok) : (inC s).ok := ⟨h.a, h.b, xor_lt h.c (by decide), h.d⟩
def endN (s : St) : Nat := s.a ^^^ s.b ^^^ s.c ^^^ s.d
def fourN (s : St) : St := roundN (roundN (roundN (roundN s)))
theorem four_ok {s : St} (h : s.ok) : (fourN s).ok := round_ok (round_ok (round_ok (round_ok h)))
theorem end_lt {s : St} (h : s.ok) : W64 (endN s) := xor_lt (xor_lt (xor_lt h.a h.b) h.c) h.d

/-- bytes as a number, the first one lowest. -/
def leN : List Nat → Nat
  | [] => 0
  | d :: t => leN t * 256 + d
theorem leN_lt : ∀ {ds : List Nat}, Byt ds → leN ds < 256 ^ ds.length
  | [], _ => by simp [leN]
  | d :: t, h => by
    have a := leN_lt (ds := t) (fun x hx => h x (List.mem_cons.2 (.inr hx)))
    have b := h d (List.mem_cons.2 (.inl rfl))
    show leN t * 256 + d < 256 ^ (t.length + 1)
    rw [Nat.pow_succ]
    omega
theorem leN_w64 {ds : List Nat} (h : Byt ds) (l : ds.length ≤ 8) : W64 (leN ds) := by
  have a := leN_lt h
  have b : 256 ^ ds.length ≤ 256 ^ 8 := Nat.pow_le_pow_right (by decide) l
  unfold W64
  omega
theorem leN_seven {ds : List Nat} (h : Byt ds) (l : ds.length ≤ 7) : leN ds < 72057594037927936 := by
  have a := leN_lt h
  have b : 256 ^ ds.length ≤ 256 ^ 7 := Nat.pow_le_pow_right (by decide) l
  omega
/-- The first so many full words. -/
def fullN (ds : List Nat) (k : Nat) : List Nat := (List.range k).map fun i => leN ((ds.drop (8 * i)).take 8)
theorem fullN_succ (ds : List Nat) (k : Nat) : fullN ds (k + 1) = fullN ds k ++ [leN ((ds.drop (8 * k)).take 8)] := by
  unfold fullN
  rw [List.range_succ, List.map_append]
  rfl
def lastN (ds : List Nat) : Nat := leN (ds.drop (8 * (ds.length / 8))) + ds.length % 256 * 72057594037927936
def wordsN (ds : List Nat) : List Nat := fullN ds (ds.length / 8) ++ [lastN ds]
theorem lastN_lt {ds : List Nat} (h : Byt ds) : W64 (lastN ds) := by
  have a := leN_seven (byt_drop h (8 * (ds.length / 8))) (by rw [List.length_drop]; omega)
  unfold W64 lastN
  omega
theorem words_w64 {ds : List Nat} (h : Byt ds) : ∀ m ∈ wordsN ds, W64 m := fun m hm => by
  unfold wordsN at hm
  rcases List.mem_append.1 hm with g | g
  · unfold fullN at g
    obtain ⟨i, _, rfl⟩ := List.mem_map.1 g
    exact leN_w64 (byt_take (byt_drop h _) _) (by rw [List.length_take]; omega)
  · obtain rfl : m = lastN ds := by simpa using g
    exact lastN_lt h
/-- The tag. -/
def sipS (A B : Nat) (ms : List Nat) : St := ms.foldl takeS (initS A B)
def tagN (A B : Nat) (ds : List Nat) : Nat := endN (fourN (inC (sipS A B (wordsN ds))))
theorem sip_ok {A B : Nat} (hA : W64 A) (hB : W64 B) {ms : List Nat} (h : ∀ m ∈ ms, W64 m) : (sipS A B ms).ok := by
  unfold sipS
  suffices ∀ (ms : List Nat) (s : St), s.ok → (∀ m ∈ ms, W64 m) → (ms.foldl takeS s).ok from this ms _ (init_ok hA hB) h
  intro ms
  induction ms with
  | nil => exact fun s hs _ => hs
  | cons m ms ih => exact fun s hs hm => ih _ (take_ok hs (hm m (List.mem_cons.2 (.inl rfl)))) fun x hx => hm x (List.mem_cons.2 (.inr hx))
theorem tag_lt {A B : Nat} (hA : W64 A) (hB : W64 B) {ds : List Nat} (h : Byt ds) : W64 (tagN A B ds) := end_lt (four_ok (inC_ok (sip_ok hA hB (words_w64 h))))
theorem sip_snoc (A B : Nat) (ms : List Nat) (m : Nat) : sipS A B (ms ++ [m]) = takeS (sipS A B ms) m := by
  unfold sipS
  rw [List.foldl_append]
  rfl
/-- The chapter's rows. -/
theorem tag_none : tagN 506097522914230528 1084818905618843912 [] = 8246050544436514353 := by decide +kernel
theorem tag_15 : tagN 506097522914230528 1084818905618843912 (List.range 15) = 11613035633349379557 := by decide +kernel
end Go.Proofs.Ytfnidehbibfclaa
/- Layer 6 (mac), the document's own answers: a number turned round, bytes as a number. -/
namespace Go.Proofs.Ytfnidehbibfclaa
open Go.ChangeShapes Go.WideShapes Go.ChangeAt Go.RowKit OctM

theorem rturn6_any (w : World) (x n : Nat) (hx : W64 x) (hn : n ≤ 64) :
    Calls Try.prog 93 #[.int .u64 (x : Nat), .int .i64 (n : Int)] w fun e w' => e = .returned (.int .u64 (rotN x n : Nat)) ∧ w = w' := by
  have HX := Lib.hid hx
  have nb : (n : Int) ≤ 64 := by omega
  have HN := Lib.hid hn
  clear hx hn
  go_enter Try.func93, Try.ntmps93
  go_wp2_with fail
  go_loop [0, 5] (fun y i => ∃ k : Nat, y = .int .u64 (rotN x k : Nat) ∧ i = .int .i64 k ∧ Hid (k ≤ n)) (fun _ i => 100 - (intOf i).toNat)
  case atStart => exact ⟨0, rfl, rfl, Nat.zero_le _⟩
  case round =>
    obtain ⟨k, rfl, rfl, hk⟩ := hrel
    have kb : (k : Int) ≤ 64 := by have := hk.out; omega
    obtain ⟨y, hy⟩ : ∃ y, y = rotN x k := ⟨_, rfl⟩
    have yb : y < 18446744073709551616 := by rw [hy]; exact rotN_lt HX.out k
    have HY := Lib.hid hy
    rw [← hy]
    by_cases g : k < n
    · have g' : (k : Int) < (n : Int) := by omega
      have G : Hid (k + 1 ≤ n) := g
      obtain ⟨q, hq⟩ : ∃ q, q = y / 9223372036854775808 := ⟨_, rfl⟩
      obtain ⟨m, hm⟩ : ∃ m, m = 2 * y % 18446744073709551616 := ⟨_, rfl⟩
      obtain ⟨z, hz⟩ : ∃ z, z = rot1 y := ⟨_, rfl⟩
      have zz : z = m + q := by rw [hz, hm, hq]; rfl
      have e1 : (y : Int) / 9223372036854775808 = (q : Int) := by omega
      have e1' : (y : Int).tdiv 9223372036854775808 = (q : Int) := by rw [Int.tdiv_eq_ediv_of_nonneg (by omega)]; exact e1
      have w1 : IntKind.u64.wrap (q : Int) = (q : Int) := by rw [IntKind.wrap_u64]; omega
      have w2 : IntKind.u64.wrap (2 * (y : Int)) = (m : Int) := by rw [IntKind.wrap_u64]; omega
      have e2 : (m : Int) + (q : Int) = (z : Int) := by omega
      have w3 : IntKind.u64.wrap (z : Int) = (z : Int) := by rw [IntKind.wrap_u64]; omega
      have NX : Hid (z = rotN x (k + 1)) := by unfold Hid; rw [hz, HY.out]; rfl
      clear hk hy yb g hq hm hz zz
      go_wp2
      go_round
      case rel => exact ⟨k + 1, by rw [NX.out], by go_num, G⟩
      case measure => simp [intOf]; omega
    · have g' : (n : Int) ≤ (k : Int) := by omega
      have F : Hid (y = rotN x n) := by
        have e : k = n := by have := hk.out; omega
        unfold Hid
        rw [HY.out, e]
      clear g hk hy yb
      go_wp2
      go_ret
      exact ⟨ret_int (by rw [F.out]), rfl⟩

theorem leN_drop {ds : List Nat} {i : Nat} (h : i < ds.length) : leN (ds.drop i) = leN (ds.drop (i + 1)) * 256 + ds.getD i 0 := by
  rw [List.drop_eq_getElem_cons h, List.getD_eq_getElem?_getD, List.getElem?_eq_getElem h]
  rfl

theorem rword6_any (w : World) (p : Option Addr) (n c : Nat) (ds : List Nat) (hd : Holds w p n c (valsN .u8 ds)) (hy : Byt ds) (hn : n ≤ 8) :
    Calls Try.prog 92 #[.slice p n c] w fun e w' => e = .returned (.int .u64 (leN ds : Nat)) ∧ w = w' := by
  have ln : ds.length = n := by have := hd.len; rwa [valsN_len] at this
  have HD := Lib.hid hd
  have HY := Lib.hid hy
  have LN := Lib.hid ln
  have HN := Lib.hid hn
  have nb : (n : Int) ≤ 8 := by omega
  clear hd hy ln hn
  go_enter Try.func92, Try.ntmps92
  go_wp2_with fail
  go_loop [3, 4] (fun y i => ∃ k : Nat, y = .int .u64 (leN (ds.drop k) : Nat) ∧ Hid (k ≤ n) ∧ ∃ z : Int, i = .int .i64 z ∧ Hid (z = (k : Int) - 1)) (fun _ i => (intOf i + 1).toNat)
  case atStart => exact ⟨n, by rw [List.drop_of_length_le (by rw [LN.out]; exact Nat.le_refl _)]; rfl, Nat.le_refl _, (n : Int) - 1, by go_num, rfl⟩
  case round =>
    obtain ⟨k, rfl, hk, z, rfl, hz⟩ := hrel
    obtain ⟨y, hy'⟩ : ∃ y, y = leN (ds.drop k) := ⟨_, rfl⟩
    rw [← hy']
    rcases k with _ | j
    · have ez : z = -1 := by have := hz.out; omega
      subst ez
      have F : Hid (y = leN ds) := hy'
      clear hk hz hy'
      go_wp2
      go_ret
      exact ⟨ret_int (by rw [F.out]), rfl⟩
    · have ez : z = (j : Int) := by have := hz.out; omega
      subst ez
      have jn : j < n := by have := hk.out; omega
      have g' : (j : Int) < (n : Int) := by omega
      have jb : (j : Int) < 8 := by have := HN.out; omega
      obtain ⟨a, rfl, cz⟩ := HD.out.atN jn
      obtain ⟨b, hb⟩ : ∃ b, b = ds.getD j 0 := ⟨_, rfl⟩
      rw [← hb] at cz
      have bb : b < 256 := by
        rw [hb, List.getD_eq_getElem?_getD, List.getElem?_eq_getElem (by rw [LN.out]; exact jn)]
        exact HY.out _ (List.getElem_mem _)
      have yb : y < 72057594037927936 := by
        rw [hy']
        exact leN_seven (byt_drop HY.out _) (by rw [List.length_drop, LN.out]; have := HN.out; omega)
      obtain ⟨m, hm⟩ : ∃ m, m = y * 256 := ⟨_, rfl⟩
      obtain ⟨s, hs⟩ : ∃ s, s = m + b := ⟨_, rfl⟩
      have e1 : (y : Int) * 256 = (m : Int) := by omega
      have w1 : IntKind.u64.wrap (m : Int) = (m : Int) := by rw [IntKind.wrap_u64]; omega
      have w2 : IntKind.u64.wrap (b : Int) = (b : Int) := by rw [IntKind.wrap_u64]; omega
      have e2 : (m : Int) + (b : Int) = (s : Int) := by omega
      have w3 : IntKind.u64.wrap (s : Int) = (s : Int) := by rw [IntKind.wrap_u64]; omega
      have NX : Hid (s = leN (ds.drop j)) := by
        unfold Hid
        rw [leN_drop (by rw [LN.out]; exact jn), ← hb, ← hy', hs, hm]
      have JN : Hid (j ≤ n) := Nat.le_of_lt jn
      clear hk hz hy' jn hb bb yb hm hs
      go_wp2
      go_round
      case rel => exact ⟨j, by rw [NX.out], JN, (j : Int) - 1, by first | rfl | go_num, rfl⟩
      case measure => simp [intOf]
end Go.Proofs.Ytfnidehbibfclaa
/- Layer 6 (mac), the document's own round (written by genmacround.py). -/
namespace Go.Proofs.Ytfnidehbibfclaa
open Go.ChangeShapes Go.WideShapes Go.ChangeAt Go.RowKit OctM

/-- Block B alone has turned. -/
structure OnlyB (B : Nat) (W W' : World) : Prop where
  keep : ∀ j, j ≠ B → W'.heap[j]? = W.heap[j]?
  size : W'.heap.size = W.heap.size
  low : ∀ N, N ≤ B → Below N W W'
theorem OnlyB.refl (B : Nat) (W : World) : OnlyB B W W := ⟨fun _ _ => rfl, rfl, fun _ _ => Below.refl _ _⟩
theorem OnlyB.drew {B : Nat} {W W' : World} (h : OnlyB B W W') : OnlyB B W W'.drew := ⟨h.keep, h.size, fun N hN => (h.low N hN).drew⟩
theorem OnlyB.set {B : Nat} {W W' : World} (h : OnlyB B W W') (k : Nat) (v : Value) : OnlyB B W (W'.setCell ⟨B, k, none⟩ v) := by
  refine ⟨fun j hj => ?_, ?_, fun N hN => (h.low N hN).setCell (p := ⟨B, k, none⟩) hN v⟩
  · rw [← h.keep j hj]
    simp [World.setCell, Array.getElem?_modify, Ne.symm hj]
  · rw [← h.size]
    simp [World.setCell]
theorem OnlyB.trans {B : Nat} {W W' V : World} (h : OnlyB B W W') (g : OnlyB B W' V) : OnlyB B W V :=
  ⟨fun j hj => (g.keep j hj).trans (h.keep j hj), g.size.trans h.size, fun N hN => by
    have a := h.low N hN
    have b := g.low N hN
    exact a.trans b⟩

/-- A state lies in block B. -/
def StB (W : World) (B : Nat) (s : St) : Prop := W.heap[B]? = some (.cells #[.int .u64 (s.a : Nat), .int .u64 (s.b : Nat), .int .u64 (s.c : Nat), .int .u64 (s.d : Nat)] 99 (0, 0))
def RoundP (W : World) (B : Nat) (s : St) (e : Ending) (W' : World) : Prop := e = .returned (.tuple #[]) ∧ StB W' B s ∧ OnlyB B W W'

set_option maxRecDepth 100000 in
set_option maxHeartbeats 16000000 in
theorem rround6_any (w : World) (B : Nat) (s : St) (hs : s.ok) (hb : StB w B s) :
    Calls Try.prog 67 #[.pointer (some ⟨B, 0, none⟩)] w (RoundP w B (roundN s)) := by
  obtain ⟨a0, b0, c0, d0⟩ := s
  obtain ⟨wa0, wb0, wc0, wd0⟩ := hs
  simp only at wa0 wb0 wc0 wd0
  have hb0 : w.heap[B]? = some (.cells #[.int .u64 (a0 : Nat), .int .u64 (b0 : Nat), .int .u64 (c0 : Nat), .int .u64 (d0 : Nat)] 99 (0, 0)) := hb
  have O0 := Lib.hid (OnlyB.refl B w)
  have FIN : Hid (∀ W', StB W' B (roundN ⟨a0, b0, c0, d0⟩) → OnlyB B w W' → RoundP w B (roundN ⟨a0, b0, c0, d0⟩) (.returned (.tuple #[])) W') := fun W' h1 h2 => ⟨rfl, h1, h2⟩
  have HA := Lib.hid wa0
  have HB := Lib.hid wb0
  have HC := Lib.hid wc0
  have HD := Lib.hid wd0
  have H0 := Lib.hid hb0
  clear hb wa0 wb0 wc0 wd0 hb0
  go_enter Try.func67, Try.ntmps67
  -- statement 0
  obtain ⟨a1, ha1⟩ : ∃ x, x = add64 a0 b0 := ⟨_, rfl⟩
  have ev : IntKind.u64.wrap ((a0 : Int) + (b0 : Int)) = (a1 : Int) := by rw [ha1]; unfold add64; rw [IntKind.wrap_u64]; omega
  have Na1 : Hid (W64 a1) := by unfold Hid; rw [ha1]; exact add64_lt _ _
  have Ea1 := Lib.hid ha1
  clear ha1
  have c1 := blk_cell (o := 0) H0.out
  have c2 := blk_cell (o := 1) H0.out
  go_wp2_with fail
  go_still_tail 12, (by kernel_rfl)
  change wpList _ _ _ _ _ w.drew
  have G0 := Lib.hid (show w.drew.heap[B]? = _ from H0.out)
  have Q0 := Lib.hid O0.out.drew
  clear c1 c2
  have c1 := blk_cell (o := 0) G0.out
  have f1 := blk_free (o := 0) G0.out
  generalize w.drew = v0 at *
  go_upto_region 1 with fail
  have H1 := Lib.hid (show (v0.setCell ⟨B, 0, none⟩ (.int .u64 (a1 : Nat))).heap[B]? = some (.cells #[.int .u64 (a1 : Nat), .int .u64 (b0 : Nat), .int .u64 (c0 : Nat), .int .u64 (d0 : Nat)] 99 (0, 0)) from blk_set (o := 0) (u := .int .u64 (a1 : Nat)) G0.out)
  have O1 := Lib.hid (Q0.out.set 0 (.int .u64 (a1 : Nat)))
  clear c1 f1 ev
  generalize v0.setCell ⟨B, 0, none⟩ (.int .u64 (a1 : Nat)) = w1 at *
  -- statement 1
  obtain ⟨b2, hb2⟩ : ∃ x, x = rotN b0 13 := ⟨_, rfl⟩
  have c1 := blk_cell (o := 1) H1.out
  have f1 := blk_free (o := 1) H1.out
  have RT := Lib.hid (rturn6_any w1 b0 13 HB.out (by decide))
  rw [← hb2] at RT
  have Nb2 : Hid (W64 b2) := by unfold Hid; rw [hb2]; exact rotN_lt HB.out _
  have Eb2 := Lib.hid hb2
  clear hb2
  go_wp2_with fail
  refine RT.out.mono ?_; rintro e w' ⟨rfl, rfl⟩
  go_upto_region 2 with fail
  have H2 := Lib.hid (show (w1.setCell ⟨B, 1, none⟩ (.int .u64 (b2 : Nat))).heap[B]? = some (.cells #[.int .u64 (a1 : Nat), .int .u64 (b2 : Nat), .int .u64 (c0 : Nat), .int .u64 (d0 : Nat)] 99 (0, 0)) from blk_set (o := 1) (u := .int .u64 (b2 : Nat)) H1.out)
  have O2 := Lib.hid (O1.out.set 1 (.int .u64 (b2 : Nat)))
  clear c1 f1 RT
  generalize w1.setCell ⟨B, 1, none⟩ (.int .u64 (b2 : Nat)) = w2 at *
  -- statement 2
  obtain ⟨b3, hb3⟩ : ∃ x, x = b2 ^^^ a1 := ⟨_, rfl⟩
  have ev : bits .xor .u64 (b2 : Int) (a1 : Int) = (b3 : Int) := by rw [hb3]; exact bits_xor_u64_nat _ _ Nb2.out Na1.out
  have Nb3 : Hid (W64 b3) := by unfold Hid; rw [hb3]; exact xor_lt Nb2.out Na1.out
  have Eb3 := Lib.hid hb3
  clear hb3
  have c1 := blk_cell (o := 1) H2.out
  have c2 := blk_cell (o := 0) H2.out
  go_wp2_with fail
  go_still_tail 12, (by kernel_rfl)
  change wpList _ _ _ _ _ w2.drew
  have G2 := Lib.hid (show w2.drew.heap[B]? = _ from H2.out)
  have Q2 := Lib.hid O2.out.drew
  clear c1 c2
  have c1 := blk_cell (o := 1) G2.out
  have f1 := blk_free (o := 1) G2.out
  generalize w2.drew = v2 at *
  go_upto_region 3 with fail
  have H3 := Lib.hid (show (v2.setCell ⟨B, 1, none⟩ (.int .u64 (b3 : Nat))).heap[B]? = some (.cells #[.int .u64 (a1 : Nat), .int .u64 (b3 : Nat), .int .u64 (c0 : Nat), .int .u64 (d0 : Nat)] 99 (0, 0)) from blk_set (o := 1) (u := .int .u64 (b3 : Nat)) G2.out)
  have O3 := Lib.hid (Q2.out.set 1 (.int .u64 (b3 : Nat)))
  clear c1 f1 ev
  generalize v2.setCell ⟨B, 1, none⟩ (.int .u64 (b3 : Nat)) = w3 at *
  -- statement 3
  obtain ⟨a4, ha4⟩ : ∃ x, x = rotN a1 32 := ⟨_, rfl⟩
  have c1 := blk_cell (o := 0) H3.out
  have f1 := blk_free (o := 0) H3.out
  have RT := Lib.hid (rturn6_any w3 a1 32 Na1.out (by decide))
  rw [← ha4] at RT
  have Na4 : Hid (W64 a4) := by unfold Hid; rw [ha4]; exact rotN_lt Na1.out _
  have Ea4 := Lib.hid ha4
  clear ha4
  go_wp2_with fail
  refine RT.out.mono ?_; rintro e w' ⟨rfl, rfl⟩
  go_upto_region 4 with fail
  have H4 := Lib.hid (show (w3.setCell ⟨B, 0, none⟩ (.int .u64 (a4 : Nat))).heap[B]? = some (.cells #[.int .u64 (a4 : Nat), .int .u64 (b3 : Nat), .int .u64 (c0 : Nat), .int .u64 (d0 : Nat)] 99 (0, 0)) from blk_set (o := 0) (u := .int .u64 (a4 : Nat)) H3.out)
  have O4 := Lib.hid (O3.out.set 0 (.int .u64 (a4 : Nat)))
  clear c1 f1 RT
  generalize w3.setCell ⟨B, 0, none⟩ (.int .u64 (a4 : Nat)) = w4 at *
  -- statement 4
  obtain ⟨c5, hc5⟩ : ∃ x, x = add64 c0 d0 := ⟨_, rfl⟩
  have ev : IntKind.u64.wrap ((c0 : Int) + (d0 : Int)) = (c5 : Int) := by rw [hc5]; unfold add64; rw [IntKind.wrap_u64]; omega
  have Nc5 : Hid (W64 c5) := by unfold Hid; rw [hc5]; exact add64_lt _ _
  have Ec5 := Lib.hid hc5
  clear hc5
  have c1 := blk_cell (o := 2) H4.out
  have c2 := blk_cell (o := 3) H4.out
  go_wp2_with fail
  go_still_tail 12, (by kernel_rfl)
  change wpList _ _ _ _ _ w4.drew
  have G4 := Lib.hid (show w4.drew.heap[B]? = _ from H4.out)
  have Q4 := Lib.hid O4.out.drew
  clear c1 c2
  have c1 := blk_cell (o := 2) G4.out
  have f1 := blk_free (o := 2) G4.out
  generalize w4.drew = v4 at *
  go_upto_region 5 with fail
  have H5 := Lib.hid (show (v4.setCell ⟨B, 2, none⟩ (.int .u64 (c5 : Nat))).heap[B]? = some (.cells #[.int .u64 (a4 : Nat), .int .u64 (b3 : Nat), .int .u64 (c5 : Nat), .int .u64 (d0 : Nat)] 99 (0, 0)) from blk_set (o := 2) (u := .int .u64 (c5 : Nat)) G4.out)
  have O5 := Lib.hid (Q4.out.set 2 (.int .u64 (c5 : Nat)))
  clear c1 f1 ev
  generalize v4.setCell ⟨B, 2, none⟩ (.int .u64 (c5 : Nat)) = w5 at *
  -- statement 5
  obtain ⟨d6, hd6⟩ : ∃ x, x = rotN d0 16 := ⟨_, rfl⟩
  have c1 := blk_cell (o := 3) H5.out
  have f1 := blk_free (o := 3) H5.out
  have RT := Lib.hid (rturn6_any w5 d0 16 HD.out (by decide))
  rw [← hd6] at RT
  have Nd6 : Hid (W64 d6) := by unfold Hid; rw [hd6]; exact rotN_lt HD.out _
  have Ed6 := Lib.hid hd6
  clear hd6
  go_wp2_with fail
  refine RT.out.mono ?_; rintro e w' ⟨rfl, rfl⟩
  go_upto_region 6 with fail
  have H6 := Lib.hid (show (w5.setCell ⟨B, 3, none⟩ (.int .u64 (d6 : Nat))).heap[B]? = some (.cells #[.int .u64 (a4 : Nat), .int .u64 (b3 : Nat), .int .u64 (c5 : Nat), .int .u64 (d6 : Nat)] 99 (0, 0)) from blk_set (o := 3) (u := .int .u64 (d6 : Nat)) H5.out)
  have O6 := Lib.hid (O5.out.set 3 (.int .u64 (d6 : Nat)))
  clear c1 f1 RT
  generalize w5.setCell ⟨B, 3, none⟩ (.int .u64 (d6 : Nat)) = w6 at *
  -- statement 6
  obtain ⟨d7, hd7⟩ : ∃ x, x = d6 ^^^ c5 := ⟨_, rfl⟩
  have ev : bits .xor .u64 (d6 : Int) (c5 : Int) = (d7 : Int) := by rw [hd7]; exact bits_xor_u64_nat _ _ Nd6.out Nc5.out
  have Nd7 : Hid (W64 d7) := by unfold Hid; rw [hd7]; exact xor_lt Nd6.out Nc5.out
  have Ed7 := Lib.hid hd7
  clear hd7
  have c1 := blk_cell (o := 3) H6.out
  have c2 := blk_cell (o := 2) H6.out
  go_wp2_with fail
  go_still_tail 12, (by kernel_rfl)
  change wpList _ _ _ _ _ w6.drew
  have G6 := Lib.hid (show w6.drew.heap[B]? = _ from H6.out)
  have Q6 := Lib.hid O6.out.drew
  clear c1 c2
  have c1 := blk_cell (o := 3) G6.out
  have f1 := blk_free (o := 3) G6.out
  generalize w6.drew = v6 at *
  go_upto_region 7 with fail
  have H7 := Lib.hid (show (v6.setCell ⟨B, 3, none⟩ (.int .u64 (d7 : Nat))).heap[B]? = some (.cells #[.int .u64 (a4 : Nat), .int .u64 (b3 : Nat), .int .u64 (c5 : Nat), .int .u64 (d7 : Nat)] 99 (0, 0)) from blk_set (o := 3) (u := .int .u64 (d7 : Nat)) G6.out)
  have O7 := Lib.hid (Q6.out.set 3 (.int .u64 (d7 : Nat)))
  clear c1 f1 ev
  generalize v6.setCell ⟨B, 3, none⟩ (.int .u64 (d7 : Nat)) = w7 at *
  -- statement 7
  obtain ⟨a8, ha8⟩ : ∃ x, x = add64 a4 d7 := ⟨_, rfl⟩
  have ev : IntKind.u64.wrap ((a4 : Int) + (d7 : Int)) = (a8 : Int) := by rw [ha8]; unfold add64; rw [IntKind.wrap_u64]; omega
  have Na8 : Hid (W64 a8) := by unfold Hid; rw [ha8]; exact add64_lt _ _
  have Ea8 := Lib.hid ha8
  clear ha8
  have c1 := blk_cell (o := 0) H7.out
  have c2 := blk_cell (o := 3) H7.out
  go_wp2_with fail
  go_still_tail 12, (by kernel_rfl)
  change wpList _ _ _ _ _ w7.drew
  have G7 := Lib.hid (show w7.drew.heap[B]? = _ from H7.out)
  have Q7 := Lib.hid O7.out.drew
  clear c1 c2
  have c1 := blk_cell (o := 0) G7.out
  have f1 := blk_free (o := 0) G7.out
  generalize w7.drew = v7 at *
  go_upto_region 8 with fail
  have H8 := Lib.hid (show (v7.setCell ⟨B, 0, none⟩ (.int .u64 (a8 : Nat))).heap[B]? = some (.cells #[.int .u64 (a8 : Nat), .int .u64 (b3 : Nat), .int .u64 (c5 : Nat), .int .u64 (d7 : Nat)] 99 (0, 0)) from blk_set (o := 0) (u := .int .u64 (a8 : Nat)) G7.out)
  have O8 := Lib.hid (Q7.out.set 0 (.int .u64 (a8 : Nat)))
  clear c1 f1 ev
  generalize v7.setCell ⟨B, 0, none⟩ (.int .u64 (a8 : Nat)) = w8 at *
  -- statement 8
  obtain ⟨d9, hd9⟩ : ∃ x, x = rotN d7 21 := ⟨_, rfl⟩
  have c1 := blk_cell (o := 3) H8.out
  have f1 := blk_free (o := 3) H8.out
  have RT := Lib.hid (rturn6_any w8 d7 21 Nd7.out (by decide))
  rw [← hd9] at RT
  have Nd9 : Hid (W64 d9) := by unfold Hid; rw [hd9]; exact rotN_lt Nd7.out _
  have Ed9 := Lib.hid hd9
  clear hd9
  go_wp2_with fail
  refine RT.out.mono ?_; rintro e w' ⟨rfl, rfl⟩
  go_upto_region 9 with fail
  have H9 := Lib.hid (show (w8.setCell ⟨B, 3, none⟩ (.int .u64 (d9 : Nat))).heap[B]? = some (.cells #[.int .u64 (a8 : Nat), .int .u64 (b3 : Nat), .int .u64 (c5 : Nat), .int .u64 (d9 : Nat)] 99 (0, 0)) from blk_set (o := 3) (u := .int .u64 (d9 : Nat)) H8.out)
  have O9 := Lib.hid (O8.out.set 3 (.int .u64 (d9 : Nat)))
  clear c1 f1 RT
  generalize w8.setCell ⟨B, 3, none⟩ (.int .u64 (d9 : Nat)) = w9 at *
  -- statement 9
  obtain ⟨d10, hd10⟩ : ∃ x, x = d9 ^^^ a8 := ⟨_, rfl⟩
  have ev : bits .xor .u64 (d9 : Int) (a8 : Int) = (d10 : Int) := by rw [hd10]; exact bits_xor_u64_nat _ _ Nd9.out Na8.out
  have Nd10 : Hid (W64 d10) := by unfold Hid; rw [hd10]; exact xor_lt Nd9.out Na8.out
  have Ed10 := Lib.hid hd10
  clear hd10
  have c1 := blk_cell (o := 3) H9.out
  have c2 := blk_cell (o := 0) H9.out
  go_wp2_with fail
  go_still_tail 12, (by kernel_rfl)
  change wpList _ _ _ _ _ w9.drew
  have G9 := Lib.hid (show w9.drew.heap[B]? = _ from H9.out)
  have Q9 := Lib.hid O9.out.drew
  clear c1 c2
  have c1 := blk_cell (o := 3) G9.out
  have f1 := blk_free (o := 3) G9.out
  generalize w9.drew = v9 at *
  go_upto_region 10 with fail
  have H10 := Lib.hid (show (v9.setCell ⟨B, 3, none⟩ (.int .u64 (d10 : Nat))).heap[B]? = some (.cells #[.int .u64 (a8 : Nat), .int .u64 (b3 : Nat), .int .u64 (c5 : Nat), .int .u64 (d10 : Nat)] 99 (0, 0)) from blk_set (o := 3) (u := .int .u64 (d10 : Nat)) G9.out)
  have O10 := Lib.hid (Q9.out.set 3 (.int .u64 (d10 : Nat)))
  clear c1 f1 ev
  generalize v9.setCell ⟨B, 3, none⟩ (.int .u64 (d10 : Nat)) = w10 at *
  -- statement 10
  obtain ⟨c11, hc11⟩ : ∃ x, x = add64 c5 b3 := ⟨_, rfl⟩
  have ev : IntKind.u64.wrap ((c5 : Int) + (b3 : Int)) = (c11 : Int) := by rw [hc11]; unfold add64; rw [IntKind.wrap_u64]; omega
  have Nc11 : Hid (W64 c11) := by unfold Hid; rw [hc11]; exact add64_lt _ _
  have Ec11 := Lib.hid hc11
  clear hc11
  have c1 := blk_cell (o := 2) H10.out
  have c2 := blk_cell (o := 1) H10.out
  go_wp2_with fail
  go_still_tail 12, (by kernel_rfl)
  change wpList _ _ _ _ _ w10.drew
  have G10 := Lib.hid (show w10.drew.heap[B]? = _ from H10.out)
  have Q10 := Lib.hid O10.out.drew
  clear c1 c2
  have c1 := blk_cell (o := 2) G10.out
  have f1 := blk_free (o := 2) G10.out
  generalize w10.drew = v10 at *
  go_upto_region 11 with fail
  have H11 := Lib.hid (show (v10.setCell ⟨B, 2, none⟩ (.int .u64 (c11 : Nat))).heap[B]? = some (.cells #[.int .u64 (a8 : Nat), .int .u64 (b3 : Nat), .int .u64 (c11 : Nat), .int .u64 (d10 : Nat)] 99 (0, 0)) from blk_set (o := 2) (u := .int .u64 (c11 : Nat)) G10.out)
  have O11 := Lib.hid (Q10.out.set 2 (.int .u64 (c11 : Nat)))
  clear c1 f1 ev
  generalize v10.setCell ⟨B, 2, none⟩ (.int .u64 (c11 : Nat)) = w11 at *
  -- statement 11
  obtain ⟨b12, hb12⟩ : ∃ x, x = rotN b3 17 := ⟨_, rfl⟩
  have c1 := blk_cell (o := 1) H11.out
  have f1 := blk_free (o := 1) H11.out
  have RT := Lib.hid (rturn6_any w11 b3 17 Nb3.out (by decide))
  rw [← hb12] at RT
  have Nb12 : Hid (W64 b12) := by unfold Hid; rw [hb12]; exact rotN_lt Nb3.out _
  have Eb12 := Lib.hid hb12
  clear hb12
  go_wp2_with fail
  refine RT.out.mono ?_; rintro e w' ⟨rfl, rfl⟩
  go_upto_region 12 with fail
  have H12 := Lib.hid (show (w11.setCell ⟨B, 1, none⟩ (.int .u64 (b12 : Nat))).heap[B]? = some (.cells #[.int .u64 (a8 : Nat), .int .u64 (b12 : Nat), .int .u64 (c11 : Nat), .int .u64 (d10 : Nat)] 99 (0, 0)) from blk_set (o := 1) (u := .int .u64 (b12 : Nat)) H11.out)
  have O12 := Lib.hid (O11.out.set 1 (.int .u64 (b12 : Nat)))
  clear c1 f1 RT
  generalize w11.setCell ⟨B, 1, none⟩ (.int .u64 (b12 : Nat)) = w12 at *
  -- statement 12
  obtain ⟨b13, hb13⟩ : ∃ x, x = b12 ^^^ c11 := ⟨_, rfl⟩
  have ev : bits .xor .u64 (b12 : Int) (c11 : Int) = (b13 : Int) := by rw [hb13]; exact bits_xor_u64_nat _ _ Nb12.out Nc11.out
  have Nb13 : Hid (W64 b13) := by unfold Hid; rw [hb13]; exact xor_lt Nb12.out Nc11.out
  have Eb13 := Lib.hid hb13
  clear hb13
  have c1 := blk_cell (o := 1) H12.out
  have c2 := blk_cell (o := 2) H12.out
  go_wp2_with fail
  go_still_tail 12, (by kernel_rfl)
  change wpList _ _ _ _ _ w12.drew
  have G12 := Lib.hid (show w12.drew.heap[B]? = _ from H12.out)
  have Q12 := Lib.hid O12.out.drew
  clear c1 c2
  have c1 := blk_cell (o := 1) G12.out
  have f1 := blk_free (o := 1) G12.out
  generalize w12.drew = v12 at *
  go_upto_region 13 with fail
  have H13 := Lib.hid (show (v12.setCell ⟨B, 1, none⟩ (.int .u64 (b13 : Nat))).heap[B]? = some (.cells #[.int .u64 (a8 : Nat), .int .u64 (b13 : Nat), .int .u64 (c11 : Nat), .int .u64 (d10 : Nat)] 99 (0, 0)) from blk_set (o := 1) (u := .int .u64 (b13 : Nat)) G12.out)
  have O13 := Lib.hid (Q12.out.set 1 (.int .u64 (b13 : Nat)))
  clear c1 f1 ev
  generalize v12.setCell ⟨B, 1, none⟩ (.int .u64 (b13 : Nat)) = w13 at *
  -- statement 13
  obtain ⟨c14, hc14⟩ : ∃ x, x = rotN c11 32 := ⟨_, rfl⟩
  have c1 := blk_cell (o := 2) H13.out
  have f1 := blk_free (o := 2) H13.out
  have RT := Lib.hid (rturn6_any w13 c11 32 Nc11.out (by decide))
  rw [← hc14] at RT
  have Nc14 : Hid (W64 c14) := by unfold Hid; rw [hc14]; exact rotN_lt Nc11.out _
  have Ec14 := Lib.hid hc14
  clear hc14
  go_wp2_with fail
  refine RT.out.mono ?_; rintro e w' ⟨rfl, rfl⟩
  go_wp2
  have H14 := Lib.hid (show (w13.setCell ⟨B, 2, none⟩ (.int .u64 (c14 : Nat))).heap[B]? = some (.cells #[.int .u64 (a8 : Nat), .int .u64 (b13 : Nat), .int .u64 (c14 : Nat), .int .u64 (d10 : Nat)] 99 (0, 0)) from blk_set (o := 2) (u := .int .u64 (c14 : Nat)) H13.out)
  have O14 := Lib.hid (O13.out.set 2 (.int .u64 (c14 : Nat)))
  clear c1 f1 RT
  generalize w13.setCell ⟨B, 2, none⟩ (.int .u64 (c14 : Nat)) = w14 at *
  have q0 : r0 ⟨a0, b0, c0, d0⟩ = ⟨a1, b0, c0, d0⟩ := by rw [Ea1.out]; rfl
  have q1 : r1 ⟨a1, b0, c0, d0⟩ = ⟨a1, b2, c0, d0⟩ := by rw [Eb2.out]; rfl
  have q2 : r2 ⟨a1, b2, c0, d0⟩ = ⟨a1, b3, c0, d0⟩ := by rw [Eb3.out]; rfl
  have q3 : r3 ⟨a1, b3, c0, d0⟩ = ⟨a4, b3, c0, d0⟩ := by rw [Ea4.out]; rfl
  have q4 : r4 ⟨a4, b3, c0, d0⟩ = ⟨a4, b3, c5, d0⟩ := by rw [Ec5.out]; rfl
  have q5 : r5 ⟨a4, b3, c5, d0⟩ = ⟨a4, b3, c5, d6⟩ := by rw [Ed6.out]; rfl
  have q6 : r6 ⟨a4, b3, c5, d6⟩ = ⟨a4, b3, c5, d7⟩ := by rw [Ed7.out]; rfl
  have q7 : r7 ⟨a4, b3, c5, d7⟩ = ⟨a8, b3, c5, d7⟩ := by rw [Ea8.out]; rfl
  have q8 : r8 ⟨a8, b3, c5, d7⟩ = ⟨a8, b3, c5, d9⟩ := by rw [Ed9.out]; rfl
  have q9 : r9 ⟨a8, b3, c5, d9⟩ = ⟨a8, b3, c5, d10⟩ := by rw [Ed10.out]; rfl
  have q10 : r10 ⟨a8, b3, c5, d10⟩ = ⟨a8, b3, c11, d10⟩ := by rw [Ec11.out]; rfl
  have q11 : r11 ⟨a8, b3, c11, d10⟩ = ⟨a8, b12, c11, d10⟩ := by rw [Eb12.out]; rfl
  have q12 : r12 ⟨a8, b12, c11, d10⟩ = ⟨a8, b13, c11, d10⟩ := by rw [Eb13.out]; rfl
  have q13 : r13 ⟨a8, b13, c11, d10⟩ = ⟨a8, b13, c14, d10⟩ := by rw [Ec14.out]; rfl
  have EQ : roundN ⟨a0, b0, c0, d0⟩ = ⟨a8, b13, c14, d10⟩ := by
    unfold roundN
    rw [q0, q1, q2, q3, q4, q5, q6, q7, q8, q9, q10, q11, q12, q13]
  clear q0 q1 q2 q3 q4 q5 q6 q7 q8 q9 q10 q11 q12 q13
  have F := Lib.hid (FIN.out _ (show StB _ B (roundN ⟨a0, b0, c0, d0⟩) from EQ ▸ H14.out) O14.out)
  clear EQ FIN
  go_end0
  exact F.out
end Go.Proofs.Ytfnidehbibfclaa
/- Layer 6 (mac), the document's own words of bytes. -/
namespace Go.Proofs.Ytfnidehbibfclaa
open Go.ChangeShapes Go.WideShapes Go.ChangeAt Go.RowKit OctM

theorem infoI_of {o : Option TypeInfo} {z : Option Value} {s b : Nat} (h : o.map (fun i => (i.zero, i.size, i.bytes)) = some (z, s, b)) : ∃ i, o = some i ∧ i.zero = z ∧ i.size = s ∧ i.bytes = b := by
  obtain ⟨i, hi, h⟩ := Option.map_eq_some_iff.1 h
  simp only [Prod.mk.injEq] at h
  exact ⟨i, hi, h.1, h.2.1, h.2.2⟩
theorem info64w : (Try.prog.info? 24).map (fun i => (i.zero, i.size, i.bytes)) = some (some (.int .u64 0), 1, 8) := by kernel_rfl

/-- Words so far, in a row of the call's own. -/
structure WordsRel (w wr : World) (v : Value) (ms : List Nat) : Prop where
  own : wr.ownsRow w.heap.size 24 1 v ms.length (valsN .u64 ms)
  low : Below w.heap.size w wr
theorem WordsRel.slice {w wr : World} {v : Value} {ms : List Nat} (h : WordsRel w wr v ms) : ∃ p c, v = .slice p ms.length c := by
  obtain ⟨p, c, e, -⟩ := own_holds h.own
  exact ⟨p, c, e⟩
def WordsP (w : World) (ms : List Nat) (e : Ending) (w' : World) : Prop := ∃ v, e = .returned v ∧ WordsRel w w' v ms

theorem WordsRel.next {w wr wm w3 : World} {v : Value} {ms : List Nat} {g cap x : Nat} (h : WordsRel w wr v ms) (hb : Below wr.heap.size wr wm) (o : w3.ownsRow w.heap.size 24 1 (.slice (some ⟨g, 0, none⟩) (ms.length + 1) cap) (ms.length + 1) (valsN .u64 ms ++ [.int .u64 (x : Nat)])) (gr : wm.grownBy w3 v.ownBlock) : WordsRel w w3 (.slice (some ⟨g, 0, none⟩) (ms.length + 1) cap) (ms ++ [x]) := by
  refine ⟨?_, (h.low.trans (hb.mono h.low.size)).grown gr (Nat.le_trans h.low.size hb.size) (fun j hj => (World.ownsRow.lt h.own j hj).1)⟩
  rw [List.length_append, valsN_append]
  exact o

theorem tail_holds {w : World} {p : Option Addr} {m c k : Nat} {ds : List Nat} (h : Holds w p m c (valsN .u8 ds)) (hk : k ≤ m) : Holds w (if c = k then p else p.map (·.add (k * 1))) (m - k) (c - k) (valsN .u8 (ds.drop k)) := by
  have a := h.piece k m hk (Nat.le_refl _)
  have l := h.len
  unfold valsN at a l ⊢
  rw [List.length_map] at l
  rw [List.map_drop]
  rwa [List.take_of_length_le (by rw [List.length_drop, List.length_map]; omega)] at a

set_option maxRecDepth 100000 in
set_option maxHeartbeats 8000000 in
theorem rwords6_any (w : World) (p : Option Addr) (n c : Nat) (ds : List Nat) (hd : Holds w p n c (valsN .u8 ds)) (hy : Byt ds) (hn : n ≤ 2000000) :
    Calls Try.prog 66 #[.slice p n c] w (WordsP w (wordsN ds)) := by
  obtain ⟨i0, hi, hz0, hz1, hz2⟩ := infoI_of info64w
  have ln : ds.length = n := by have := hd.len; rwa [valsN_len] at this
  have nb : (n : Int) ≤ 2000000 := by omega
  have cn := hd.cap
  have cN : (n : Int) ≤ (c : Int) := by omega
  have HD := Lib.hid hd
  have HY := Lib.hid hy
  have LN := Lib.hid ln
  have HN := Lib.hid hn
  have CN := Lib.hid cn
  obtain ⟨r, hr⟩ : ∃ r, r = n % 256 := ⟨_, rfl⟩
  obtain ⟨m, hm⟩ : ∃ m, m = r * 72057594037927936 := ⟨_, rfl⟩
  have e1 : (n : Int) % 256 = (r : Int) := by omega
  have e1' : (n : Int).tmod 256 = (r : Int) := by rw [Int.tmod_eq_emod_of_nonneg (by omega)]; exact e1
  have e2 : (r : Int) * 72057594037927936 = (m : Int) := by omega
  have u1 : IntKind.u64.wrap (r : Int) = (r : Int) := by rw [IntKind.wrap_u64]; omega
  have u2 : IntKind.u64.wrap (m : Int) = (m : Int) := by rw [IntKind.wrap_u64]; omega
  have u3 : IntKind.i64.wrap (r : Int) = (r : Int) := by rw [IntKind.wrap_i64]; omega
  have rb : r ≤ 255 := by omega
  have MB : Hid (m ≤ 18374686479671623680) := by unfold Hid; rw [hm]; omega
  have HM : Hid (m = n % 256 * 72057594037927936) := by unfold Hid; rw [hm, hr]
  clear hd hy hn ln cn hr hm
  go_enter Try.func66, Try.ntmps66
  go_wp2_with fail
  go_loopw [3, 4] (fun v i wr => ∃ k q : Nat, i = .int .i64 q ∧ Hid (q = 8 * k) ∧ Hid (k ≤ n / 8) ∧ Hid (WordsRel w wr v (fullN ds k))) (fun _ i _ => 4000000 - (intOf i).toNat)
  case atStart => exact ⟨0, 0, rfl, rfl, Nat.zero_le _, ⟨World.ownsRow_nil w _ _ 1, Below.refl _ _⟩⟩
  case round =>
    obtain ⟨k, q, rfl, hq, hk, h⟩ := hrel
    have qb : (q : Int) ≤ 2000000 := by have := hq.out; have := hk.out; have := HN.out; omega
    obtain ⟨s, hs⟩ : ∃ s, s = q + 8 := ⟨_, rfl⟩
    have s1 : (q : Int) + 8 = (s : Int) := by omega
    have s2 : IntKind.i64.wrap (s : Int) = (s : Int) := by rw [IntKind.wrap_i64]; omega
    obtain ⟨pv, cv, rfl⟩ := h.out.slice
    have lk : (fullN ds k).length = k := by unfold fullN; rw [List.length_map, List.length_range]
    by_cases g : s ≤ n
    · have g' : (s : Int) ≤ (n : Int) := by omega
      have kn : k + 1 ≤ n / 8 := by have := hq.out; omega
      obtain ⟨a, rfl, -⟩ := HD.out.atN (i := q) (by omega)
      have d3 : (q : Int) ≤ (s : Int) := by omega
      have d5 : (s : Int) ≤ (c : Int) := by omega
      have d6 : ¬ c = q := by omega
      have sq : s - q = 8 := by omega
      obtain ⟨x, hx⟩ : ∃ x, x = leN ((ds.drop q).take 8) := ⟨_, rfl⟩
      have PC := (HD.out.below h.out.low).piece q s (by omega) g
      rw [sq, if_neg d6] at PC
      have PN : Holds wr (some (a.add q)) 8 (c - q) (valsN .u8 ((ds.drop q).take 8)) := by
        have PC' : Holds wr (some (a.add (q * 1))) 8 (c - q) (((valsN .u8 ds).drop q).take 8) := PC
        rw [Nat.mul_one] at PC'
        unfold valsN at PC' ⊢
        rw [List.map_take, List.map_drop]
        exact PC'
      have RW := rword6_any wr (some (a.add q)) 8 (c - q) _ PN (byt_take (byt_drop HY.out _) _) (Nat.le_refl _)
      rw [← hx] at RW
      replace RW := Lib.hid RW
      have ms' : Hid (fullN ds k ++ [x] = fullN ds (k + 1)) := by unfold Hid; rw [fullN_succ, ← hq.out, hx]
      have OW := Lib.hid h.out.own
      have REL := Lib.hid h.out
      have BM : Hid ((fullN ds k).length + 1 ≤ maxLen) := by unfold Hid maxLen; rw [lk]; have := HN.out; omega
      have BY : Hid (((fullN ds k).length + 1) * 8 ≤ 140737488355328) := by unfold Hid; rw [lk]; have := HN.out; omega
      have KN := Lib.hid kn
      have QS : Hid (s = 8 * (k + 1)) := by unfold Hid; have := hq.out; omega
      have SZ : Hid (w.heap.size ≤ (wr.alloc (.cells #[.int .u64 (x : Nat)] 24)).heap.size) := by unfold Hid; rw [World.size_alloc]; exact Nat.le_succ_of_le h.out.low.size
      have ONE : Hid (∀ u ∈ ([.int .u64 (x : Nat)] : List Value), u.oneCell' = true) := by
        intro u hu
        obtain rfl : u = .int .u64 (x : Nat) := by simpa using hu
        rfl
      have QN : Hid (q < 4000000) := by unfold Hid; omega
      have SQ : Hid (q < s) := by unfold Hid; omega
      clear hq hk h lk g kn hx PC PN hs
      go_wp2_with fail
      refine RW.out.mono ?_; rintro e w' ⟨rfl, rfl⟩
      go_wp2_with (at_builtin; refine wpList_append_lies _ rfl _ _ _ rfl w.heap.size 24 i0 (.int .u64 0) 1 8 Try.underlying86 hi hz0 hz1 hz2 rfl (by omega) (.slice pv (fullN ds k).length cv) (fullN ds k).length (valsN .u64 (fullN ds k)) rfl (own_keep OW.out ((Below.refl _ _).alloc (Nat.le_refl _) _)) ⟨wr.heap.size, 0, none⟩ 1 1 [.int .u64 (x : Nat)] rfl rfl (World.news_of_block (heap_alloc_new wr _)) ONE.out (by omega) BM.out BY.out SZ.out _ rfl ?_)
      intro gg cap w3 o3 g3 _ _
      have NX := REL.out.next (x := x) ((Below.refl wr.heap.size wr).alloc (Nat.le_refl _) (.cells #[.int .u64 (x : Nat)] 24)) o3 g3
      rw [ms'.out] at NX
      replace NX := Lib.hid NX
      clear o3 g3
      go_wp2
      go_roundw
      case rel => exact ⟨k + 1, s, by go_num, QS, KN, NX⟩
      case measure => simp [intOf]; have := QN.out; have := SQ.out; omega
    · have g' : (n : Int) < (s : Int) := by omega
      have ek : k = n / 8 := by have := hq.out; have := hk.out; omega
      have qn : q ≤ n := by have := hq.out; omega
      have q7 : n - q ≤ 7 := by have := hq.out; omega
      have d3 : (q : Int) ≤ (n : Int) := by omega
      have d4 : (q : Int) ≤ (c : Int) := by omega
      obtain ⟨x, hx⟩ : ∃ x, x = leN (ds.drop q) := ⟨_, rfl⟩
      have xb : x < 72057594037927936 := by rw [hx]; exact leN_seven (byt_drop HY.out _) (by rw [List.length_drop, LN.out]; exact q7)
      obtain ⟨y, hy⟩ : ∃ y, y = x + m := ⟨_, rfl⟩
      have e3 : (x : Int) + (m : Int) = (y : Int) := by omega
      have u4 : IntKind.u64.wrap (y : Int) = (y : Int) := by rw [IntKind.wrap_u64]; have := MB.out; omega
      have LAST : Hid (fullN ds k ++ [y] = wordsN ds) := by
        unfold Hid wordsN lastN
        rw [LN.out, ← ek, ← hq.out, ← hx, hy, HM.out]
      have TH := tail_holds (HD.out.below h.out.low) qn
      have OW := Lib.hid h.out.own
      have REL := Lib.hid h.out
      have BM : Hid ((fullN ds k).length + 1 ≤ maxLen) := by unfold Hid maxLen; rw [lk]; have := HN.out; omega
      have BY : Hid (((fullN ds k).length + 1) * 8 ≤ 140737488355328) := by unfold Hid; rw [lk]; have := HN.out; omega
      have SZ : Hid (w.heap.size ≤ (wr.alloc (.cells #[.int .u64 (y : Nat)] 24)).heap.size) := by unfold Hid; rw [World.size_alloc]; exact Nat.le_succ_of_le h.out.low.size
      have ONE : Hid (∀ u ∈ ([.int .u64 (y : Nat)] : List Value), u.oneCell' = true) := by
        intro u hu
        obtain rfl : u = .int .u64 (y : Nat) := by simpa using hu
        rfl
      have RW := fun pq (hp : (if c = q then p else p.map (·.add (q * 1))) = pq) => rword6_any wr pq (n - q) (c - q) (ds.drop q) (hp ▸ TH) (byt_drop HY.out _) (by omega)
      rw [← hx] at RW
      replace RW := Lib.hid RW
      clear hq hk h lk g hx hs xb hy ek qn q7 TH
      rcases p with _ | a
      all_goals
        first
          | (obtain ⟨pq, hpq⟩ : ∃ pq : Option Addr, (if c = q then some a else some (a.add q)) = pq := ⟨_, rfl⟩
             have RQ := Lib.hid (RW.out pq (by rw [Nat.mul_one, Option.map_some]; exact hpq)))
          | (have RQ := Lib.hid (RW.out none (by simp)))
        clear RW
        go_wp2_with fail
        refine RQ.out.mono ?_; rintro e w' ⟨rfl, rfl⟩
        go_wp2_with (at_builtin; refine wpList_append_lies _ rfl _ _ _ rfl w.heap.size 24 i0 (.int .u64 0) 1 8 Try.underlying86 hi hz0 hz1 hz2 rfl (by omega) (.slice pv (fullN ds k).length cv) (fullN ds k).length (valsN .u64 (fullN ds k)) rfl (own_keep OW.out ((Below.refl _ _).alloc (Nat.le_refl _) _)) ⟨wr.heap.size, 0, none⟩ 1 1 [.int .u64 (y : Nat)] rfl rfl (World.news_of_block (heap_alloc_new wr _)) ONE.out (by omega) BM.out BY.out SZ.out _ rfl ?_)
        intro gg cap w3 o3 g3 _ _
        have NX := REL.out.next (x := y) ((Below.refl wr.heap.size wr).alloc (Nat.le_refl _) (.cells #[.int .u64 (y : Nat)] 24)) o3 g3
        rw [LAST.out] at NX
        have FIN : Hid (WordsP w (wordsN ds) (.returned (.slice (some ⟨gg, 0, none⟩) ((fullN ds k).length + 1) cap)) w3) := ⟨_, rfl, NX⟩
        clear o3 g3 NX
        go_wp2
        go_ret
        exact FIN.out
end Go.Proofs.Ytfnidehbibfclaa
/- Layer 6 (mac), the document's own tag. -/
namespace Go.Proofs.Ytfnidehbibfclaa
open Go.ChangeShapes Go.WideShapes Go.ChangeAt Go.RowKit OctM

def roundsK (s : St) : Nat → St
  | 0 => s
  | k + 1 => roundN (roundsK s k)
theorem roundsK_ok {s : St} (h : s.ok) : ∀ k, (roundsK s k).ok
  | 0 => h
  | k + 1 => round_ok (roundsK_ok h k)
/-- A row that lies in another block is as it was. -/
theorem holds_only {B : Nat} {W W' : World} {p : Option Addr} {n c : Nat} {vs : List Value} (h : Holds W p n c vs) (o : OnlyB B W W') (ap : ∀ a, p = some a → a.block ≠ B) : Holds W' p n c vs := by
  refine ⟨h.len, h.cap, h.max, h.bare, fun i u hu => ?_⟩
  obtain ⟨a, ha, hc⟩ := h.cell i u hu
  refine ⟨a, ha, (World.cell?_of_block ?_).trans hc⟩
  rw [add_block]
  exact o.keep _ (ap a ha)
theorem sip_take {A B : Nat} {ms : List Nat} {k : Nat} (h : k < ms.length) : sipS A B (ms.take (k + 1)) = takeS (sipS A B (ms.take k)) (ms.getD k 0) := by
  rw [List.take_succ_eq_append_getElem h, sip_snoc, List.getD_eq_getElem?_getD, List.getElem?_eq_getElem h]
  rfl

set_option maxRecDepth 100000 in
set_option maxHeartbeats 16000000 in
theorem rtag6_any (w : World) (id : Int) (A B : Nat) (hA : W64 A) (hB : W64 B) (p : Option Addr) (n c : Nat) (ds : List Nat) (hd : Holds w p n c (valsN .u8 ds)) (hy : Byt ds) (hn : n ≤ 2000000) :
    Calls Try.prog 37 #[.agg #[.int .u32 id, .int .u64 (A : Nat), .int .u64 (B : Nat)], .slice p n c] w fun e w' => e = .returned (.int .u64 (tagN A B ds : Nat)) ∧ Below w.heap.size w w' := by
  have ln : ds.length = n := by have := hd.len; rwa [valsN_len] at this
  obtain ⟨ms, hms⟩ : ∃ ms, ms = wordsN ds := ⟨_, rfl⟩
  have OKM : Hid (∀ m ∈ ms, W64 m) := by unfold Hid; rw [hms]; exact words_w64 hy
  obtain ⟨N, hN⟩ : ∃ N, N = ms.length := ⟨_, rfl⟩
  have NB : Hid (N ≤ 2000000) := by
    unfold Hid
    rw [hN, hms]
    unfold wordsN fullN
    rw [List.length_append, List.length_map, List.length_range, ln]
    simp only [List.length_cons, List.length_nil]
    omega
  have nb : (N : Int) ≤ 2000000 := by have := NB.out; omega
  obtain ⟨x0, hx0⟩ : ∃ x, x = A ^^^ 8317987319222330741 := ⟨_, rfl⟩
  obtain ⟨x1, hx1⟩ : ∃ x, x = B ^^^ 7237128888997146477 := ⟨_, rfl⟩
  obtain ⟨x2, hx2⟩ : ∃ x, x = A ^^^ 7816392313619706465 := ⟨_, rfl⟩
  obtain ⟨x3, hx3⟩ : ∃ x, x = B ^^^ 8387220255154660723 := ⟨_, rfl⟩
  have e0 : bits .xor .u64 (A : Int) 8317987319222330741 = (x0 : Int) := by rw [hx0]; exact bits_xor_u64_nat _ 8317987319222330741 hA (by decide)
  have e1 : bits .xor .u64 (B : Int) 7237128888997146477 = (x1 : Int) := by rw [hx1]; exact bits_xor_u64_nat _ 7237128888997146477 hB (by decide)
  have e2 : bits .xor .u64 (A : Int) 7816392313619706465 = (x2 : Int) := by rw [hx2]; exact bits_xor_u64_nat _ 7816392313619706465 hA (by decide)
  have e3 : bits .xor .u64 (B : Int) 8387220255154660723 = (x3 : Int) := by rw [hx3]; exact bits_xor_u64_nat _ 8387220255154660723 hB (by decide)
  have IS : Hid (initS A B = ⟨x0, x1, x2, x3⟩) := by unfold Hid initS; rw [hx0, hx1, hx2, hx3]
  have OKS : Hid (∀ k, (sipS A B (ms.take k)).ok) := fun k => sip_ok hA hB fun m hm => OKM.out m (List.mem_of_mem_take hm)
  have TG : Hid (tagN A B ds = endN (fourN (inC (sipS A B ms)))) := by unfold Hid tagN; rw [hms]
  have B1 : ((w.alloc (.cells #[.int .u32 id, .int .u64 (A : Nat), .int .u64 (B : Nat)] 29)).alloc (.cells #[.int .u64 (x0 : Nat), .int .u64 (x1 : Nat), .int .u64 (x2 : Nat), .int .u64 (x3 : Nat)] 99)).heap[w.heap.size + 1]? = some (.cells #[.int .u64 (x0 : Nat), .int .u64 (x1 : Nat), .int .u64 (x2 : Nat), .int .u64 (x3 : Nat)] 99 (0, 0)) := heap_alloc2_new _ _ _
  have LB : Below w.heap.size w ((w.alloc (.cells #[.int .u32 id, .int .u64 (A : Nat), .int .u64 (B : Nat)] 29)).alloc (.cells #[.int .u64 (x0 : Nat), .int .u64 (x1 : Nat), .int .u64 (x2 : Nat), .int .u64 (x3 : Nat)] 99)) := ((Below.refl _ _).alloc (Nat.le_refl _) _).alloc (by simp) _
  have SB : Hid (((w.alloc (.cells #[.int .u32 id, .int .u64 (A : Nat), .int .u64 (B : Nat)] 29)).alloc (.cells #[.int .u64 (x0 : Nat), .int .u64 (x1 : Nat), .int .u64 (x2 : Nat), .int .u64 (x3 : Nat)] 99)).heap.size = w.heap.size + 2) := by unfold Hid; simp
  have RW := rwords6_any _ p n c ds (hd.below LB) hy hn
  rw [← hms] at RW
  replace RW := Lib.hid RW
  have HB1 := Lib.hid B1
  have HLB := Lib.hid LB
  have HN := Lib.hid hN
  clear hA hB hd hy hn ln hms hx0 hx1 hx2 hx3 B1 LB hN
  go_enter Try.func37, Try.ntmps37
  go_wp2_with fail
  generalize ((w.alloc (.cells #[.int .u32 id, .int .u64 (A : Nat), .int .u64 (B : Nat)] 29)).alloc (.cells #[.int .u64 (x0 : Nat), .int .u64 (x1 : Nat), .int .u64 (x2 : Nat), .int .u64 (x3 : Nat)] 99)) = wa at *
  refine RW.out.mono ?_; rintro e w3 ⟨v3, rfl, hw3⟩
  obtain ⟨p3, c3, rfl, hm3⟩ := own_holds hw3.own
  have HM3 := hm3
  rw [← HN.out] at HM3 ⊢
  have ST3 : Hid (StB w3 (w.heap.size + 1) (sipS A B (ms.take 0))) := by
    show w3.heap[w.heap.size + 1]? = _
    rw [hw3.low.block _ (by rw [SB.out]; omega), HB1.out]
    rw [show sipS A B (ms.take 0) = initS A B from rfl, IS.out]
  have AP3 : Hid (∀ a, p3 = some a → a.block ≠ w.heap.size + 1) := fun a ha e => by
    subst ha
    have := (World.ownsRow.lt hw3.own a.block rfl).1
    rw [SB.out] at this
    omega
  have LW3 : Hid (Below w.heap.size w w3) := HLB.out.trans (hw3.low.mono HLB.out.size)
  replace HM3 := Lib.hid HM3
  clear hw3 hm3 HLB HB1 RW
  obtain ⟨K, hK⟩ : ∃ K, K = w.heap.size + 1 := ⟨_, rfl⟩
  have KW : Hid (w.heap.size ≤ K) := by unfold Hid; omega
  rw [← hK] at ST3 AP3 ⊢
  clear hK
  go_wp2_with fail
  go_loopw [7] (fun i wr => ∃ k : Nat, i = .int .i64 k ∧ Hid (k ≤ N) ∧ Hid (StB wr K (sipS A B (ms.take k))) ∧ Hid (OnlyB K w3 wr)) (fun i _ => 4000000 - (intOf i).toNat)
  case atStart => exact ⟨0, rfl, Nat.zero_le _, ST3, OnlyB.refl _ _⟩
  case round =>
    obtain ⟨k, rfl, hk, hst, hon⟩ := hrel
    have kb : (k : Int) ≤ 2000000 := by have := hk.out; have := NB.out; omega
    have ok := OKS.out k
    by_cases g : k < N
    · have g' : (k : Int) < (N : Int) := by omega
      have G : Hid (k + 1 ≤ N) := g
      obtain ⟨m, hm⟩ : ∃ m, m = ms.getD k 0 := ⟨_, rfl⟩
      have RC : Hid (∀ w', OnlyB K w3 w' → ∃ a, p3 = some a ∧ w'.cell? (a.add k) = some (.int .u64 (m : Nat))) := fun w' o => by
        rw [hm]
        exact (holds_only HM3.out o AP3.out).atN g
      have WM : Hid (W64 m) := by
        unfold Hid
        rw [hm, List.getD_eq_getElem?_getD, List.getElem?_eq_getElem (by rw [← HN.out]; exact g)]
        exact OKM.out _ (List.getElem_mem _)
      have NXT : Hid (sipS A B (ms.take (k + 1)) = inA (roundN (roundN (inD (sipS A B (ms.take k)) m))) m) := by
        unfold Hid
        rw [sip_take (by rw [← HN.out]; exact g), ← hm]
        rfl
      generalize sipS A B (ms.take k) = s at *
      obtain ⟨a, b, c, d⟩ := s
      obtain ⟨wa', wb', wc', wd'⟩ := ok
      simp only at wa' wb' wc' wd'
      have h0 : wr.heap[K]? = some (.cells #[.int .u64 (a : Nat), .int .u64 (b : Nat), .int .u64 (c : Nat), .int .u64 (d : Nat)] 99 (0, 0)) := hst.out
      obtain ⟨d1, hd1⟩ : ∃ x, x = d ^^^ m := ⟨_, rfl⟩
      have ev : bits .xor .u64 (d : Int) (m : Int) = (d1 : Int) := by rw [hd1]; exact bits_xor_u64_nat _ _ wd' WM.out
      have S1 : Hid (inD ⟨a, b, c, d⟩ m = ⟨a, b, c, d1⟩) := by unfold Hid; rw [hd1]; rfl
      have OK1 : Hid (St.ok ⟨a, b, c, d1⟩) := ⟨wa', wb', wc', by rw [hd1]; exact xor_lt wd' WM.out⟩
      have H0 := Lib.hid h0
      have c1 := blk_cell (o := 3) H0.out
      obtain ⟨ra, er, rc⟩ := RC.out wr hon.out
      subst er
      clear hk hst g hm wa' wb' wc' wd' h0 hd1
      go_wp2_with fail
      go_still_tail 12, (by kernel_rfl)
      change wpList _ _ _ _ _ wr.drew
      have G0 := Lib.hid (show wr.drew.heap[K]? = _ from H0.out)
      have Q0 := Lib.hid hon.out.drew
      clear c1 rc
      have c1 := blk_cell (o := 3) G0.out
      have f1 := blk_free (o := 3) G0.out
      generalize wr.drew = v0 at *
      go_wp2_with fail
      have H1 := Lib.hid (show StB (v0.setCell ⟨K, 3, none⟩ (.int .u64 (d1 : Nat))) K ⟨a, b, c, d1⟩ from blk_set (o := 3) (u := .int .u64 (d1 : Nat)) G0.out)
      have O1 := Lib.hid (Q0.out.set 3 (.int .u64 (d1 : Nat)))
      clear c1 f1 ev
      generalize v0.setCell ⟨K, 3, none⟩ (.int .u64 (d1 : Nat)) = v1 at *
      refine (rround6_any v1 K _ OK1.out H1.out).mono ?_; rintro e v2 ⟨rfl, st2, on2⟩
      have ST2 := Lib.hid st2
      have O2 := Lib.hid (O1.out.trans on2)
      clear st2 on2
      go_wp2_with fail
      refine (rround6_any v2 K _ (round_ok OK1.out) ST2.out).mono ?_; rintro e v3 ⟨rfl, st3, on3⟩
      have O3 := Lib.hid (O2.out.trans on3)
      have ok3 := round_ok (round_ok OK1.out)
      rw [← S1.out] at st3 ok3
      generalize roundN (roundN (inD ⟨a, b, c, d⟩ m)) = s3 at *
      obtain ⟨a3, b3, c3', d3⟩ := s3
      have H3 : Hid (v3.heap[K]? = some (.cells #[.int .u64 (a3 : Nat), .int .u64 (b3 : Nat), .int .u64 (c3' : Nat), .int .u64 (d3 : Nat)] 99 (0, 0))) := st3
      obtain ⟨a4, ha4⟩ : ∃ x, x = a3 ^^^ m := ⟨_, rfl⟩
      have ev : bits .xor .u64 (a3 : Int) (m : Int) = (a4 : Int) := by rw [ha4]; exact bits_xor_u64_nat _ _ ok3.a WM.out
      have S4 : Hid (sipS A B (ms.take (k + 1)) = ⟨a4, b3, c3', d3⟩) := by unfold Hid; rw [NXT.out, ha4]; rfl
      obtain ⟨ra', er', rc⟩ := RC.out v3 O3.out
      cases er'
      have c1 := blk_cell (o := 0) H3.out
      clear st3 on3 ok3 ha4 NXT S1 ST2
      go_wp2_with fail
      go_still_tail 12, (by kernel_rfl)
      change wpList _ _ _ _ _ v3.drew
      have G3 := Lib.hid (show v3.drew.heap[K]? = _ from H3.out)
      have Q3 := Lib.hid O3.out.drew
      clear c1 rc
      have c1 := blk_cell (o := 0) G3.out
      have f1 := blk_free (o := 0) G3.out
      generalize v3.drew = v4 at *
      have H4 := Lib.hid (show StB (v4.setCell ⟨K, 0, none⟩ (.int .u64 (a4 : Nat))) K ⟨a4, b3, c3', d3⟩ from blk_set (o := 0) (u := .int .u64 (a4 : Nat)) G3.out)
      have O4 := Lib.hid (Q3.out.set 0 (.int .u64 (a4 : Nat)))
      rw [← S4.out] at H4
      go_wp2
      go_roundw
      case rel => exact ⟨k + 1, by go_num, G, H4, O4⟩
      case measure => simp [intOf]; omega
    · have g' : (N : Int) ≤ (k : Int) := by omega
      have gk : Hid (decide (k < N) = false) := decide_eq_false g
      have ek : ms.take k = ms := List.take_of_length_le (by rw [← HN.out]; omega)
      rw [ek] at hst ok
      have okc := inC_ok ok
      generalize sipS A B ms = s at *
      obtain ⟨a, b, c, d⟩ := s
      have h0 : wr.heap[K]? = some (.cells #[.int .u64 (a : Nat), .int .u64 (b : Nat), .int .u64 (c : Nat), .int .u64 (d : Nat)] 99 (0, 0)) := hst.out
      have H0 := Lib.hid h0
      have O0 := Lib.hid hon.out
      obtain ⟨c1', hc1⟩ : ∃ x, x = c ^^^ 255 := ⟨_, rfl⟩
      have ev : bits .xor .u64 (c : Int) 255 = (c1' : Int) := by rw [hc1]; exact bits_xor_u64_nat _ 255 ok.c (by decide)
      have S1 : Hid (inC ⟨a, b, c, d⟩ = ⟨a, b, c1', d⟩) := by unfold Hid; rw [hc1]; rfl
      have q1 := blk_cell (o := 2) H0.out
      have f1 := blk_free (o := 2) H0.out
      have OKC := Lib.hid okc
      clear hk hst hon g ek ok h0 hc1 okc
      go_wp2_with fail
      have H1 := Lib.hid (show StB (wr.setCell ⟨K, 2, none⟩ (.int .u64 (c1' : Nat))) K ⟨a, b, c1', d⟩ from blk_set (o := 2) (u := .int .u64 (c1' : Nat)) H0.out)
      have O1 := Lib.hid (O0.out.set 2 (.int .u64 (c1' : Nat)))
      rw [← S1.out] at H1
      generalize inC ⟨a, b, c, d⟩ = s1 at *
      clear q1 f1 ev
      generalize wr.setCell ⟨K, 2, none⟩ (.int .u64 (c1' : Nat)) = u1 at *
      simp only [gk.out]
      go_loopw [8] (fun i wr => ∃ k : Nat, i = .int .i64 k ∧ Hid (k ≤ 4) ∧ Hid (StB wr K (roundsK s1 k)) ∧ Hid (OnlyB K w3 wr)) (fun i _ => 100 - (intOf i).toNat)
      case atStart => exact ⟨0, rfl, Nat.zero_le _, H1, O1⟩
      case round =>
        obtain ⟨j, rfl, hj, hst, hon⟩ := hrel
        have j4 : (j : Int) ≤ 4 := by have := hj.out; omega
        by_cases g : j < 4
        · have g' : (j : Int) < 4 := by omega
          have G : Hid (j + 1 ≤ 4) := g
          have RR := Lib.hid (rround6_any _ K _ (roundsK_ok OKC.out j) hst.out)
          have ON := Lib.hid hon.out
          clear hj hst hon g
          go_wp2_with fail
          refine RR.out.mono ?_; rintro e z1 ⟨rfl, st, on⟩
          have ST : Hid (StB z1 K (roundsK s1 (j + 1))) := st
          have OZ := Lib.hid (ON.out.trans on)
          clear st on RR
          go_wp2
          go_roundw
          case rel => exact ⟨j + 1, by go_num, G, ST, OZ⟩
          case measure => simp [intOf]; omega
        · have g' : (4 : Int) ≤ (j : Int) := by omega
          obtain rfl : j = 4 := by have := hj.out; omega
          have okf := four_ok OKC.out
          have hst' := hst.out
          rw [show roundsK s1 4 = fourN s1 from rfl] at hst'
          generalize fourN s1 = s at *
          obtain ⟨a, b, c, d⟩ := s
          have h0 : StB _ K ⟨a, b, c, d⟩ := hst'
          unfold StB at h0
          have H0 := Lib.hid h0
          obtain ⟨y1, hy1⟩ : ∃ x, x = a ^^^ b := ⟨_, rfl⟩
          obtain ⟨y2, hy2⟩ : ∃ x, x = y1 ^^^ c := ⟨_, rfl⟩
          obtain ⟨y3, hy3⟩ : ∃ x, x = y2 ^^^ d := ⟨_, rfl⟩
          have f1 : bits .xor .u64 (a : Int) (b : Int) = (y1 : Int) := by rw [hy1]; exact bits_xor_u64_nat _ _ okf.a okf.b
          have wy1 : W64 y1 := by rw [hy1]; exact xor_lt okf.a okf.b
          have f2 : bits .xor .u64 (y1 : Int) (c : Int) = (y2 : Int) := by rw [hy2]; exact bits_xor_u64_nat _ _ wy1 okf.c
          have wy2 : W64 y2 := by rw [hy2]; exact xor_lt wy1 okf.c
          have f3 : bits .xor .u64 (y2 : Int) (d : Int) = (y3 : Int) := by rw [hy3]; exact bits_xor_u64_nat _ _ wy2 okf.d
          have TG' : Hid ((y3 : Nat) = tagN A B ds) := by
            unfold Hid
            rw [TG.out, hy3, hy2, hy1]
            rfl
          have k0 := blk_cell (o := 0) H0.out
          have k1 := blk_cell (o := 1) H0.out
          have k2 := blk_cell (o := 2) H0.out
          have k3 := blk_cell (o := 3) H0.out
          have FW := LW3.out.trans (hon.out.low w.heap.size KW.out)
          clear hj hst hon g hst' h0 okf hy1 hy2 hy3 wy1 wy2
          go_wp2_with fail
          go_quiet (fail)
          go_wp2
          go_ret
          exact ⟨ret_int (by rw [TG'.out]), below_drewN FW _⟩
end Go.Proofs.Ytfnidehbibfclaa
