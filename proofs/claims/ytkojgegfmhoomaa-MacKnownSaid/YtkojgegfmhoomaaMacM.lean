/- Layer 6 (mac): tags as functions of numbers and lists: the document's chapter. -/
import Derived.Test.YtkojgegfmhoomaaRow
import Derived.Test.YtkojgegfmhoomaaOctM
import Derived.Laws.Bits64
namespace Go.Proofs.Ytkojgegfmhoomaa
open Go.ChangeShapes Go.WideShapes Go.ChangeAt Go.RowKit OctM

def W64 (x : Nat) : Prop := x < 18446744073709551616
instance (x : Nat) : Decidable (W64 x) := by unfold W64; exact inferInstance
/-- a number turned round by one bit. -/
def rot1 (x : Nat) : Nat := 2 * x % 18446744073709551616 + x / 9223372036854775808
def rotN (x : Nat) : Nat → Nat
  | 0 => x
  | n + 1 => rot1 (rotN x n)
theorem rot1_lt {x : Nat} (h : W64 x) : W64 (rot1 x) := by
  unfold W64 rot1 at *
  omega
theorem rotN_lt {x : Nat} (h : W64 x) : ∀ n, W64 (rotN x n)
  | 0 => h
  | n + 1 => rot1_lt (rotN_lt h n)
/-- ... in one step: the bits that fall out come in below. -/
theorem rotN_eq {x : Nat} (h : W64 x) : ∀ n, n ≤ 64 → rotN x n = x * 2 ^ n % 18446744073709551616 + x / 2 ^ (64 - n)
  | 0, _ => by
    unfold W64 at h
    show x = x * 1 % 18446744073709551616 + x / 18446744073709551616
    omega
  | n + 1, hn => by
    have ih := rotN_eq h n (by omega)
    have lt := rotN_lt h n
    show rot1 (rotN x n) = _
    obtain ⟨k, hk⟩ : ∃ k, 64 - n = k + 1 := ⟨63 - n, by omega⟩
    have hk' : 64 - (n + 1) = k := by omega
    rw [hk] at ih
    rw [hk']
    obtain ⟨P, hP⟩ : ∃ P, P = 2 ^ n := ⟨_, rfl⟩
    obtain ⟨Q, hQ⟩ : ∃ Q, Q = 2 ^ k := ⟨_, rfl⟩
    have PQ : P * Q * 2 = 18446744073709551616 := by
      rw [hP, hQ, ← Nat.pow_add, ← Nat.pow_succ, show (n + k).succ = 64 by omega]
    rw [Nat.pow_succ, ← hP, ← hQ]
    rw [← hP, Nat.pow_succ, ← hQ] at ih
    have Q0 : 0 < Q := by rw [hQ]; exact Nat.pos_of_ne_zero (by simp)
    have P0 : 0 < P := by rw [hP]; exact Nat.pos_of_ne_zero (by simp)
    -- x = u * (Q * 2) + v * Q + w, with v the bit that falls out next
    obtain ⟨u, hu⟩ : ∃ u, u = x / (Q * 2) := ⟨_, rfl⟩
    obtain ⟨r, hr⟩ : ∃ r, r = x % (Q * 2) := ⟨_, rfl⟩
    have hx : x = Q * 2 * u + r := by rw [hu, hr]; exact (Nat.div_add_mod x (Q * 2)).symm
    have r1 : r < Q * 2 := by rw [hr]; exact Nat.mod_lt _ (by omega)
    have u1 : u < P := by
      unfold W64 at h
      rcases Nat.lt_or_ge u P with g | g
      · exact g
      · have := Nat.mul_le_mul_left (Q * 2) g
        have e : Q * 2 * P = 18446744073709551616 := by rw [← PQ, Nat.mul_comm (Q * 2) P, Nat.mul_assoc]
        omega
    have m1 : x * P % 18446744073709551616 = r * P := by
      have e : x * P = r * P + 18446744073709551616 * u := by
        rw [hx, Nat.add_mul, Nat.add_comm]
        congr 1
        have : Q * 2 * u * P = (P * Q * 2) * u := by
          rw [Nat.mul_right_comm, Nat.mul_comm (Q * 2) P, ← Nat.mul_assoc]
        rw [this, PQ]
      rw [e, Nat.add_mul_mod_self_left]
      have := Nat.mul_lt_mul_of_pos_right r1 P0
      have e2 : Q * 2 * P = 18446744073709551616 := by rw [Nat.mul_comm (Q * 2) P, ← Nat.mul_assoc, PQ]
      exact Nat.mod_eq_of_lt (by omega)
    rw [m1, ← hu] at ih
    obtain ⟨v, hv⟩ : ∃ v, v = r / Q := ⟨_, rfl⟩
    obtain ⟨t, ht⟩ : ∃ t, t = r % Q := ⟨_, rfl⟩
    have hrr : r = Q * v + t := by rw [hv, ht]; exact (Nat.div_add_mod r Q).symm
    have t1 : t < Q := by rw [ht]; exact Nat.mod_lt _ Q0
    have v1 : v < 2 := by rw [hv]; exact (Nat.div_lt_iff_lt_mul Q0).2 (by omega)
    have d1 : x / Q = 2 * u + v := by
      have : x = t + Q * (2 * u + v) := by rw [hx, hrr, Nat.mul_add, ← Nat.mul_assoc]; omega
      rw [this, Nat.add_mul_div_left _ _ Q0, Nat.div_eq_of_lt t1, Nat.zero_add]
    have m2 : x * (P * 2) % 18446744073709551616 = t * P * 2 := by
      have e : x * (P * 2) = t * P * 2 + 18446744073709551616 * (2 * u + v) := by
        have : x = t + Q * (2 * u + v) := by rw [hx, hrr, Nat.mul_add, ← Nat.mul_assoc]; omega
        rw [this, Nat.add_mul, ← Nat.mul_assoc t]
        congr 1
        rw [← PQ]
        rw [Nat.mul_comm Q, Nat.mul_assoc, Nat.mul_comm (2 * u + v)]
        congr 1
        rw [← Nat.mul_assoc, Nat.mul_comm Q P]
      rw [e, Nat.add_mul_mod_self_left]
      have := Nat.mul_lt_mul_of_pos_right t1 P0
      have e2 : Q * P * 2 = 18446744073709551616 := by rw [Nat.mul_comm Q P, PQ]
      exact Nat.mod_eq_of_lt (by omega)
    have rp : r * P = v * (Q * P) + t * P := by rw [hrr, Nat.add_mul, Nat.mul_comm Q v, Nat.mul_assoc]
    have QP : Q * P = 9223372036854775808 := by rw [Nat.mul_comm]; omega
    have tp : t * P < 9223372036854775808 := by rw [← QP]; exact Nat.mul_lt_mul_of_pos_right t1 P0
    have up : u + t * P < 9223372036854775808 := by
      have := Nat.mul_le_mul_right P (show t + 1 ≤ Q by omega)
      rw [Nat.add_mul, QP] at this
      omega
    rw [ih, m2, d1]
    unfold rot1
    rw [rp, QP]
    have : v = 0 ∨ v = 1 := by omega
    rcases this with rfl | rfl <;> omega

/-- The four numbers. -/
structure St where
  a : Nat
  b : Nat
  c : Nat
  d : Nat
structure St.ok (s : St) : Prop where
  a : W64 s.a
  b : W64 s.b
  c : W64 s.c
  d : W64 s.d
theorem xor_lt {x y : Nat} (hx : W64 x) (hy : W64 y) : W64 (x ^^^ y) := Nat.xor_lt_two_pow (n := 64) hx hy
def add64 (x y : Nat) : Nat := (x + y) % 18446744073709551616
theorem add64_lt (x y : Nat) : W64 (add64 x y) := Nat.mod_lt _ (by decide)
/-- A round, a step at a time. -/
def r0 (s : St) : St := { s with a := add64 s.a s.b }
def r1 (s : St) : St := { s with b := rotN s.b 13 }
def r2 (s : St) : St := { s with b := s.b ^^^ s.a }
def r3 (s : St) : St := { s with a := rotN s.a 32 }
def r4 (s : St) : St := { s with c := add64 s.c s.d }
def r5 (s : St) : St := { s with d := rotN s.d 16 }
def r6 (s : St) : St := { s with d := s.d ^^^ s.c }
def r7 (s : St) : St := { s with a := add64 s.a s.d }
def r8 (s : St) : St := { s with d := rotN s.d 21 }
def r9 (s : St) : St := { s with d := s.d ^^^ s.a }
def r10 (s : St) : St := { s with c := add64 s.c s.b }
def r11 (s : St) : St := { s with b := rotN s.b 17 }
def r12 (s : St) : St := { s with b := s.b ^^^ s.c }
def r13 (s : St) : St := { s with c := rotN s.c 32 }
def roundN (s : St) : St := r13 (r12 (r11 (r10 (r9 (r8 (r7 (r6 (r5 (r4 (r3 (r2 (r1 (r0 s)))))))))))))
theorem r0_ok {s : St} (h : s.ok) : (r0 s).ok := ⟨add64_lt _ _, h.b, h.c, h.d⟩
theorem r1_ok {s : St} (h : s.ok) : (r1 s).ok := ⟨h.a, rotN_lt h.b _, h.c, h.d⟩
theorem r2_ok {s : St} (h : s.ok) : (r2 s).ok := ⟨h.a, xor_lt h.b h.a, h.c, h.d⟩
theorem r3_ok {s : St} (h : s.ok) : (r3 s).ok := ⟨rotN_lt h.a _, h.b, h.c, h.d⟩
theorem r4_ok {s : St} (h : s.ok) : (r4 s).ok := ⟨h.a, h.b, add64_lt _ _, h.d⟩
theorem r5_ok {s : St} (h : s.ok) : (r5 s).ok := ⟨h.a, h.b, h.c, rotN_lt h.d _⟩
theorem r6_ok {s : St} (h : s.ok) : (r6 s).ok := ⟨h.a, h.b, h.c, xor_lt h.d h.c⟩
theorem r7_ok {s : St} (h : s.ok) : (r7 s).ok := ⟨add64_lt _ _, h.b, h.c, h.d⟩
theorem r8_ok {s : St} (h : s.ok) : (r8 s).ok := ⟨h.a, h.b, h.c, rotN_lt h.d _⟩
theorem r9_ok {s : St} (h : s.ok) : (r9 s).ok := ⟨h.a, h.b, h.c, xor_lt h.d h.a⟩
theorem r10_ok {s : St} (h : s.ok) : (r10 s).ok := ⟨h.a, h.b, add64_lt _ _, h.d⟩
theorem r11_ok {s : St} (h : s.ok) : (r11 s).ok := ⟨h.a, rotN_lt h.b _, h.c, h.d⟩
theorem r12_ok {s : St} (h : s.ok) : (r12 s).ok := ⟨h.a, xor_lt h.b h.c, h.c, h.d⟩
theorem r13_ok {s : St} (h : s.ok) : (r13 s).ok := ⟨h.a, h.b, rotN_lt h.c _, h.d⟩
theorem round_ok {s : St} (h : s.ok) : (roundN s).ok := r13_ok (r12_ok (r11_ok (r10_ok (r9_ok (r8_ok (r7_ok (r6_ok (r5_ok (r4_ok (r3_ok (r2_ok (r1_ok (r0_ok h)))))))))))))
/-- A word is taken in. -/
def inD (s : St) (m : Nat) : St := { s with d := s.d ^^^ m }
def inA (s : St) (m : Nat) : St := { s with a := s.a ^^^ m }
def takeS (s : St) (m : Nat) : St := inA (roundN (roundN (inD s m))) m
theorem inD_ok {s : St} (h : s.ok) {m : Nat} (hm : W64 m) : (inD s m).ok := ⟨h.a, h.b, h.c, xor_lt h.d hm⟩
theorem inA_ok {s : St} (h : s.ok) {m : Nat} (hm : W64 m) : (inA s m).ok := ⟨xor_lt h.a hm, h.b, h.c, h.d⟩
theorem take_ok {s : St} (h : s.ok) {m : Nat} (hm : W64 m) : (takeS s m).ok := inA_ok (round_ok (round_ok (inD_ok h hm))) hm
def initS (A B : Nat) : St := ⟨A ^^^ 8317987319222330741, B ^^^ 7237128888997146477, A ^^^ 7816392313619706465, B ^^^ 8387220255154660723⟩
theorem init_ok {A B : Nat} (hA : W64 A) (hB : W64 B) : (initS A B).ok := ⟨xor_lt hA (by decide), xor_lt hB (by decide), xor_lt hA (by decide), xor_lt hB (by decide)⟩
def inC (s : St) : St := { s with c := s.c ^^^ 255 }
theorem inC_ok {s : St} (h : s.ok) : (inC s).ok := ⟨h.a, h.b, xor_lt h.c (by decide), h.d⟩
def endN (s : St) : Nat := s.a ^^^ s.b ^^^ s.c ^^^ s.d
def fourN (s : St) : St := roundN (roundN (roundN (roundN s)))
theorem four_ok {s : St} (h : s.ok) : (fourN s).ok := round_ok (round_ok (round_ok (round_ok h)))
theorem end_lt {s : St} (h : s.ok) : W64 (endN s) := xor_lt (xor_lt (xor_lt h.a h.b) h.c) h.d

/-- bytes as a number, the first one lowest. -/
def leN : List Nat → Nat
  | [] => 0
  | d :: t => leN t * 256 + d
theorem leN_lt : ∀ {ds : List Nat}, Byt ds → leN ds < 256 ^ ds.length
  | [], _ => by simp [leN]
  | d :: t, h => by
    have a := leN_lt (ds := t) (fun x hx => h x (List.mem_cons.2 (.inr hx)))
    have b := h d (List.mem_cons.2 (.inl rfl))
    show leN t * 256 + d < 256 ^ (t.length + 1)
    rw [Nat.pow_succ]
    omega
theorem leN_w64 {ds : List Nat} (h : Byt ds) (l : ds.length ≤ 8) : W64 (leN ds) := by
  have a := leN_lt h
  have b : 256 ^ ds.length ≤ 256 ^ 8 := Nat.pow_le_pow_right (by decide) l
  unfold W64
  omega
theorem leN_seven {ds : List Nat} (h : Byt ds) (l : ds.length ≤ 7) : leN ds < 72057594037927936 := by
  have a := leN_lt h
  have b : 256 ^ ds.length ≤ 256 ^ 7 := Nat.pow_le_pow_right (by decide) l
  omega
/-- The first so many full words. -/
def fullN (ds : List Nat) (k : Nat) : List Nat := (List.range k).map fun i => leN ((ds.drop (8 * i)).take 8)
theorem fullN_succ (ds : List Nat) (k : Nat) : fullN ds (k + 1) = fullN ds k ++ [leN ((ds.drop (8 * k)).take 8)] := by
  unfold fullN
  rw [List.range_succ, List.map_append]
  rfl
def lastN (ds : List Nat) : Nat := leN (ds.drop (8 * (ds.length / 8))) + ds.length % 256 * 72057594037927936
def wordsN (ds : List Nat) : List Nat := fullN ds (ds.length / 8) ++ [lastN ds]
theorem lastN_lt {ds : List Nat} (h : Byt ds) : W64 (lastN ds) := by
  have a := leN_seven (byt_drop h (8 * (ds.length / 8))) (by rw [List.length_drop]; omega)
  unfold W64 lastN
  omega
theorem words_w64 {ds : List Nat} (h : Byt ds) : ∀ m ∈ wordsN ds, W64 m := fun m hm => by
  unfold wordsN at hm
  rcases List.mem_append.1 hm with g | g
  · unfold fullN at g
    obtain ⟨i, _, rfl⟩ := List.mem_map.1 g
    exact leN_w64 (byt_take (byt_drop h _) _) (by rw [List.length_take]; omega)
  · obtain rfl : m = lastN ds := by simpa using g
    exact lastN_lt h
/-- The tag. -/
def sipS (A B : Nat) (ms : List Nat) : St := ms.foldl takeS (initS A B)
def tagN (A B : Nat) (ds : List Nat) : Nat := endN (fourN (inC (sipS A B (wordsN ds))))
theorem sip_ok {A B : Nat} (hA : W64 A) (hB : W64 B) {ms : List Nat} (h : ∀ m ∈ ms, W64 m) : (sipS A B ms).ok := by
  unfold sipS
  suffices ∀ (ms : List Nat) (s : St), s.ok → (∀ m ∈ ms, W64 m) → (ms.foldl takeS s).ok from this ms _ (init_ok hA hB) h
  intro ms
  induction ms with
  | nil => exact fun s hs _ => hs
  | cons m ms ih => exact fun s hs hm => ih _ (take_ok hs (hm m (List.mem_cons.2 (.inl rfl)))) fun x hx => hm x (List.mem_cons.2 (.inr hx))
theorem tag_lt {A B : Nat} (hA : W64 A) (hB : W64 B) {ds : List Nat} (h : Byt ds) : W64 (tagN A B ds) := end_lt (four_ok (inC_ok (sip_ok hA hB (words_w64 h))))
theorem sip_snoc (A B : Nat) (ms : List Nat) (m : Nat) : sipS A B (ms ++ [m]) = takeS (sipS A B ms) m := by
  unfold sipS
  rw [List.foldl_append]
  rfl
/-- The chapter's rows. -/
theorem tag_none : tagN 506097522914230528 1084818905618843912 [] = 8246050544436514353 := by decide +kernel
theorem tag_15 : tagN 506097522914230528 1084818905618843912 (List.range 15) = 11613035633349379557 := by decide +kernel
end Go.Proofs.Ytkojgegfmhoomaa
