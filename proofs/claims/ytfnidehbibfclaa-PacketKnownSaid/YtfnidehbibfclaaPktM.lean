/- Layer 7 (packet): packets as functions of lists: what may be, bytes, what bytes say, what is signed, what is right. No program. -/
import Derived.Test.YtfnidehbibfclaaGF
import Derived.Test.YtfnidehbibfclaaGG
import Derived.Test.YtfnidehbibfclaaGJ
import Derived.Test.YtfnidehbibfclaaGL
import Derived.Test.YtfnidehbibfclaaFrameT
set_option maxRecDepth 100000
namespace Go.Proofs.Ytfnidehbibfclaa
open Go.ChangeShapes Go.WideShapes Go.ChangeAt Go.RowKit OctM

/-- A packet, as what it says. -/
structure Pak where
  h : Hd
  l : Says
  sg : Bool
  ky : Nat
  tg : Nat
def Pak.zero : Pak := ⟨Hd.zero, [], false, 0, 0⟩
structure PakOk (k : Pak) : Prop where
  wf : k.h.wf
  fl : ∀ x ∈ k.l, x.1 < 65536 ∧ Byt x.2
  ky : k.ky < 4294967296
  tg : k.tg < 18446744073709551616
theorem pakZero_ok : PakOk Pak.zero := ⟨hdZero_wf, (fun x hx => by cases hx), by decide, by decide⟩

/-- what it is signed with may be. -/
def mayS (sg : Bool) (ky tg : Nat) : Prop := (sg = true ∧ ky ≠ 0) ∨ (sg = false ∧ ky = 0 ∧ tg = 0)
instance (sg : Bool) (ky tg : Nat) : Decidable (mayS sg ky tg) := by unfold mayS; exact inferInstance
def mayP (k : Pak) : Prop := mayH k.h ∧ mayX k.l ∧ mayS k.sg k.ky k.tg
instance (k : Pak) : Decidable (mayP k) := by unfold mayP; exact inferInstance
def bodyP (k : Pak) : List Nat := bytesH k.h ++ bytesX k.l
def sealP (k : Pak) : List Nat := if k.sg = true then digN k.ky 4 ++ digN k.tg 8 else []
def bytesP (k : Pak) : List Nat := bodyP k ++ sealP k
def putE7 (k : Pak) : Nat := if mayP k then (if (bytesP k).length ≤ 512 then 0 else 3) else 1
def putD7 (k : Pak) : List Nat := if putE7 k = 0 then bytesP k else []
def sameP (k j : Pak) : Prop := k.h = j.h ∧ k.l = j.l ∧ k.sg = j.sg ∧ k.ky = j.ky ∧ k.tg = j.tg
instance (k j : Pak) : Decidable (sameP k j) := by unfold sameP; exact inferInstance
theorem same_eq {k j : Pak} : sameP k j ↔ k = j := by
  cases k; cases j
  simp [sameP]

theorem body_len (k : Pak) : (bodyP k).length = 48 + (bytesX k.l).length := by unfold bodyP; rw [List.length_append, bytesH_len]
theorem seal_len (k : Pak) : (sealP k).length = if k.sg = true then 12 else 0 := by
  unfold sealP
  split
  · rw [List.length_append, digN_len, digN_len]
  · rfl
theorem seal_done (k : Pak) : doneX (sealP k) := by
  unfold doneX
  rw [seal_len]
  split
  · exact .inr rfl
  · exact .inl rfl
theorem bytes_len (k : Pak) : (bytesP k).length = 48 + (bytesX k.l).length + if k.sg = true then 12 else 0 := by unfold bytesP; rw [List.length_append, body_len, seal_len]
theorem fields_le {l : Says} (h : mayX l) : (bytesX l).length ≤ 3744 := by
  have a := bytesX_le h.1
  have b := h.2
  omega
theorem fields_byt {l : Says} (h : mayX l) (g : ∀ x ∈ l, x.1 < 65536 ∧ Byt x.2) : Byt (bytesX l) := bytesX_byt fun x hx => ⟨(g x hx).1, (g x hx).2, by have := h.1 x hx; unfold longN at this; omega⟩
theorem body_byt {k : Pak} (h : mayX k.l) (ok : PakOk k) : Byt (bodyP k) := byt_append (bytesH_byt _) (fields_byt h ok.fl)
theorem seal_byt (k : Pak) : Byt (sealP k) := by
  unfold sealP
  split
  · exact byt_append (digN_byt _ _) (digN_byt _ _)
  · intro d hd; cases hd
theorem putE_may {k : Pak} (h : putE7 k = 0) : mayP k ∧ (bytesP k).length ≤ 512 := by
  unfold putE7 at h
  split at h
  · rename_i m
    split at h
    · rename_i l
      exact ⟨m, l⟩
    · cases h
  · cases h
theorem putE_ok {k : Pak} (m : mayP k) (l : (bytesP k).length ≤ 512) : putE7 k = 0 := by unfold putE7; rw [if_pos m, if_pos l]
theorem putE_long {k : Pak} (m : mayP k) (l : ¬ (bytesP k).length ≤ 512) : putE7 k = 3 := by unfold putE7; rw [if_pos m, if_neg l]
theorem putE_arg {k : Pak} (m : ¬ mayP k) : putE7 k = 1 := by unfold putE7; rw [if_neg m]
theorem putD_ok {k : Pak} (h : putE7 k = 0) : putD7 k = bytesP k := by unfold putD7; rw [if_pos h]
theorem putD_bad {k : Pak} (h : putE7 k ≠ 0) : putD7 k = [] := by unfold putD7; rw [if_neg h]
theorem putE_three (k : Pak) : putE7 k = 0 ∨ putE7 k = 1 ∨ putE7 k = 3 := by
  unfold putE7
  split
  · split
    · exact .inl rfl
    · exact .inr (.inr rfl)
  · exact .inr (.inl rfl)
theorem putD_byt {k : Pak} (ok : PakOk k) : Byt (putD7 k) := by
  by_cases h : putE7 k = 0
  · rw [putD_ok h]
    exact byt_append (body_byt (putE_may h).1.2.1 ok) (seal_byt k)
  · rw [putD_bad h]
    intro d hd; cases hd
theorem putD_len (k : Pak) : (putD7 k).length ≤ 512 := by
  by_cases h : putE7 k = 0
  · rw [putD_ok h]; exact (putE_may h).2
  · rw [putD_bad h]; exact Nat.zero_le _
theorem putE_one (k : Pak) : putE7 k = 1 ↔ ¬ mayP k := by
  unfold putE7
  by_cases m : mayP k
  · rw [if_pos m]
    split <;> simp [m]
  · rw [if_neg m]; simp [m]

/-- What bytes say. -/
def parP (ds : List Nat) : Pak × Nat :=
  if 512 < ds.length then (Pak.zero, 3)
  else if ds.length < 48 then (Pak.zero, 4)
  else if ¬ mayH (hdP ds) then (Pak.zero, 5)
  else if (parX (ds.drop 48)).2.2 ≠ 0 then (Pak.zero, (parX (ds.drop 48)).2.2)
  else if (parX (ds.drop 48)).2.1.length = 0 then (⟨hdP ds, (parX (ds.drop 48)).1, false, 0, 0⟩, 0)
  else if numN ((parX (ds.drop 48)).2.1.take 4) = 0 then (Pak.zero, 5)
  else (⟨hdP ds, (parX (ds.drop 48)).1, true, numN ((parX (ds.drop 48)).2.1.take 4), numN ((parX (ds.drop 48)).2.1.drop 4)⟩, 0)

theorem par_long {ds : List Nat} (h : 512 < ds.length) : parP ds = (Pak.zero, 3) := by unfold parP; rw [if_pos h]
theorem par_short {ds : List Nat} (h : ds.length < 48) : parP ds = (Pak.zero, 4) := by unfold parP; rw [if_neg (by omega), if_pos h]
theorem par_head {ds : List Nat} (h : ds.length ≤ 512) (g : 48 ≤ ds.length) (m : ¬ mayH (hdP ds)) : parP ds = (Pak.zero, 5) := by unfold parP; rw [if_neg (by omega), if_neg (by omega), if_pos m]
theorem par_ext {ds : List Nat} {e : Nat} (h : ds.length ≤ 512) (g : 48 ≤ ds.length) (m : mayH (hdP ds)) (x : (parX (ds.drop 48)).2.2 = e) (e0 : e ≠ 0) : parP ds = (Pak.zero, e) := by
  unfold parP
  rw [if_neg (by omega), if_neg (by omega), if_neg (by simpa using m), if_pos (by rw [x]; exact e0), x]
theorem par_bare {ds : List Nat} {l : Says} (h : ds.length ≤ 512) (g : 48 ≤ ds.length) (m : mayH (hdP ds)) (x : parX (ds.drop 48) = (l, [], 0)) : parP ds = (⟨hdP ds, l, false, 0, 0⟩, 0) := by
  unfold parP
  rw [if_neg (by omega), if_neg (by omega), if_neg (by simpa using m), x, if_neg (by simp), if_pos (show ([] : List Nat).length = 0 from rfl)]
theorem par_key {ds t : List Nat} {l : Says} (h : ds.length ≤ 512) (g : 48 ≤ ds.length) (m : mayH (hdP ds)) (x : parX (ds.drop 48) = (l, t, 0)) (ht : t.length ≠ 0) (k : numN (t.take 4) = 0) : parP ds = (Pak.zero, 5) := by
  unfold parP
  rw [if_neg (by omega), if_neg (by omega), if_neg (by simpa using m), x, if_neg (by simp), if_neg ht, if_pos k]
theorem par_seal {ds t : List Nat} {l : Says} (h : ds.length ≤ 512) (g : 48 ≤ ds.length) (m : mayH (hdP ds)) (x : parX (ds.drop 48) = (l, t, 0)) (ht : t.length ≠ 0) (k : numN (t.take 4) ≠ 0) : parP ds = (⟨hdP ds, l, true, numN (t.take 4), numN (t.drop 4)⟩, 0) := by
  unfold parP
  rw [if_neg (by omega), if_neg (by omega), if_neg (by simpa using m), x, if_neg (by simp), if_neg ht, if_neg k]

/-- Bytes of a packet say that packet. -/
theorem par_back {k : Pak} (ok : PakOk k) (h : putE7 k = 0) : parP (bytesP k) = (k, 0) := by
  obtain ⟨⟨mh, mx, ms⟩, len⟩ := putE_may h
  have g : 48 ≤ (bytesP k).length := by rw [bytes_len]; omega
  have e : bytesP k = bytesH k.h ++ (bytesX k.l ++ sealP k) := by unfold bytesP bodyP; rw [List.append_assoc]
  have hd : hdP (bytesP k) = k.h := by rw [e]; exact hdP_bytes k.h ok.wf mh _
  have dr : (bytesP k).drop 48 = bytesX k.l ++ sealP k := by
    rw [e, List.drop_append_of_le_length (by rw [bytesH_len]; exact Nat.le_refl _), List.drop_of_length_le (by rw [bytesH_len]; exact Nat.le_refl _), List.nil_append]
  have px : parX ((bytesP k).drop 48) = (k.l, sealP k, 0) := by rw [dr]; exact parX_back mx (seal_done k)
  have kb := ok.ky
  have tb := ok.tg
  rcases ms with ⟨sg, k0⟩ | ⟨sg, k0, t0⟩
  · have es : sealP k = digN k.ky 4 ++ digN k.tg 8 := by unfold sealP; rw [if_pos sg]
    have e4 : (sealP k).take 4 = digN k.ky 4 := by rw [es, List.take_append_of_le_length (by rw [digN_len]; exact Nat.le_refl _), List.take_of_length_le (by rw [digN_len]; exact Nat.le_refl _)]
    have e8 : (sealP k).drop 4 = digN k.tg 8 := by rw [es, List.drop_append_of_le_length (by rw [digN_len]; exact Nat.le_refl _), List.drop_of_length_le (by rw [digN_len]; exact Nat.le_refl _), List.nil_append]
    have n4 : numN ((sealP k).take 4) = k.ky := by rw [e4, num_dig]; exact Nat.mod_eq_of_lt (by omega)
    have n8 : numN ((sealP k).drop 4) = k.tg := by rw [e8, num_dig]; exact Nat.mod_eq_of_lt (by omega)
    rw [par_seal len g (by rw [hd]; exact mh) px (by rw [seal_len, if_pos sg]; decide) (by rw [n4]; exact k0), hd, n4, n8]
    cases k
    simp only at sg
    rw [sg]
  · have es : sealP k = [] := by unfold sealP; rw [if_neg (by rw [sg]; decide)]
    rw [es] at px
    rw [par_bare len g (by rw [hd]; exact mh) px, hd]
    cases k
    simp only at sg k0 t0
    rw [sg, k0, t0]

/-- Whatever bytes say: a packet that may be, whose bytes they are; or none. -/
theorem par_spec {ds : List Nat} (hy : Byt ds) : ((parP ds).2 = 0 ∧ PakOk (parP ds).1 ∧ mayP (parP ds).1 ∧ bytesP (parP ds).1 = ds ∧ ds.length ≤ 512) ∨ ((parP ds).2 ≠ 0 ∧ (parP ds).1 = Pak.zero) := by
  by_cases h : 512 < ds.length
  · rw [par_long h]; exact .inr ⟨by decide, rfl⟩
  by_cases g : ds.length < 48
  · rw [par_short g]; exact .inr ⟨by decide, rfl⟩
  by_cases m : mayH (hdP ds)
  · by_cases x : (parX (ds.drop 48)).2.2 = 0
    · obtain ⟨dn, mx, gd, ebs⟩ := parX_spec (byt_drop hy 48) x
      have tb := parX_byt (byt_drop hy 48)
      obtain ⟨l, t, e0⟩ : ∃ l t, parX (ds.drop 48) = (l, t, 0) := ⟨_, _, by rw [← x]⟩
      rw [e0] at dn mx gd ebs tb
      simp only at dn mx gd ebs tb
      have eds : ds = bytesH (hdP ds) ++ (bytesX l ++ t) := by
        rw [← ebs, bytesH_hdP hy (by omega), List.take_append_drop]
      have fl : ∀ x ∈ l, x.1 < 65536 ∧ Byt x.2 := fun x hx => ⟨(gd x hx).2.1, (gd x hx).2.2⟩
      rcases dn with d0 | d12
      · obtain rfl : t = [] := List.length_eq_zero_iff.1 d0
        rw [par_bare (by omega) (by omega) m e0]
        refine .inl ⟨rfl, ⟨hdP_wf hy, fl, Nat.zero_lt_succ _, Nat.zero_lt_succ _⟩, ⟨m, mx, .inr ⟨rfl, rfl, rfl⟩⟩, ?_, by omega⟩
        show (bytesH (hdP ds) ++ bytesX l) ++ [] = ds
        rw [List.append_assoc]
        exact eds.symm
      · by_cases k : numN (t.take 4) = 0
        · rw [par_key (by omega) (by omega) m e0 (by omega) k]; exact .inr ⟨by decide, rfl⟩
        · rw [par_seal (by omega) (by omega) m e0 (by omega) k]
          have l4 : (t.take 4).length = 4 := by rw [List.length_take]; omega
          have l8 : (t.drop 4).length = 8 := by rw [List.length_drop]; omega
          have b4 := numN_lt (byt_take tb 4)
          have b8 := numN_lt (byt_drop tb 4)
          rw [l4] at b4
          rw [l8] at b8
          refine .inl ⟨rfl, ⟨hdP_wf hy, fl, b4, b8⟩, ⟨m, mx, .inl ⟨rfl, k⟩⟩, ?_, by omega⟩
          have d4 := dig_num (byt_take tb 4)
          have d8 := dig_num (byt_drop tb 4)
          rw [l4] at d4
          rw [l8] at d8
          show (bytesH (hdP ds) ++ bytesX l) ++ (digN (numN (t.take 4)) 4 ++ digN (numN (t.drop 4)) 8) = ds
          rw [d4, d8, List.take_append_drop, List.append_assoc]
          exact eds.symm
    · rw [par_ext (by omega) (by omega) m rfl x]; exact .inr ⟨x, rfl⟩
  · rw [par_head (by omega) (by omega) m]; exact .inr ⟨by decide, rfl⟩
theorem par_ok {ds : List Nat} (hy : Byt ds) : PakOk (parP ds).1 := by
  rcases par_spec hy with ⟨-, ok, -⟩ | ⟨-, z⟩
  · exact ok
  · rw [z]; exact pakZero_ok
theorem par_put {ds : List Nat} (hy : Byt ds) (h : (parP ds).2 = 0) : putE7 (parP ds).1 = 0 ∧ putD7 (parP ds).1 = ds ∧ mayP (parP ds).1 := by
  rcases par_spec hy with ⟨-, ok, m, e, l⟩ | ⟨n, -⟩
  · have p : putE7 (parP ds).1 = 0 := putE_ok m (by rw [e]; exact l)
    exact ⟨p, by rw [putD_ok p]; exact e, m⟩
  · exact absurd h n
theorem par_bad {ds : List Nat} (hy : Byt ds) (h : (parP ds).2 ≠ 0) : (parP ds).1 = Pak.zero := by
  rcases par_spec hy with ⟨z, -⟩ | ⟨-, z⟩
  · exact absurd z h
  · exact z

/-- A packet that is to be signed by a key of that Id. -/
def forP (k : Pak) (id : Nat) : Pak := { k with sg := true, ky := id, tg := 0 }
def tagP (k : Pak) (q : Ky) : Nat := tagN q.a q.b (bodyP k)
def signP (k : Pak) (q : Ky) : Pak × Nat := if putE7 (forP k q.id) = 0 then ({ forP k q.id with tg := tagP k q }, 0) else (Pak.zero, putE7 (forP k q.id))
def rightP (k : Pak) (q : Ky) : Prop := putE7 k = 0 ∧ k.sg = true ∧ k.ky = q.id ∧ tagP k q = k.tg
instance (k : Pak) (q : Ky) : Decidable (rightP k q) := by unfold rightP; exact inferInstance
theorem forP_ok {k : Pak} (ok : PakOk k) {id : Nat} (h : id < 4294967296) : PakOk (forP k id) := ⟨ok.wf, ok.fl, h, Nat.zero_lt_succ _⟩
theorem sign_ok {k : Pak} {q : Ky} (h : putE7 (forP k q.id) = 0) : signP k q = ({ forP k q.id with tg := tagP k q }, 0) := by unfold signP; rw [if_pos h]
theorem sign_bad {k : Pak} {q : Ky} (h : putE7 (forP k q.id) ≠ 0) : signP k q = (Pak.zero, putE7 (forP k q.id)) := by unfold signP; rw [if_neg h]
theorem tagP_lt {k : Pak} {q : Ky} (ok : PakOk k) (m : mayX k.l) (hq : KeyOk q) : tagP k q < 18446744073709551616 := tag_lt hq.2.1 hq.2.2 (body_byt m ok)
theorem sign_pak {k : Pak} {q : Ky} (ok : PakOk k) (hq : KeyOk q) : PakOk (signP k q).1 := by
  by_cases h : putE7 (forP k q.id) = 0
  · rw [sign_ok h]
    have m := (putE_may h).1.2.1
    exact ⟨ok.wf, ok.fl, hq.1, tagP_lt ok m hq⟩
  · rw [sign_bad h]; exact pakZero_ok
/-- what Put tells does not hang on the Tag of what is signed. -/
theorem putE_tag (k : Pak) (hs : k.sg = true) (t : Nat) : putE7 { k with tg := t } = putE7 k := by
  unfold putE7
  have e : mayP { k with tg := t } ↔ mayP k := by
    unfold mayP mayS
    simp [hs]
  have l : (bytesP { k with tg := t }).length = (bytesP k).length := by rw [bytes_len, bytes_len]
  rw [l]
  by_cases m : mayP k
  · rw [if_pos m, if_pos (e.2 m)]
  · rw [if_neg m, if_neg (fun x => m (e.1 x))]
theorem sign_put {k : Pak} {q : Ky} (h : (signP k q).2 = 0) : putE7 (signP k q).1 = 0 ∧ (signP k q).1.sg = true ∧ (signP k q).1.ky = q.id ∧ (signP k q).1.tg = tagP k q ∧ bodyP (signP k q).1 = bodyP k ∧ mayP (signP k q).1 := by
  by_cases g : putE7 (forP k q.id) = 0
  · rw [sign_ok g]
    have p := putE_tag (forP k q.id) rfl (tagP k q)
    rw [g] at p
    exact ⟨p, rfl, rfl, rfl, rfl, (putE_may p).1⟩
  · rw [sign_bad g] at h
    exact absurd h g
theorem sign_right {k : Pak} {q : Ky} (h : (signP k q).2 = 0) : rightP (signP k q).1 q := by
  obtain ⟨a, b, c, d, e, -⟩ := sign_put h
  exact ⟨a, b, c, by rw [d]; unfold tagP; rw [e]⟩
theorem sign_again {k : Pak} {q : Ky} (h : (signP k q).2 = 0) : signP (signP k q).1 q = signP k q := by
  by_cases g : putE7 (forP k q.id) = 0
  · rw [sign_ok g]
    have e : forP { forP k q.id with tg := tagP k q } q.id = forP k q.id := rfl
    unfold signP
    rw [e, if_pos g]
    rfl
  · rw [sign_bad g] at h
    exact absurd h g
theorem sign_err {k : Pak} {q : Ky} (h : (signP k q).2 ≠ 0) : (signP k q).1 = Pak.zero ∧ ((signP k q).2 = 1 ∨ (signP k q).2 = 3) := by
  by_cases g : putE7 (forP k q.id) = 0
  · rw [sign_ok g] at h
    exact absurd rfl h
  · rw [sign_bad g]
    rcases putE_three (forP k q.id) with a | a | a
    · exact absurd a g
    · exact ⟨rfl, .inl a⟩
    · exact ⟨rfl, .inr a⟩
/-- Right, as the document's own answer asks it: by signing anew. -/
theorem right_sign {k : Pak} {q : Ky} : rightP k q ↔ (signP k q).2 = 0 ∧ k.sg = true ∧ k.ky = q.id ∧ k.tg = (signP k q).1.tg := by
  have key : k.sg = true → k.ky = q.id → putE7 (forP k q.id) = putE7 k := fun hs hk => by
    have e : forP k q.id = { k with tg := 0 } := by
      cases k
      simp only at hs hk
      subst hs
      simp [forP, hk]
    rw [e, putE_tag k hs 0]
  constructor
  · rintro ⟨a, b, c, d⟩
    have g : putE7 (forP k q.id) = 0 := by rw [key b c]; exact a
    rw [sign_ok g]
    exact ⟨rfl, b, c, d.symm⟩
  · rintro ⟨a, b, c, d⟩
    by_cases g : putE7 (forP k q.id) = 0
    · rw [sign_ok g] at d
      exact ⟨by rw [← key b c]; exact g, b, c, d.symm⟩
    · rw [sign_bad g] at a
      exact absurd a g
end Go.Proofs.Ytfnidehbibfclaa
