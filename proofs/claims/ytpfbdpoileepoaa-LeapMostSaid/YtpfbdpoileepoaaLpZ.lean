/- Layer 16 (leap), the program's: all calls together: LCode holds of it; a table that New did not make is as none. -/
import Derived.Test.YtpfbdpoileepoaaLpZA
import Derived.Test.YtpfbdpoileepoaaLpZV
set_option maxRecDepth 100000
namespace Go.Proofs.Ytpfbdpoileepoaa
open Go.ChangeShapes Go.WideShapes Go.ChangeAt Go.RowKit SmM

def leap_code : LCode where
  Tb w F N l e b := ∃ p c, F = SF N p ∧ PLp w N p c l e b
  Nt := NtP
  keep := by
    rintro w w' F N l e b ⟨p, c, rfl, h⟩ k
    exact ⟨p, c, rfl, h.keep k⟩
  lt := by
    rintro w F N l e b ⟨p, c, rfl, h⟩
    exact h.lt
  ok := by
    rintro w F N l e b ⟨p, c, rfl, h⟩
    exact h.ok
  self := by
    rintro w F N l e b ⟨p, c, rfl, h⟩
    exact .inl rfl
  nt := fun w => .inl rfl
  nkeep := fun h k => h.below k
  new := by
    intro w p n c l e b h hi _ _
    refine (pnew16 w p n c l h hi e b).mono fun r w' ⟨k, q⟩ => ⟨k, ?_⟩
    rcases q with ⟨o, N, q, d, e1, t, f⟩ | x
    · exact .inl ⟨o, N, SF N q, e1, ⟨q, d, rfl, t⟩, f⟩
    · exact .inr x
  offset := by
    rintro w F N l e b t ⟨p, c, rfl, h⟩ _
    exact poff16 h.has t
  label := by
    rintro w F N l e b t ⟨p, c, rfl, h⟩ ht
    refine plab16 h.has t ?_
    have := off_bound h.ok.1 h.ok.2.1 h.ok.2.2.2 t
    unfold TmI at ht
    unfold labI I64
    omega
  even := by
    rintro w F N l e b q i ⟨p, c, rfl, h⟩ hq
    exact peven16 h.has q i hq
  next := by
    rintro w F N l e b t ⟨p, c, rfl, h⟩ _
    exact pnext16 h.has t
  bits := by
    rintro w F N l e b t ⟨p, c, rfl, h⟩ _
    exact pbits16 h.has t
  list := by
    rintro w F N l e b ⟨p, c, rfl, h⟩
    exact plist16 h.has
  copy := by
    rintro w F N l e b ⟨p, c, rfl, h⟩
    exact (pcopy16 h).mono fun r w' ⟨N', e1, t, f, k⟩ => ⟨N', SF N' p, e1, ⟨p, c, rfl, t⟩, f, k⟩
  add := by
    rintro w F N l e b y e' ⟨p, c, rfl, h⟩ i1 i2 _
    refine (padded16 h y ⟨i1, i2⟩ e').mono fun r w' ⟨tn, x, p', c', e1, a, f, t⟩ => ⟨x, SF N p', e1, a, ⟨p', c', rfl, t⟩, ?_, ?_, fun B h1 h2 => tn.low B h1 h2⟩
    · rintro M (rfl | ⟨a, ha, rfl⟩)
      · exact .inl (.inl rfl)
      · rcases f a ha with g | g
        · exact .inl (.inr ⟨a, g, rfl⟩)
        · exact .inr g
    · intro M hM lt
      exact tn.keep M (fun g => hM (.inl g)) lt
  vote := by
    intro w p n c l h _ hn
    exact pvote16 w p n c l h hn
  offset_nt := fun t h => (poff16 h.has t).mono fun r w' ⟨a, k⟩ => ⟨a, k⟩
  label_nt := fun t h => plab16_no h.has t
  even_nt := fun t i h => peven16_no h.has t i
  next_nt := fun t h => pnext16 h.has t
  bits_nt := fun t h => pbits16_no h.has t
  add_nt := fun y e' h => padded16_no h.has y e'
  list_nt := fun h => (plist16 h.has).mono fun r w' ⟨q, d, a, _, k⟩ => ⟨⟨q, d, a⟩, k⟩
  copy_nt := fun h => pcopy16_no h.has
theorem leap_zn (w : World) : leap_code.Nt (w.alloc (.cells #[.bool false, .slice none 0 0, .int .i64 0, .int .i64 0] 67)) (some ⟨w.heap.size, 0, none⟩) := .inr ⟨_, rfl, heap_alloc_new _ _⟩
end Go.Proofs.Ytpfbdpoileepoaa
