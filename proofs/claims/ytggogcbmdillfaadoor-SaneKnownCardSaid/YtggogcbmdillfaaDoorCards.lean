/-
  DERIVED. GIVEN WITH THE SEED: THE CARDS: each row of YtggogcbmdillfaaDoorRows.lean that lists a variable, with what it lists TIED to the program's text (the seventh form; the later family's looks); each row that meets fmt, with fmt's text TOLD by the authors' own Lean function (tested against real Go, not proved from fmt's source: count such statements apart). THE CARD IS WHAT COUNTS. Prove the row's statement (the work); the ties are given (YtggogcbmdillfaaDoorTie.lean); close each card by the builder's one call (the guide's Derived/Test/ToyasCard.lean, 'card_holds'). Laid BY PROGRAM, IN A SANDBOX (cutbox-door.mjs). By AI agents, Wed Nov 11 2026. No macro, syntax, notation, axiom, sorry.
-/
import Derived.Test.YtggogcbmdillfaaDoorRows
import GoSem.ClaimSeven
namespace Go.Proofs.YtggogcbmdillfaaDoor
namespace Rows

/-- THE TIED CARD OF 'ephemerislaw08.SaneTests'. -/
def saneTestsCard : Claim7 := { stood := { row := saneTestsRow, standIns := [], harness := (true, "091599e158af4ad528dc1fe56c1f5dd23610be44c65c277697142482567b7e9f"), looks := false }, kinds := [], alts := [], laidByText := true, laidKinds := [.data, .pinned], laidTests := true, laidLooks := .later }
def SaneTestsCardSaid : Prop := Claim7.holds Tryd.pinned (.plain (OpenSpec.ofChange saneTestsSpec)) saneTestsCard

/-- THE TIED CARD OF 'ephemerislaw08.SaneActs'. -/
def saneActsCard : Claim7 := { stood := { row := saneActsRow, standIns := [], harness := (true, "091599e158af4ad528dc1fe56c1f5dd23610be44c65c277697142482567b7e9f"), looks := false }, kinds := [], alts := [], laidByText := true, laidKinds := [.data, .pinned], laidTests := true, laidLooks := .later }
def SaneActsCardSaid : Prop := Claim7.holds Tryd.pinned (.plain (OpenSpec.ofChange saneActsSpec)) saneActsCard

/-- THE TIED CARD OF 'ephemerislaw08.SaneUses'. -/
def saneUsesCard : Claim7 := { stood := { row := saneUsesRow, standIns := [], harness := (true, "091599e158af4ad528dc1fe56c1f5dd23610be44c65c277697142482567b7e9f"), looks := false }, kinds := [], alts := [], laidByText := true, laidKinds := [.data, .pinned], laidTests := true, laidLooks := .later }
def SaneUsesCardSaid : Prop := Claim7.holds Tryd.pinned (.plain (OpenSpec.ofChange saneUsesSpec)) saneUsesCard

/-- THE TIED CARD OF 'ephemerislaw08.SaneFar'. -/
def saneFarCard : Claim7 := { stood := { row := saneFarRow, standIns := [], harness := (true, "091599e158af4ad528dc1fe56c1f5dd23610be44c65c277697142482567b7e9f"), looks := false }, kinds := [], alts := [], laidByText := true, laidKinds := [.data, .pinned], laidTests := true, laidLooks := .later }
def SaneFarCardSaid : Prop := Claim7.holds Tryd.pinned (.plain (OpenSpec.ofChange saneFarSpec)) saneFarCard

/-- THE TIED CARD OF 'ephemerislaw08.SaneKnown'. -/
def saneKnownCard : Claim7 := { stood := { row := saneKnownRow, standIns := [], harness := (true, "091599e158af4ad528dc1fe56c1f5dd23610be44c65c277697142482567b7e9f"), looks := false }, kinds := [], alts := [], laidByText := true, laidKinds := [.data, .pinned], laidTests := true, laidLooks := .later }
def SaneKnownCardSaid : Prop := Claim7.holds Tryd.pinned (.plain (OpenSpec.ofChange saneKnownSpec)) saneKnownCard

/-- THE SECOND FORM's CARD OF 'ephemerislaw08.SaneTests'. -/
def saneTestsUptoCard : Claim7 := { stood := { row := saneTestsUptoRow, standIns := [], harness := (true, "091599e158af4ad528dc1fe56c1f5dd23610be44c65c277697142482567b7e9f"), looks := false }, kinds := [], alts := [], laidByText := true, laidKinds := [.data, .pinned], laidTests := true, laidLooks := .later }
def SaneTestsUptoCardSaid : Prop := Claim7.holds Tryd.pinned (.plain (OpenSpec.upto saneTestsSpec)) saneTestsUptoCard

/-- THE SECOND FORM's CARD OF 'ephemerislaw08.SaneActs'. -/
def saneActsUptoCard : Claim7 := { stood := { row := saneActsUptoRow, standIns := [], harness := (true, "091599e158af4ad528dc1fe56c1f5dd23610be44c65c277697142482567b7e9f"), looks := false }, kinds := [], alts := [], laidByText := true, laidKinds := [.data, .pinned], laidTests := true, laidLooks := .later }
def SaneActsUptoCardSaid : Prop := Claim7.holds Tryd.pinned (.plain (OpenSpec.upto saneActsSpec)) saneActsUptoCard

/-- THE SECOND FORM's CARD OF 'ephemerislaw08.SaneUses'. -/
def saneUsesUptoCard : Claim7 := { stood := { row := saneUsesUptoRow, standIns := [], harness := (true, "091599e158af4ad528dc1fe56c1f5dd23610be44c65c277697142482567b7e9f"), looks := false }, kinds := [], alts := [], laidByText := true, laidKinds := [.data, .pinned], laidTests := true, laidLooks := .later }
def SaneUsesUptoCardSaid : Prop := Claim7.holds Tryd.pinned (.plain (OpenSpec.upto saneUsesSpec)) saneUsesUptoCard

/-- THE SECOND FORM's CARD OF 'ephemerislaw08.SaneFar'. -/
def saneFarUptoCard : Claim7 := { stood := { row := saneFarUptoRow, standIns := [], harness := (true, "091599e158af4ad528dc1fe56c1f5dd23610be44c65c277697142482567b7e9f"), looks := false }, kinds := [], alts := [], laidByText := true, laidKinds := [.data, .pinned], laidTests := true, laidLooks := .later }
def SaneFarUptoCardSaid : Prop := Claim7.holds Tryd.pinned (.plain (OpenSpec.upto saneFarSpec)) saneFarUptoCard

/-- THE SECOND FORM's CARD OF 'ephemerislaw08.SaneKnown'. -/
def saneKnownUptoCard : Claim7 := { stood := { row := saneKnownUptoRow, standIns := [], harness := (true, "091599e158af4ad528dc1fe56c1f5dd23610be44c65c277697142482567b7e9f"), looks := false }, kinds := [], alts := [], laidByText := true, laidKinds := [.data, .pinned], laidTests := true, laidLooks := .later }
def SaneKnownUptoCardSaid : Prop := Claim7.holds Tryd.pinned (.plain (OpenSpec.upto saneKnownSpec)) saneKnownUptoCard
end Rows
end Go.Proofs.YtggogcbmdillfaaDoor
