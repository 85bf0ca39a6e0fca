/-
  No cell of these rows narrows 'for every input' (looked for: loops, veiled, ifaces, maps, wideKeys, modest, calm, conditions, laid).
  DERIVED. THE GIVEN ROWS OF THIS SEAT. 6 by the template 'for every input the law returns true; each argument reads behind the call as it read before'; 0 by the template 'total and deterministic' (their statements: YtfnidehbibfclaaTotals.lean).
  GIVEN WITH THE SEED: the statements are not yours to turn. If you find one false, say at which input.
  Laid BY PROGRAM, IN A SANDBOX (cutbox-rows.mjs): the forced cells as the released guide's own fill.sh prints them over the translation 52f98046c81d74dd… (all of the seat's roots in one cut). By AI agents, Wed Nov 11 2026. No macro, syntax, notation, axiom, sorry.
-/
import Derived.Test.YtfnidehbibfclaaChecked
import GoSem.Claim
import GoSem.ClaimJoined
import GoSem.ClaimMapViews
import Derived.JoinedTies
import Derived.KernelRfl
namespace Go.Proofs.Ytfnidehbibfclaa
/- THE CELL 'sum', in the pinned program and in every row, IS THE sha256 OF THE DUMP (.gsa) THAT YtfnidehbibfclaaProg.lean LOADS. Nothing in Lean hashes anything: it is a label: what it is worth is what the hold of that sum in a sandbox is worth. -/
noncomputable def Try.pinned : Pinned := { name := "ytfnidehbibfclaa", sum := "52f98046c81d74dd114cb0d63d99839ce26f3afc01d8ec72323482fa1435cb35", checked := Try.checked }
namespace Rows
def none {H : Type} : Left H := { results := [], args := [] }

/-- 'ephemerislaw07.PacketPuts': WHATEVER THE INPUT: true; the input reads as it did. -/
def packetPutsSpec : ChangeSpec := { name := "packetPuts", fn := fun _ => fun
  | [d1, d2, d3] => { results := [.lit (.bool true)], args := [d1, d2, d3] }
  | _ => none }
def packetPutsRow : OpenClaim := { program := "ytfnidehbibfclaa", sum := "52f98046c81d74dd114cb0d63d99839ce26f3afc01d8ec72323482fa1435cb35", func := "ephemeris/ephemerislaw07.PacketPuts", spec := "packetPuts", unfollowed := true, recurses := true, apart := false }
def PacketPutsSaid : Prop := packetPutsRow.holds Try.pinned (OpenSpec.ofChange packetPutsSpec)

/-- ITS FALSE NEIGHBOUR: 'it returns false'. Refute it at one input. -/
def packetPutsWrong : ChangeSpec := { name := "packetPuts", fn := fun _ => fun
  | [d1, d2, d3] => { results := [.lit (.bool false)], args := [d1, d2, d3] }
  | _ => none }
def PacketPutsWrongFalsely : Prop := packetPutsRow.holds Try.pinned (OpenSpec.ofChange packetPutsWrong)

/-- 'ephemerislaw07.PacketParses': WHATEVER THE INPUT: true; the input reads as it did. -/
def packetParsesSpec : ChangeSpec := { name := "packetParses", fn := fun _ => fun
  | [d] => { results := [.lit (.bool true)], args := [d] }
  | _ => none }
def packetParsesRow : OpenClaim := { program := "ytfnidehbibfclaa", sum := "52f98046c81d74dd114cb0d63d99839ce26f3afc01d8ec72323482fa1435cb35", func := "ephemeris/ephemerislaw07.PacketParses", spec := "packetParses", unfollowed := true, recurses := true, apart := false }
def PacketParsesSaid : Prop := packetParsesRow.holds Try.pinned (OpenSpec.ofChange packetParsesSpec)

/-- ITS FALSE NEIGHBOUR: 'it returns false'. Refute it at one input. -/
def packetParsesWrong : ChangeSpec := { name := "packetParses", fn := fun _ => fun
  | [d] => { results := [.lit (.bool false)], args := [d] }
  | _ => none }
def PacketParsesWrongFalsely : Prop := packetParsesRow.holds Try.pinned (OpenSpec.ofChange packetParsesWrong)

/-- 'ephemerislaw07.PacketForm': WHATEVER THE INPUT: true; the input reads as it did. -/
def packetFormSpec : ChangeSpec := { name := "packetForm", fn := fun _ => fun
  | [d1, d2] => { results := [.lit (.bool true)], args := [d1, d2] }
  | _ => none }
def packetFormRow : OpenClaim := { program := "ytfnidehbibfclaa", sum := "52f98046c81d74dd114cb0d63d99839ce26f3afc01d8ec72323482fa1435cb35", func := "ephemeris/ephemerislaw07.PacketForm", spec := "packetForm", unfollowed := true, recurses := true, apart := false }
def PacketFormSaid : Prop := packetFormRow.holds Try.pinned (OpenSpec.ofChange packetFormSpec)

/-- ITS FALSE NEIGHBOUR: 'it returns false'. Refute it at one input. -/
def packetFormWrong : ChangeSpec := { name := "packetForm", fn := fun _ => fun
  | [d1, d2] => { results := [.lit (.bool false)], args := [d1, d2] }
  | _ => none }
def PacketFormWrongFalsely : Prop := packetFormRow.holds Try.pinned (OpenSpec.ofChange packetFormWrong)

/-- 'ephemerislaw07.PacketSigns': WHATEVER THE INPUT: true; the input reads as it did. -/
def packetSignsSpec : ChangeSpec := { name := "packetSigns", fn := fun _ => fun
  | [d1, d2, d3] => { results := [.lit (.bool true)], args := [d1, d2, d3] }
  | _ => none }
def packetSignsRow : OpenClaim := { program := "ytfnidehbibfclaa", sum := "52f98046c81d74dd114cb0d63d99839ce26f3afc01d8ec72323482fa1435cb35", func := "ephemeris/ephemerislaw07.PacketSigns", spec := "packetSigns", unfollowed := true, recurses := true, apart := false }
def PacketSignsSaid : Prop := packetSignsRow.holds Try.pinned (OpenSpec.ofChange packetSignsSpec)

/-- ITS FALSE NEIGHBOUR: 'it returns false'. Refute it at one input. -/
def packetSignsWrong : ChangeSpec := { name := "packetSigns", fn := fun _ => fun
  | [d1, d2, d3] => { results := [.lit (.bool false)], args := [d1, d2, d3] }
  | _ => none }
def PacketSignsWrongFalsely : Prop := packetSignsRow.holds Try.pinned (OpenSpec.ofChange packetSignsWrong)

/-- 'ephemerislaw07.PacketLong': WHATEVER THE INPUT: true; the input reads as it did. -/
def packetLongSpec : ChangeSpec := { name := "packetLong", fn := fun _ => fun
  | [d1, d2] => { results := [.lit (.bool true)], args := [d1, d2] }
  | _ => none }
def packetLongRow : OpenClaim := { program := "ytfnidehbibfclaa", sum := "52f98046c81d74dd114cb0d63d99839ce26f3afc01d8ec72323482fa1435cb35", func := "ephemeris/ephemerislaw07.PacketLong", spec := "packetLong", unfollowed := true, recurses := true, apart := false }
def PacketLongSaid : Prop := packetLongRow.holds Try.pinned (OpenSpec.ofChange packetLongSpec)

/-- ITS FALSE NEIGHBOUR: 'it returns false'. Refute it at one input. -/
def packetLongWrong : ChangeSpec := { name := "packetLong", fn := fun _ => fun
  | [d1, d2] => { results := [.lit (.bool false)], args := [d1, d2] }
  | _ => none }
def PacketLongWrongFalsely : Prop := packetLongRow.holds Try.pinned (OpenSpec.ofChange packetLongWrong)

/-- 'ephemerislaw07.PacketKnown': WHATEVER THE INPUT: true; the input reads as it did. -/
def packetKnownSpec : ChangeSpec := { name := "packetKnown", fn := fun _ => fun
  | [] => { results := [.lit (.bool true)], args := [] }
  | _ => none }
def packetKnownRow : OpenClaim := { program := "ytfnidehbibfclaa", sum := "52f98046c81d74dd114cb0d63d99839ce26f3afc01d8ec72323482fa1435cb35", func := "ephemeris/ephemerislaw07.PacketKnown", spec := "packetKnown", unfollowed := true, recurses := true, apart := false }
def PacketKnownSaid : Prop := packetKnownRow.holds Try.pinned (OpenSpec.ofChange packetKnownSpec)

/-- ITS FALSE NEIGHBOUR: 'it returns false'. Refute it at one input. -/
def packetKnownWrong : ChangeSpec := { name := "packetKnown", fn := fun _ => fun
  | [] => { results := [.lit (.bool false)], args := [] }
  | _ => none }
def PacketKnownWrongFalsely : Prop := packetKnownRow.holds Try.pinned (OpenSpec.ofChange packetKnownWrong)

/- THE SECOND FORM. 'bulk': how many values and letters a reading holds, each counted each time it is reached (what is shared counts as often as it is met; a slice's spare places count too). A statement '..UptoSaid' is the law's where the arguments, and the package variables that the reading takes, are together of bulk at most 1048576: NARROWER than '..Said'. Prove '..Said' where nothing that the law and all that it calls make is longer than what came in: it says more and counts as full. Else prove '..UptoSaid'. A law counts once. -/
mutual
def uptoBulk {H : Type} : DataW H → Nat
  | .lit (.string bytes) => bytes.length + 1
  | .lit _ => 1
  | .nil => 1
  | .ptr d => uptoBulk d + 1
  | .slice elems spare => uptoBulkAll elems + uptoBulkAll spare + 1
  | .agg parts => uptoBulkAll parts + 1
  | .iface _ d => uptoBulk d + 1
  | .map entries => uptoBulkEntries entries + 1
  | .held _ => 1
def uptoBulkAll {H : Type} : List (DataW H) → Nat
  | [] => 0
  | d :: r => uptoBulk d + uptoBulkAll r
def uptoBulkEntries {H : Type} : List (Lit × DataW H) → Nat
  | [] => 0
  | x :: r => uptoBulkEntry x + uptoBulkEntries r
def uptoBulkEntry {H : Type} : Lit × DataW H → Nat
  | (.string bytes, d) => bytes.length + uptoBulk d + 1
  | (_, d) => uptoBulk d + 1
 end
def uptoSmall : (H : Type) → List (DataW H) → Bool := fun _ ds => decide (uptoBulkAll ds ≤ 1048576)
def OpenSpec.upto (s : _root_.Go.ChangeSpec) : _root_.Go.OpenSpec := { _root_.Go.OpenSpec.ofChange s with cond := some uptoSmall }

/-- 'ephemerislaw07.PacketPuts', WHERE WHAT IT READS IS OF BULK AT MOST 1048576: true; the input reads as it did. -/
def packetPutsUptoRow : OpenClaim := { program := "ytfnidehbibfclaa", sum := "52f98046c81d74dd114cb0d63d99839ce26f3afc01d8ec72323482fa1435cb35", func := "ephemeris/ephemerislaw07.PacketPuts", spec := "packetPuts", unfollowed := true, recurses := true, apart := false, narrowed := true }
def PacketPutsUptoSaid : Prop := packetPutsUptoRow.holds Try.pinned (OpenSpec.upto packetPutsSpec)

/-- 'ephemerislaw07.PacketParses', WHERE WHAT IT READS IS OF BULK AT MOST 1048576: true; the input reads as it did. -/
def packetParsesUptoRow : OpenClaim := { program := "ytfnidehbibfclaa", sum := "52f98046c81d74dd114cb0d63d99839ce26f3afc01d8ec72323482fa1435cb35", func := "ephemeris/ephemerislaw07.PacketParses", spec := "packetParses", unfollowed := true, recurses := true, apart := false, narrowed := true }
def PacketParsesUptoSaid : Prop := packetParsesUptoRow.holds Try.pinned (OpenSpec.upto packetParsesSpec)

/-- 'ephemerislaw07.PacketForm', WHERE WHAT IT READS IS OF BULK AT MOST 1048576: true; the input reads as it did. -/
def packetFormUptoRow : OpenClaim := { program := "ytfnidehbibfclaa", sum := "52f98046c81d74dd114cb0d63d99839ce26f3afc01d8ec72323482fa1435cb35", func := "ephemeris/ephemerislaw07.PacketForm", spec := "packetForm", unfollowed := true, recurses := true, apart := false, narrowed := true }
def PacketFormUptoSaid : Prop := packetFormUptoRow.holds Try.pinned (OpenSpec.upto packetFormSpec)

/-- 'ephemerislaw07.PacketSigns', WHERE WHAT IT READS IS OF BULK AT MOST 1048576: true; the input reads as it did. -/
def packetSignsUptoRow : OpenClaim := { program := "ytfnidehbibfclaa", sum := "52f98046c81d74dd114cb0d63d99839ce26f3afc01d8ec72323482fa1435cb35", func := "ephemeris/ephemerislaw07.PacketSigns", spec := "packetSigns", unfollowed := true, recurses := true, apart := false, narrowed := true }
def PacketSignsUptoSaid : Prop := packetSignsUptoRow.holds Try.pinned (OpenSpec.upto packetSignsSpec)

/-- 'ephemerislaw07.PacketLong', WHERE WHAT IT READS IS OF BULK AT MOST 1048576: true; the input reads as it did. -/
def packetLongUptoRow : OpenClaim := { program := "ytfnidehbibfclaa", sum := "52f98046c81d74dd114cb0d63d99839ce26f3afc01d8ec72323482fa1435cb35", func := "ephemeris/ephemerislaw07.PacketLong", spec := "packetLong", unfollowed := true, recurses := true, apart := false, narrowed := true }
def PacketLongUptoSaid : Prop := packetLongUptoRow.holds Try.pinned (OpenSpec.upto packetLongSpec)

/-- 'ephemerislaw07.PacketKnown', WHERE WHAT IT READS IS OF BULK AT MOST 1048576: true; the input reads as it did. -/
def packetKnownUptoRow : OpenClaim := { program := "ytfnidehbibfclaa", sum := "52f98046c81d74dd114cb0d63d99839ce26f3afc01d8ec72323482fa1435cb35", func := "ephemeris/ephemerislaw07.PacketKnown", spec := "packetKnown", unfollowed := true, recurses := true, apart := false, narrowed := true }
def PacketKnownUptoSaid : Prop := packetKnownUptoRow.holds Try.pinned (OpenSpec.upto packetKnownSpec)

end Rows
end Go.Proofs.Ytfnidehbibfclaa
