/-
  DERIVED. GIVEN WITH THE SEED: THE CARDS: each row of YtnncmcfonkhckaaDoorRows.lean that lists a variable, with what it lists TIED to the program's text (the seventh form; the later family's looks); each row that meets fmt, with fmt's text TOLD by the authors' own Lean function (tested against real Go, not proved from fmt's source: count such statements apart). THE CARD IS WHAT COUNTS. Prove the row's statement (the work); the ties are given (YtnncmcfonkhckaaDoorTie.lean); close each card by the builder's one call (the guide's Derived/Test/ToyasCard.lean, 'card_holds'). Laid BY PROGRAM, IN A SANDBOX (cutbox-door.mjs). By AI agents, Wed Nov 11 2026. No macro, syntax, notation, axiom, sorry.
-/
import Derived.Test.YtnncmcfonkhckaaDoorRows
import GoSem.ClaimSeven
namespace Go.Proofs.YtnncmcfonkhckaaDoor
namespace Rows

/-- THE TIED CARD OF 'handfastlaw05.PacketTells'. -/
def packetTellsCard : Claim7 := { stood := { row := packetTellsRow, standIns := [], harness := (true, "63e0632a9c2a35f70a0d36ffc96181077d497ab1037d2e40bbc35b6cbc0841f0"), looks := false }, kinds := [], alts := [], laidByText := true, laidKinds := [.data], laidTests := true, laidLooks := .later }
def PacketTellsCardSaid : Prop := Claim7.holds Tryd.pinned (.plain (OpenSpec.ofChange packetTellsSpec)) packetTellsCard

/-- THE TIED CARD OF 'handfastlaw05.PacketBack'. -/
def packetBackCard : Claim7 := { stood := { row := packetBackRow, standIns := [], harness := (true, "63e0632a9c2a35f70a0d36ffc96181077d497ab1037d2e40bbc35b6cbc0841f0"), looks := false }, kinds := [], alts := [], laidByText := true, laidKinds := [.data], laidTests := true, laidLooks := .later }
def PacketBackCardSaid : Prop := Claim7.holds Tryd.pinned (.plain (OpenSpec.ofChange packetBackSpec)) packetBackCard

/-- THE TIED CARD OF 'handfastlaw05.PacketReasons'. -/
def packetReasonsCard : Claim7 := { stood := { row := packetReasonsRow, standIns := [], harness := (true, "63e0632a9c2a35f70a0d36ffc96181077d497ab1037d2e40bbc35b6cbc0841f0"), looks := false }, kinds := [], alts := [], laidByText := true, laidKinds := [.data], laidTests := true, laidLooks := .later }
def PacketReasonsCardSaid : Prop := Claim7.holds Tryd.pinned (.plain (OpenSpec.ofChange packetReasonsSpec)) packetReasonsCard

/-- THE TIED CARD OF 'handfastlaw05.PacketFlags'. -/
def packetFlagsCard : Claim7 := { stood := { row := packetFlagsRow, standIns := [], harness := (true, "63e0632a9c2a35f70a0d36ffc96181077d497ab1037d2e40bbc35b6cbc0841f0"), looks := false }, kinds := [], alts := [], laidByText := true, laidKinds := [.data], laidTests := true, laidLooks := .later }
def PacketFlagsCardSaid : Prop := Claim7.holds Tryd.pinned (.plain (OpenSpec.ofChange packetFlagsSpec)) packetFlagsCard

/-- THE SECOND FORM's CARD OF 'handfastlaw05.PacketTells'. -/
def packetTellsUptoCard : Claim7 := { stood := { row := packetTellsUptoRow, standIns := [], harness := (true, "63e0632a9c2a35f70a0d36ffc96181077d497ab1037d2e40bbc35b6cbc0841f0"), looks := false }, kinds := [], alts := [], laidByText := true, laidKinds := [.data], laidTests := true, laidLooks := .later }
def PacketTellsUptoCardSaid : Prop := Claim7.holds Tryd.pinned (.plain (OpenSpec.upto packetTellsSpec)) packetTellsUptoCard

/-- THE SECOND FORM's CARD OF 'handfastlaw05.PacketBack'. -/
def packetBackUptoCard : Claim7 := { stood := { row := packetBackUptoRow, standIns := [], harness := (true, "63e0632a9c2a35f70a0d36ffc96181077d497ab1037d2e40bbc35b6cbc0841f0"), looks := false }, kinds := [], alts := [], laidByText := true, laidKinds := [.data], laidTests := true, laidLooks := .later }
def PacketBackUptoCardSaid : Prop := Claim7.holds Tryd.pinned (.plain (OpenSpec.upto packetBackSpec)) packetBackUptoCard

/-- THE SECOND FORM's CARD OF 'handfastlaw05.PacketReasons'. -/
def packetReasonsUptoCard : Claim7 := { stood := { row := packetReasonsUptoRow, standIns := [], harness := (true, "63e0632a9c2a35f70a0d36ffc96181077d497ab1037d2e40bbc35b6cbc0841f0"), looks := false }, kinds := [], alts := [], laidByText := true, laidKinds := [.data], laidTests := true, laidLooks := .later }
def PacketReasonsUptoCardSaid : Prop := Claim7.holds Tryd.pinned (.plain (OpenSpec.upto packetReasonsSpec)) packetReasonsUptoCard

/-- THE SECOND FORM's CARD OF 'handfastlaw05.PacketFlags'. -/
def packetFlagsUptoCard : Claim7 := { stood := { row := packetFlagsUptoRow, standIns := [], harness := (true, "63e0632a9c2a35f70a0d36ffc96181077d497ab1037d2e40bbc35b6cbc0841f0"), looks := false }, kinds := [], alts := [], laidByText := true, laidKinds := [.data], laidTests := true, laidLooks := .later }
def PacketFlagsUptoCardSaid : Prop := Claim7.holds Tryd.pinned (.plain (OpenSpec.upto packetFlagsSpec)) packetFlagsUptoCard
end Rows
end Go.Proofs.YtnncmcfonkhckaaDoor
