/-
  DERIVED. GIVEN WITH THE SEED: THE CARDS: each row of YtjofijigfkkidaaDoorRows.lean that lists a variable, with what it lists TIED to the program's text (the seventh form; the later family's looks); each row that meets fmt, with fmt's text TOLD by the authors' own Lean function (tested against real Go, not proved from fmt's source: count such statements apart). THE CARD IS WHAT COUNTS. Prove the row's statement (the work); the ties are given (YtjofijigfkkidaaDoorTie.lean); close each card by the builder's one call (the guide's Derived/Test/ToyasCard.lean, 'card_holds'). Laid BY PROGRAM, IN A SANDBOX (cutbox-door.mjs). By AI agents, Wed Nov 11 2026. No macro, syntax, notation, axiom, sorry.
-/
import Derived.Test.YtjofijigfkkidaaDoorRows
import GoSem.ClaimSeven
namespace Go.Proofs.YtjofijigfkkidaaDoor
namespace Rows

/-- THE TIED CARD OF 'handfastlaw02.IpTells'. -/
def ipTellsCard : Claim7 := { stood := { row := ipTellsRow, standIns := [], harness := (true, "9576e94e3d47a31ad528581677b0c88c013340df377e340a2c12eda2995ee704"), looks := false }, kinds := [], alts := [], laidByText := true, laidKinds := [.data], laidTests := true, laidLooks := .later }
def IpTellsCardSaid : Prop := Claim7.holds Tryd.pinned (.plain (OpenSpec.ofChange ipTellsSpec)) ipTellsCard

/-- THE TIED CARD OF 'handfastlaw02.IpBack'. -/
def ipBackCard : Claim7 := { stood := { row := ipBackRow, standIns := [], harness := (true, "9576e94e3d47a31ad528581677b0c88c013340df377e340a2c12eda2995ee704"), looks := false }, kinds := [], alts := [], laidByText := true, laidKinds := [.data], laidTests := true, laidLooks := .later }
def IpBackCardSaid : Prop := Claim7.holds Tryd.pinned (.plain (OpenSpec.ofChange ipBackSpec)) ipBackCard

/-- THE TIED CARD OF 'handfastlaw02.IpByte'. -/
def ipByteCard : Claim7 := { stood := { row := ipByteRow, standIns := [], harness := (true, "9576e94e3d47a31ad528581677b0c88c013340df377e340a2c12eda2995ee704"), looks := false }, kinds := [], alts := [], laidByText := true, laidKinds := [.data], laidTests := true, laidLooks := .later }
def IpByteCardSaid : Prop := Claim7.holds Tryd.pinned (.plain (OpenSpec.ofChange ipByteSpec)) ipByteCard

/-- THE TIED CARD OF 'handfastlaw02.IpReasons'. -/
def ipReasonsCard : Claim7 := { stood := { row := ipReasonsRow, standIns := [], harness := (true, "9576e94e3d47a31ad528581677b0c88c013340df377e340a2c12eda2995ee704"), looks := false }, kinds := [], alts := [], laidByText := true, laidKinds := [.data], laidTests := true, laidLooks := .later }
def IpReasonsCardSaid : Prop := Claim7.holds Tryd.pinned (.plain (OpenSpec.ofChange ipReasonsSpec)) ipReasonsCard

/-- THE TIED CARD OF 'handfastlaw02.IpOwn'. -/
def ipOwnCard : Claim7 := { stood := { row := ipOwnRow, standIns := [], harness := (true, "9576e94e3d47a31ad528581677b0c88c013340df377e340a2c12eda2995ee704"), looks := false }, kinds := [], alts := [], laidByText := true, laidKinds := [.data], laidTests := true, laidLooks := .later }
def IpOwnCardSaid : Prop := Claim7.holds Tryd.pinned (.plain (OpenSpec.ofChange ipOwnSpec)) ipOwnCard

/-- THE SECOND FORM's CARD OF 'handfastlaw02.IpTells'. -/
def ipTellsUptoCard : Claim7 := { stood := { row := ipTellsUptoRow, standIns := [], harness := (true, "9576e94e3d47a31ad528581677b0c88c013340df377e340a2c12eda2995ee704"), looks := false }, kinds := [], alts := [], laidByText := true, laidKinds := [.data], laidTests := true, laidLooks := .later }
def IpTellsUptoCardSaid : Prop := Claim7.holds Tryd.pinned (.plain (OpenSpec.upto ipTellsSpec)) ipTellsUptoCard

/-- THE SECOND FORM's CARD OF 'handfastlaw02.IpBack'. -/
def ipBackUptoCard : Claim7 := { stood := { row := ipBackUptoRow, standIns := [], harness := (true, "9576e94e3d47a31ad528581677b0c88c013340df377e340a2c12eda2995ee704"), looks := false }, kinds := [], alts := [], laidByText := true, laidKinds := [.data], laidTests := true, laidLooks := .later }
def IpBackUptoCardSaid : Prop := Claim7.holds Tryd.pinned (.plain (OpenSpec.upto ipBackSpec)) ipBackUptoCard

/-- THE SECOND FORM's CARD OF 'handfastlaw02.IpByte'. -/
def ipByteUptoCard : Claim7 := { stood := { row := ipByteUptoRow, standIns := [], harness := (true, "9576e94e3d47a31ad528581677b0c88c013340df377e340a2c12eda2995ee704"), looks := false }, kinds := [], alts := [], laidByText := true, laidKinds := [.data], laidTests := true, laidLooks := .later }
def IpByteUptoCardSaid : Prop := Claim7.holds Tryd.pinned (.plain (OpenSpec.upto ipByteSpec)) ipByteUptoCard

/-- THE SECOND FORM's CARD OF 'handfastlaw02.IpReasons'. -/
def ipReasonsUptoCard : Claim7 := { stood := { row := ipReasonsUptoRow, standIns := [], harness := (true, "9576e94e3d47a31ad528581677b0c88c013340df377e340a2c12eda2995ee704"), looks := false }, kinds := [], alts := [], laidByText := true, laidKinds := [.data], laidTests := true, laidLooks := .later }
def IpReasonsUptoCardSaid : Prop := Claim7.holds Tryd.pinned (.plain (OpenSpec.upto ipReasonsSpec)) ipReasonsUptoCard

/-- THE SECOND FORM's CARD OF 'handfastlaw02.IpOwn'. -/
def ipOwnUptoCard : Claim7 := { stood := { row := ipOwnUptoRow, standIns := [], harness := (true, "9576e94e3d47a31ad528581677b0c88c013340df377e340a2c12eda2995ee704"), looks := false }, kinds := [], alts := [], laidByText := true, laidKinds := [.data], laidTests := true, laidLooks := .later }
def IpOwnUptoCardSaid : Prop := Claim7.holds Tryd.pinned (.plain (OpenSpec.upto ipOwnSpec)) ipOwnUptoCard
end Rows
end Go.Proofs.YtjofijigfkkidaaDoor
