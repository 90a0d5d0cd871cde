/-
  DERIVED. GIVEN WITH THE SEED: THE CARDS: each row of YthenbpnlmpeafaaDoorRows.lean that lists a variable, with what it lists TIED to the program's text (the seventh form; the later family's looks); each row that meets fmt, with fmt's text TOLD by the authors' own Lean function (tested against real Go, not proved from fmt's source: count such statements apart). THE CARD IS WHAT COUNTS. Prove the row's statement (the work); the ties are given (YthenbpnlmpeafaaDoorTie.lean); close each card by the builder's one call (the guide's Derived/Test/ToyasCard.lean, 'card_holds'). Laid BY PROGRAM, IN A SANDBOX (cutbox-door.mjs). By AI agents, Wed Nov 11 2026. No macro, syntax, notation, axiom, sorry.
-/
import Derived.Test.YthenbpnlmpeafaaDoorRows
import GoSem.ClaimSeven
namespace Go.Proofs.YthenbpnlmpeafaaDoor
namespace Rows

/-- THE TIED CARD OF 'handfastlaw07.EncapTells'. -/
def encapTellsCard : Claim7 := { stood := { row := encapTellsRow, standIns := [], harness := (true, "7cd01de091f8aecc9ebb0e4334c82f597796458333cd3aa990a34fea72ccb0b1"), looks := false }, kinds := [], alts := [], laidByText := true, laidKinds := [.data], laidTests := true, laidLooks := .later }
def EncapTellsCardSaid : Prop := Claim7.holds Tryd.pinned (.plain (OpenSpec.ofChange encapTellsSpec)) encapTellsCard

/-- THE TIED CARD OF 'handfastlaw07.EncapBack'. -/
def encapBackCard : Claim7 := { stood := { row := encapBackRow, standIns := [], harness := (true, "7cd01de091f8aecc9ebb0e4334c82f597796458333cd3aa990a34fea72ccb0b1"), looks := false }, kinds := [], alts := [], laidByText := true, laidKinds := [.data], laidTests := true, laidLooks := .later }
def EncapBackCardSaid : Prop := Claim7.holds Tryd.pinned (.plain (OpenSpec.ofChange encapBackSpec)) encapBackCard

/-- THE TIED CARD OF 'handfastlaw07.EncapOnly'. -/
def encapOnlyCard : Claim7 := { stood := { row := encapOnlyRow, standIns := [], harness := (true, "7cd01de091f8aecc9ebb0e4334c82f597796458333cd3aa990a34fea72ccb0b1"), looks := false }, kinds := [], alts := [], laidByText := true, laidKinds := [.data], laidTests := true, laidLooks := .later }
def EncapOnlyCardSaid : Prop := Claim7.holds Tryd.pinned (.plain (OpenSpec.ofChange encapOnlySpec)) encapOnlyCard

/-- THE TIED CARD OF 'handfastlaw07.EncapNodes'. -/
def encapNodesCard : Claim7 := { stood := { row := encapNodesRow, standIns := [], harness := (true, "7cd01de091f8aecc9ebb0e4334c82f597796458333cd3aa990a34fea72ccb0b1"), looks := false }, kinds := [], alts := [], laidByText := true, laidKinds := [.data], laidTests := true, laidLooks := .later }
def EncapNodesCardSaid : Prop := Claim7.holds Tryd.pinned (.plain (OpenSpec.ofChange encapNodesSpec)) encapNodesCard

/-- THE TIED CARD OF 'handfastlaw07.EncapOwn'. -/
def encapOwnCard : Claim7 := { stood := { row := encapOwnRow, standIns := [], harness := (true, "7cd01de091f8aecc9ebb0e4334c82f597796458333cd3aa990a34fea72ccb0b1"), looks := false }, kinds := [], alts := [], laidByText := true, laidKinds := [.data], laidTests := true, laidLooks := .later }
def EncapOwnCardSaid : Prop := Claim7.holds Tryd.pinned (.plain (OpenSpec.ofChange encapOwnSpec)) encapOwnCard

/-- THE SECOND FORM's CARD OF 'handfastlaw07.EncapTells'. -/
def encapTellsUptoCard : Claim7 := { stood := { row := encapTellsUptoRow, standIns := [], harness := (true, "7cd01de091f8aecc9ebb0e4334c82f597796458333cd3aa990a34fea72ccb0b1"), looks := false }, kinds := [], alts := [], laidByText := true, laidKinds := [.data], laidTests := true, laidLooks := .later }
def EncapTellsUptoCardSaid : Prop := Claim7.holds Tryd.pinned (.plain (OpenSpec.upto encapTellsSpec)) encapTellsUptoCard

/-- THE SECOND FORM's CARD OF 'handfastlaw07.EncapBack'. -/
def encapBackUptoCard : Claim7 := { stood := { row := encapBackUptoRow, standIns := [], harness := (true, "7cd01de091f8aecc9ebb0e4334c82f597796458333cd3aa990a34fea72ccb0b1"), looks := false }, kinds := [], alts := [], laidByText := true, laidKinds := [.data], laidTests := true, laidLooks := .later }
def EncapBackUptoCardSaid : Prop := Claim7.holds Tryd.pinned (.plain (OpenSpec.upto encapBackSpec)) encapBackUptoCard

/-- THE SECOND FORM's CARD OF 'handfastlaw07.EncapOnly'. -/
def encapOnlyUptoCard : Claim7 := { stood := { row := encapOnlyUptoRow, standIns := [], harness := (true, "7cd01de091f8aecc9ebb0e4334c82f597796458333cd3aa990a34fea72ccb0b1"), looks := false }, kinds := [], alts := [], laidByText := true, laidKinds := [.data], laidTests := true, laidLooks := .later }
def EncapOnlyUptoCardSaid : Prop := Claim7.holds Tryd.pinned (.plain (OpenSpec.upto encapOnlySpec)) encapOnlyUptoCard

/-- THE SECOND FORM's CARD OF 'handfastlaw07.EncapNodes'. -/
def encapNodesUptoCard : Claim7 := { stood := { row := encapNodesUptoRow, standIns := [], harness := (true, "7cd01de091f8aecc9ebb0e4334c82f597796458333cd3aa990a34fea72ccb0b1"), looks := false }, kinds := [], alts := [], laidByText := true, laidKinds := [.data], laidTests := true, laidLooks := .later }
def EncapNodesUptoCardSaid : Prop := Claim7.holds Tryd.pinned (.plain (OpenSpec.upto encapNodesSpec)) encapNodesUptoCard

/-- THE SECOND FORM's CARD OF 'handfastlaw07.EncapOwn'. -/
def encapOwnUptoCard : Claim7 := { stood := { row := encapOwnUptoRow, standIns := [], harness := (true, "7cd01de091f8aecc9ebb0e4334c82f597796458333cd3aa990a34fea72ccb0b1"), looks := false }, kinds := [], alts := [], laidByText := true, laidKinds := [.data], laidTests := true, laidLooks := .later }
def EncapOwnUptoCardSaid : Prop := Claim7.holds Tryd.pinned (.plain (OpenSpec.upto encapOwnSpec)) encapOwnUptoCard
end Rows
end Go.Proofs.YthenbpnlmpeafaaDoor
