/-
  No cell of these rows narrows 'for every input' (looked for: loops, veiled, ifaces, maps, wideKeys, modest, calm, conditions, laid).
  DERIVED. THE GIVEN ROWS OF THIS SEAT. 5 by the template 'for every input the law returns true; each argument reads behind the call as it read before'; 0 by the template 'total and deterministic' (their statements: YtiaikacfdbcmmaaTotals.lean).
  GIVEN WITH THE SEED: the statements are not yours to turn. If you find one false, say at which input.
  Laid BY PROGRAM, IN A SANDBOX (cutbox-rows.mjs): the forced cells as the released guide's own fill.sh prints them over the translation 934980260d1d4675… (all of the seat's roots in one cut). By AI agents, Wed Nov 11 2026. No macro, syntax, notation, axiom, sorry.
-/
import Derived.Test.YtiaikacfdbcmmaaChecked
import GoSem.Claim
import GoSem.ClaimJoined
import GoSem.ClaimMapViews
import Derived.JoinedTies
import Derived.KernelRfl
namespace Go.Proofs.Ytiaikacfdbcmmaa
/- THE CELL 'sum', in the pinned program and in every row, IS THE sha256 OF THE DUMP (.gsa) THAT YtiaikacfdbcmmaaProg.lean LOADS. Nothing in Lean hashes anything: it is a label: what it is worth is what the hold of that sum in a sandbox is worth. -/
noncomputable def Try.pinned : Pinned := { name := "ytiaikacfdbcmmaa", sum := "934980260d1d467549065f2038ca271ffbfe7fa96e2abed8864de82b839d7033", checked := Try.checked }
namespace Rows
def none {H : Type} : Left H := { results := [], args := [] }

/-- 'handfastlaw11.SheetTells': WHATEVER THE INPUT: true; the input reads as it did. -/
def sheetTellsSpec : ChangeSpec := { name := "sheetTells", fn := fun _ => fun
  | [d1, d2, d3, d4, d5] => { results := [.lit (.bool true)], args := [d1, d2, d3, d4, d5] }
  | _ => none }
def sheetTellsRow : OpenClaim := { program := "ytiaikacfdbcmmaa", sum := "934980260d1d467549065f2038ca271ffbfe7fa96e2abed8864de82b839d7033", func := "handfast/handfastlaw11.SheetTells", spec := "sheetTells", unfollowed := true, recurses := true, apart := false }
def SheetTellsSaid : Prop := sheetTellsRow.holds Try.pinned (OpenSpec.ofChange sheetTellsSpec)

/-- ITS FALSE NEIGHBOUR: 'it returns false'. Refute it at one input. -/
def sheetTellsWrong : ChangeSpec := { name := "sheetTells", fn := fun _ => fun
  | [d1, d2, d3, d4, d5] => { results := [.lit (.bool false)], args := [d1, d2, d3, d4, d5] }
  | _ => none }
def SheetTellsWrongFalsely : Prop := sheetTellsRow.holds Try.pinned (OpenSpec.ofChange sheetTellsWrong)

/-- 'handfastlaw11.SheetBack': WHATEVER THE INPUT: true; the input reads as it did. -/
def sheetBackSpec : ChangeSpec := { name := "sheetBack", fn := fun _ => fun
  | [d1, d2, d3] => { results := [.lit (.bool true)], args := [d1, d2, d3] }
  | _ => none }
def sheetBackRow : OpenClaim := { program := "ytiaikacfdbcmmaa", sum := "934980260d1d467549065f2038ca271ffbfe7fa96e2abed8864de82b839d7033", func := "handfast/handfastlaw11.SheetBack", spec := "sheetBack", unfollowed := true, recurses := true, apart := false }
def SheetBackSaid : Prop := sheetBackRow.holds Try.pinned (OpenSpec.ofChange sheetBackSpec)

/-- ITS FALSE NEIGHBOUR: 'it returns false'. Refute it at one input. -/
def sheetBackWrong : ChangeSpec := { name := "sheetBack", fn := fun _ => fun
  | [d1, d2, d3] => { results := [.lit (.bool false)], args := [d1, d2, d3] }
  | _ => none }
def SheetBackWrongFalsely : Prop := sheetBackRow.holds Try.pinned (OpenSpec.ofChange sheetBackWrong)

/-- 'handfastlaw11.SheetOnly': WHATEVER THE INPUT: true; the input reads as it did. -/
def sheetOnlySpec : ChangeSpec := { name := "sheetOnly", fn := fun _ => fun
  | [d] => { results := [.lit (.bool true)], args := [d] }
  | _ => none }
def sheetOnlyRow : OpenClaim := { program := "ytiaikacfdbcmmaa", sum := "934980260d1d467549065f2038ca271ffbfe7fa96e2abed8864de82b839d7033", func := "handfast/handfastlaw11.SheetOnly", spec := "sheetOnly", unfollowed := true, recurses := true, apart := false }
def SheetOnlySaid : Prop := sheetOnlyRow.holds Try.pinned (OpenSpec.ofChange sheetOnlySpec)

/-- ITS FALSE NEIGHBOUR: 'it returns false'. Refute it at one input. -/
def sheetOnlyWrong : ChangeSpec := { name := "sheetOnly", fn := fun _ => fun
  | [d] => { results := [.lit (.bool false)], args := [d] }
  | _ => none }
def SheetOnlyWrongFalsely : Prop := sheetOnlyRow.holds Try.pinned (OpenSpec.ofChange sheetOnlyWrong)

/-- 'handfastlaw11.SheetDelta': WHATEVER THE INPUT: true; the input reads as it did. -/
def sheetDeltaSpec : ChangeSpec := { name := "sheetDelta", fn := fun _ => fun
  | [d1, d2] => { results := [.lit (.bool true)], args := [d1, d2] }
  | _ => none }
def sheetDeltaRow : OpenClaim := { program := "ytiaikacfdbcmmaa", sum := "934980260d1d467549065f2038ca271ffbfe7fa96e2abed8864de82b839d7033", func := "handfast/handfastlaw11.SheetDelta", spec := "sheetDelta", unfollowed := true, recurses := true, apart := false }
def SheetDeltaSaid : Prop := sheetDeltaRow.holds Try.pinned (OpenSpec.ofChange sheetDeltaSpec)

/-- ITS FALSE NEIGHBOUR: 'it returns false'. Refute it at one input. -/
def sheetDeltaWrong : ChangeSpec := { name := "sheetDelta", fn := fun _ => fun
  | [d1, d2] => { results := [.lit (.bool false)], args := [d1, d2] }
  | _ => none }
def SheetDeltaWrongFalsely : Prop := sheetDeltaRow.holds Try.pinned (OpenSpec.ofChange sheetDeltaWrong)

/-- 'handfastlaw11.SheetWhole': WHATEVER THE INPUT: true; the input reads as it did. -/
def sheetWholeSpec : ChangeSpec := { name := "sheetWhole", fn := fun _ => fun
  | [d1, d2] => { results := [.lit (.bool true)], args := [d1, d2] }
  | _ => none }
def sheetWholeRow : OpenClaim := { program := "ytiaikacfdbcmmaa", sum := "934980260d1d467549065f2038ca271ffbfe7fa96e2abed8864de82b839d7033", func := "handfast/handfastlaw11.SheetWhole", spec := "sheetWhole", unfollowed := true, recurses := true, apart := false }
def SheetWholeSaid : Prop := sheetWholeRow.holds Try.pinned (OpenSpec.ofChange sheetWholeSpec)

/-- ITS FALSE NEIGHBOUR: 'it returns false'. Refute it at one input. -/
def sheetWholeWrong : ChangeSpec := { name := "sheetWhole", fn := fun _ => fun
  | [d1, d2] => { results := [.lit (.bool false)], args := [d1, d2] }
  | _ => none }
def SheetWholeWrongFalsely : Prop := sheetWholeRow.holds Try.pinned (OpenSpec.ofChange sheetWholeWrong)

/- THE SECOND FORM. 'bulk': how many values and letters a reading holds, each counted each time it is reached (what is shared counts as often as it is met; a slice's spare places count too). A statement '..UptoSaid' is the law's where the arguments, and the package variables that the reading takes, are together of bulk at most 1048576: NARROWER than '..Said'. Prove '..Said' where nothing that the law and all that it calls make is longer than what came in: it says more and counts as full. Else prove '..UptoSaid'. A law counts once. -/
mutual
def uptoBulk {H : Type} : DataW H → Nat
  | .lit (.string bytes) => bytes.length + 1
  | .lit _ => 1
  | .nil => 1
  | .ptr d => uptoBulk d + 1
  | .slice elems spare => uptoBulkAll elems + uptoBulkAll spare + 1
  | .agg parts => uptoBulkAll parts + 1
  | .iface _ d => uptoBulk d + 1
  | .map entries => uptoBulkEntries entries + 1
  | .held _ => 1
def uptoBulkAll {H : Type} : List (DataW H) → Nat
  | [] => 0
  | d :: r => uptoBulk d + uptoBulkAll r
def uptoBulkEntries {H : Type} : List (Lit × DataW H) → Nat
  | [] => 0
  | x :: r => uptoBulkEntry x + uptoBulkEntries r
def uptoBulkEntry {H : Type} : Lit × DataW H → Nat
  | (.string bytes, d) => bytes.length + uptoBulk d + 1
  | (_, d) => uptoBulk d + 1
 end
def uptoSmall : (H : Type) → List (DataW H) → Bool := fun _ ds => decide (uptoBulkAll ds ≤ 1048576)
def OpenSpec.upto (s : _root_.Go.ChangeSpec) : _root_.Go.OpenSpec := { _root_.Go.OpenSpec.ofChange s with cond := some uptoSmall }

/-- 'handfastlaw11.SheetTells', WHERE WHAT IT READS IS OF BULK AT MOST 1048576: true; the input reads as it did. -/
def sheetTellsUptoRow : OpenClaim := { program := "ytiaikacfdbcmmaa", sum := "934980260d1d467549065f2038ca271ffbfe7fa96e2abed8864de82b839d7033", func := "handfast/handfastlaw11.SheetTells", spec := "sheetTells", unfollowed := true, recurses := true, apart := false, narrowed := true }
def SheetTellsUptoSaid : Prop := sheetTellsUptoRow.holds Try.pinned (OpenSpec.upto sheetTellsSpec)

/-- 'handfastlaw11.SheetBack', WHERE WHAT IT READS IS OF BULK AT MOST 1048576: true; the input reads as it did. -/
def sheetBackUptoRow : OpenClaim := { program := "ytiaikacfdbcmmaa", sum := "934980260d1d467549065f2038ca271ffbfe7fa96e2abed8864de82b839d7033", func := "handfast/handfastlaw11.SheetBack", spec := "sheetBack", unfollowed := true, recurses := true, apart := false, narrowed := true }
def SheetBackUptoSaid : Prop := sheetBackUptoRow.holds Try.pinned (OpenSpec.upto sheetBackSpec)

/-- 'handfastlaw11.SheetOnly', WHERE WHAT IT READS IS OF BULK AT MOST 1048576: true; the input reads as it did. -/
def sheetOnlyUptoRow : OpenClaim := { program := "ytiaikacfdbcmmaa", sum := "934980260d1d467549065f2038ca271ffbfe7fa96e2abed8864de82b839d7033", func := "handfast/handfastlaw11.SheetOnly", spec := "sheetOnly", unfollowed := true, recurses := true, apart := false, narrowed := true }
def SheetOnlyUptoSaid : Prop := sheetOnlyUptoRow.holds Try.pinned (OpenSpec.upto sheetOnlySpec)

/-- 'handfastlaw11.SheetDelta', WHERE WHAT IT READS IS OF BULK AT MOST 1048576: true; the input reads as it did. -/
def sheetDeltaUptoRow : OpenClaim := { program := "ytiaikacfdbcmmaa", sum := "934980260d1d467549065f2038ca271ffbfe7fa96e2abed8864de82b839d7033", func := "handfast/handfastlaw11.SheetDelta", spec := "sheetDelta", unfollowed := true, recurses := true, apart := false, narrowed := true }
def SheetDeltaUptoSaid : Prop := sheetDeltaUptoRow.holds Try.pinned (OpenSpec.upto sheetDeltaSpec)

/-- 'handfastlaw11.SheetWhole', WHERE WHAT IT READS IS OF BULK AT MOST 1048576: true; the input reads as it did. -/
def sheetWholeUptoRow : OpenClaim := { program := "ytiaikacfdbcmmaa", sum := "934980260d1d467549065f2038ca271ffbfe7fa96e2abed8864de82b839d7033", func := "handfast/handfastlaw11.SheetWhole", spec := "sheetWhole", unfollowed := true, recurses := true, apart := false, narrowed := true }
def SheetWholeUptoSaid : Prop := sheetWholeUptoRow.holds Try.pinned (OpenSpec.upto sheetWholeSpec)

end Rows
end Go.Proofs.Ytiaikacfdbcmmaa
