/-
  No cell of these rows narrows 'for every input' (looked for: loops, veiled, ifaces, maps, wideKeys, modest, calm, conditions, laid).
  DERIVED. THE GIVEN ROWS OF THIS SEAT. 6 by the template 'for every input the law returns true; each argument reads behind the call as it read before'; 0 by the template 'total and deterministic' (their statements: YthgoopdekllanaaTotals.lean).
  GIVEN WITH THE SEED: the statements are not yours to turn. If you find one false, say at which input.
  Laid BY PROGRAM, IN A SANDBOX (cutbox-rows.mjs): the forced cells as the released guide's own fill.sh prints them over the translation fc41852245999511… (all of the seat's roots in one cut). By AI agents, Wed Nov 11 2026. No macro, syntax, notation, axiom, sorry.
-/
import Derived.Test.YthgoopdekllanaaChecked
import GoSem.Claim
import GoSem.ClaimJoined
import GoSem.ClaimMapViews
import Derived.JoinedTies
import Derived.KernelRfl
namespace Go.Proofs.Ythgoopdekllanaa
/- THE CELL 'sum', in the pinned program and in every row, IS THE sha256 OF THE DUMP (.gsa) THAT YthgoopdekllanaaProg.lean LOADS. Nothing in Lean hashes anything: it is a label: what it is worth is what the hold of that sum in a sandbox is worth. -/
noncomputable def Try.pinned : Pinned := { name := "ythgoopdekllanaa", sum := "fc418522459995115459f2e5cb8aacdcb8d8905a4fa8acfa165eee870e87163b", checked := Try.checked }
namespace Rows
def none {H : Type} : Left H := { results := [], args := [] }

/-- 'handfastlaw11.SheetTells': WHATEVER THE INPUT: true; the input reads as it did. -/
def sheetTellsSpec : ChangeSpec := { name := "sheetTells", fn := fun _ => fun
  | [d1, d2, d3, d4, d5] => { results := [.lit (.bool true)], args := [d1, d2, d3, d4, d5] }
  | _ => none }
def sheetTellsRow : OpenClaim := { program := "ythgoopdekllanaa", sum := "fc418522459995115459f2e5cb8aacdcb8d8905a4fa8acfa165eee870e87163b", func := "handfast/handfastlaw11.SheetTells", spec := "sheetTells", unfollowed := true, recurses := true, apart := false }
def SheetTellsSaid : Prop := sheetTellsRow.holds Try.pinned (OpenSpec.ofChange sheetTellsSpec)

/-- ITS FALSE NEIGHBOUR: 'it returns false'. Refute it at one input. -/
def sheetTellsWrong : ChangeSpec := { name := "sheetTells", fn := fun _ => fun
  | [d1, d2, d3, d4, d5] => { results := [.lit (.bool false)], args := [d1, d2, d3, d4, d5] }
  | _ => none }
def SheetTellsWrongFalsely : Prop := sheetTellsRow.holds Try.pinned (OpenSpec.ofChange sheetTellsWrong)

/-- 'handfastlaw12.ClientTells': WHATEVER THE INPUT: true; the input reads as it did. -/
def clientTellsSpec : ChangeSpec := { name := "clientTells", fn := fun _ => fun
  | [d1, d2, d3, d4] => { results := [.lit (.bool true)], args := [d1, d2, d3, d4] }
  | _ => none }
def clientTellsRow : OpenClaim := { program := "ythgoopdekllanaa", sum := "fc418522459995115459f2e5cb8aacdcb8d8905a4fa8acfa165eee870e87163b", func := "handfast/handfastlaw12.ClientTells", spec := "clientTells", unfollowed := true, recurses := true, apart := false }
def ClientTellsSaid : Prop := clientTellsRow.holds Try.pinned (OpenSpec.ofChange clientTellsSpec)

/-- ITS FALSE NEIGHBOUR: 'it returns false'. Refute it at one input. -/
def clientTellsWrong : ChangeSpec := { name := "clientTells", fn := fun _ => fun
  | [d1, d2, d3, d4] => { results := [.lit (.bool false)], args := [d1, d2, d3, d4] }
  | _ => none }
def ClientTellsWrongFalsely : Prop := clientTellsRow.holds Try.pinned (OpenSpec.ofChange clientTellsWrong)

/-- 'handfastlaw12.ClientSame': WHATEVER THE INPUT: true; the input reads as it did. -/
def clientSameSpec : ChangeSpec := { name := "clientSame", fn := fun _ => fun
  | [d1, d2] => { results := [.lit (.bool true)], args := [d1, d2] }
  | _ => none }
def clientSameRow : OpenClaim := { program := "ythgoopdekllanaa", sum := "fc418522459995115459f2e5cb8aacdcb8d8905a4fa8acfa165eee870e87163b", func := "handfast/handfastlaw12.ClientSame", spec := "clientSame", unfollowed := true, recurses := true, apart := false }
def ClientSameSaid : Prop := clientSameRow.holds Try.pinned (OpenSpec.ofChange clientSameSpec)

/-- ITS FALSE NEIGHBOUR: 'it returns false'. Refute it at one input. -/
def clientSameWrong : ChangeSpec := { name := "clientSame", fn := fun _ => fun
  | [d1, d2] => { results := [.lit (.bool false)], args := [d1, d2] }
  | _ => none }
def ClientSameWrongFalsely : Prop := clientSameRow.holds Try.pinned (OpenSpec.ofChange clientSameWrong)

/-- 'handfastlaw12.ClientTakes': WHATEVER THE INPUT: true; the input reads as it did. -/
def clientTakesSpec : ChangeSpec := { name := "clientTakes", fn := fun _ => fun
  | [d1, d2] => { results := [.lit (.bool true)], args := [d1, d2] }
  | _ => none }
def clientTakesRow : OpenClaim := { program := "ythgoopdekllanaa", sum := "fc418522459995115459f2e5cb8aacdcb8d8905a4fa8acfa165eee870e87163b", func := "handfast/handfastlaw12.ClientTakes", spec := "clientTakes", unfollowed := true, recurses := true, apart := false }
def ClientTakesSaid : Prop := clientTakesRow.holds Try.pinned (OpenSpec.ofChange clientTakesSpec)

/-- ITS FALSE NEIGHBOUR: 'it returns false'. Refute it at one input. -/
def clientTakesWrong : ChangeSpec := { name := "clientTakes", fn := fun _ => fun
  | [d1, d2] => { results := [.lit (.bool false)], args := [d1, d2] }
  | _ => none }
def ClientTakesWrongFalsely : Prop := clientTakesRow.holds Try.pinned (OpenSpec.ofChange clientTakesWrong)

/-- 'handfastlaw12.ClientBytes': WHATEVER THE INPUT: true; the input reads as it did. -/
def clientBytesSpec : ChangeSpec := { name := "clientBytes", fn := fun _ => fun
  | [d1, d2, d3] => { results := [.lit (.bool true)], args := [d1, d2, d3] }
  | _ => none }
def clientBytesRow : OpenClaim := { program := "ythgoopdekllanaa", sum := "fc418522459995115459f2e5cb8aacdcb8d8905a4fa8acfa165eee870e87163b", func := "handfast/handfastlaw12.ClientBytes", spec := "clientBytes", unfollowed := true, recurses := true, apart := false }
def ClientBytesSaid : Prop := clientBytesRow.holds Try.pinned (OpenSpec.ofChange clientBytesSpec)

/-- ITS FALSE NEIGHBOUR: 'it returns false'. Refute it at one input. -/
def clientBytesWrong : ChangeSpec := { name := "clientBytes", fn := fun _ => fun
  | [d1, d2, d3] => { results := [.lit (.bool false)], args := [d1, d2, d3] }
  | _ => none }
def ClientBytesWrongFalsely : Prop := clientBytesRow.holds Try.pinned (OpenSpec.ofChange clientBytesWrong)

/-- 'handfastlaw12.ClientRows': WHATEVER THE INPUT: true; the input reads as it did. -/
def clientRowsSpec : ChangeSpec := { name := "clientRows", fn := fun _ => fun
  | [d1, d2] => { results := [.lit (.bool true)], args := [d1, d2] }
  | _ => none }
def clientRowsRow : OpenClaim := { program := "ythgoopdekllanaa", sum := "fc418522459995115459f2e5cb8aacdcb8d8905a4fa8acfa165eee870e87163b", func := "handfast/handfastlaw12.ClientRows", spec := "clientRows", unfollowed := true, recurses := true, apart := false }
def ClientRowsSaid : Prop := clientRowsRow.holds Try.pinned (OpenSpec.ofChange clientRowsSpec)

/-- ITS FALSE NEIGHBOUR: 'it returns false'. Refute it at one input. -/
def clientRowsWrong : ChangeSpec := { name := "clientRows", fn := fun _ => fun
  | [d1, d2] => { results := [.lit (.bool false)], args := [d1, d2] }
  | _ => none }
def ClientRowsWrongFalsely : Prop := clientRowsRow.holds Try.pinned (OpenSpec.ofChange clientRowsWrong)

/- THE SECOND FORM. 'bulk': how many values and letters a reading holds, each counted each time it is reached (what is shared counts as often as it is met; a slice's spare places count too). A statement '..UptoSaid' is the law's where the arguments, and the package variables that the reading takes, are together of bulk at most 1048576: NARROWER than '..Said'. Prove '..Said' where nothing that the law and all that it calls make is longer than what came in: it says more and counts as full. Else prove '..UptoSaid'. A law counts once. -/
mutual
def uptoBulk {H : Type} : DataW H → Nat
  | .lit (.string bytes) => bytes.length + 1
  | .lit _ => 1
  | .nil => 1
  | .ptr d => uptoBulk d + 1
  | .slice elems spare => uptoBulkAll elems + uptoBulkAll spare + 1
  | .agg parts => uptoBulkAll parts + 1
  | .iface _ d => uptoBulk d + 1
  | .map entries => uptoBulkEntries entries + 1
  | .held _ => 1
def uptoBulkAll {H : Type} : List (DataW H) → Nat
  | [] => 0
  | d :: r => uptoBulk d + uptoBulkAll r
def uptoBulkEntries {H : Type} : List (Lit × DataW H) → Nat
  | [] => 0
  | x :: r => uptoBulkEntry x + uptoBulkEntries r
def uptoBulkEntry {H : Type} : Lit × DataW H → Nat
  | (.string bytes, d) => bytes.length + uptoBulk d + 1
  | (_, d) => uptoBulk d + 1
 end
def uptoSmall : (H : Type) → List (DataW H) → Bool := fun _ ds => decide (uptoBulkAll ds ≤ 1048576)
def OpenSpec.upto (s : _root_.Go.ChangeSpec) : _root_.Go.OpenSpec := { _root_.Go.OpenSpec.ofChange s with cond := some uptoSmall }

/-- 'handfastlaw11.SheetTells', WHERE WHAT IT READS IS OF BULK AT MOST 1048576: true; the input reads as it did. -/
def sheetTellsUptoRow : OpenClaim := { program := "ythgoopdekllanaa", sum := "fc418522459995115459f2e5cb8aacdcb8d8905a4fa8acfa165eee870e87163b", func := "handfast/handfastlaw11.SheetTells", spec := "sheetTells", unfollowed := true, recurses := true, apart := false, narrowed := true }
def SheetTellsUptoSaid : Prop := sheetTellsUptoRow.holds Try.pinned (OpenSpec.upto sheetTellsSpec)

/-- 'handfastlaw12.ClientTells', WHERE WHAT IT READS IS OF BULK AT MOST 1048576: true; the input reads as it did. -/
def clientTellsUptoRow : OpenClaim := { program := "ythgoopdekllanaa", sum := "fc418522459995115459f2e5cb8aacdcb8d8905a4fa8acfa165eee870e87163b", func := "handfast/handfastlaw12.ClientTells", spec := "clientTells", unfollowed := true, recurses := true, apart := false, narrowed := true }
def ClientTellsUptoSaid : Prop := clientTellsUptoRow.holds Try.pinned (OpenSpec.upto clientTellsSpec)

/-- 'handfastlaw12.ClientSame', WHERE WHAT IT READS IS OF BULK AT MOST 1048576: true; the input reads as it did. -/
def clientSameUptoRow : OpenClaim := { program := "ythgoopdekllanaa", sum := "fc418522459995115459f2e5cb8aacdcb8d8905a4fa8acfa165eee870e87163b", func := "handfast/handfastlaw12.ClientSame", spec := "clientSame", unfollowed := true, recurses := true, apart := false, narrowed := true }
def ClientSameUptoSaid : Prop := clientSameUptoRow.holds Try.pinned (OpenSpec.upto clientSameSpec)

/-- 'handfastlaw12.ClientTakes', WHERE WHAT IT READS IS OF BULK AT MOST 1048576: true; the input reads as it did. -/
def clientTakesUptoRow : OpenClaim := { program := "ythgoopdekllanaa", sum := "fc418522459995115459f2e5cb8aacdcb8d8905a4fa8acfa165eee870e87163b", func := "handfast/handfastlaw12.ClientTakes", spec := "clientTakes", unfollowed := true, recurses := true, apart := false, narrowed := true }
def ClientTakesUptoSaid : Prop := clientTakesUptoRow.holds Try.pinned (OpenSpec.upto clientTakesSpec)

/-- 'handfastlaw12.ClientBytes', WHERE WHAT IT READS IS OF BULK AT MOST 1048576: true; the input reads as it did. -/
def clientBytesUptoRow : OpenClaim := { program := "ythgoopdekllanaa", sum := "fc418522459995115459f2e5cb8aacdcb8d8905a4fa8acfa165eee870e87163b", func := "handfast/handfastlaw12.ClientBytes", spec := "clientBytes", unfollowed := true, recurses := true, apart := false, narrowed := true }
def ClientBytesUptoSaid : Prop := clientBytesUptoRow.holds Try.pinned (OpenSpec.upto clientBytesSpec)

/-- 'handfastlaw12.ClientRows', WHERE WHAT IT READS IS OF BULK AT MOST 1048576: true; the input reads as it did. -/
def clientRowsUptoRow : OpenClaim := { program := "ythgoopdekllanaa", sum := "fc418522459995115459f2e5cb8aacdcb8d8905a4fa8acfa165eee870e87163b", func := "handfast/handfastlaw12.ClientRows", spec := "clientRows", unfollowed := true, recurses := true, apart := false, narrowed := true }
def ClientRowsUptoSaid : Prop := clientRowsUptoRow.holds Try.pinned (OpenSpec.upto clientRowsSpec)

end Rows
end Go.Proofs.Ythgoopdekllanaa
