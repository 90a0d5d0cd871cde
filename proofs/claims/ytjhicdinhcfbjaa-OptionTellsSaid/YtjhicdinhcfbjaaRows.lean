/-
  No cell of these rows narrows 'for every input' (looked for: loops, veiled, ifaces, maps, wideKeys, modest, calm, conditions, laid).
  DERIVED. THE GIVEN ROWS OF THIS SEAT. 5 by the template 'for every input the law returns true; each argument reads behind the call as it read before'; 0 by the template 'total and deterministic' (their statements: YtjhicdinhcfbjaaTotals.lean).
  GIVEN WITH THE SEED: the statements are not yours to turn. If you find one false, say at which input.
  Laid BY PROGRAM, IN A SANDBOX (cutbox-rows.mjs): the forced cells as the released guide's own fill.sh prints them over the translation e14eb473d0d36115… (all of the seat's roots in one cut). By AI agents, Wed Nov 11 2026. No macro, syntax, notation, axiom, sorry.
-/
import Derived.Test.YtjhicdinhcfbjaaChecked
import GoSem.Claim
import GoSem.ClaimJoined
import GoSem.ClaimMapViews
import Derived.JoinedTies
import Derived.KernelRfl
namespace Go.Proofs.Ytjhicdinhcfbjaa
/- THE CELL 'sum', in the pinned program and in every row, IS THE sha256 OF THE DUMP (.gsa) THAT YtjhicdinhcfbjaaProg.lean LOADS. Nothing in Lean hashes anything: it is a label: what it is worth is what the hold of that sum in a sandbox is worth. -/
noncomputable def Try.pinned : Pinned := { name := "ytjhicdinhcfbjaa", sum := "e14eb473d0d36115ae0747cf73920e0a9ce8cf8e4d031fa07d3f5f259b7646ed", checked := Try.checked }
namespace Rows
def none {H : Type} : Left H := { results := [], args := [] }

/-- 'handfastlaw06.OptionTells': WHATEVER THE INPUT: true; the input reads as it did. -/
def optionTellsSpec : ChangeSpec := { name := "optionTells", fn := fun _ => fun
  | [d1, d2, d3, d4, d5, d6] => { results := [.lit (.bool true)], args := [d1, d2, d3, d4, d5, d6] }
  | _ => none }
def optionTellsRow : OpenClaim := { program := "ytjhicdinhcfbjaa", sum := "e14eb473d0d36115ae0747cf73920e0a9ce8cf8e4d031fa07d3f5f259b7646ed", func := "handfast/handfastlaw06.OptionTells", spec := "optionTells", unfollowed := true, recurses := true, apart := false }
def OptionTellsSaid : Prop := optionTellsRow.holds Try.pinned (OpenSpec.ofChange optionTellsSpec)

/-- ITS FALSE NEIGHBOUR: 'it returns false'. Refute it at one input. -/
def optionTellsWrong : ChangeSpec := { name := "optionTells", fn := fun _ => fun
  | [d1, d2, d3, d4, d5, d6] => { results := [.lit (.bool false)], args := [d1, d2, d3, d4, d5, d6] }
  | _ => none }
def OptionTellsWrongFalsely : Prop := optionTellsRow.holds Try.pinned (OpenSpec.ofChange optionTellsWrong)

/-- 'handfastlaw06.OptionBack': WHATEVER THE INPUT: true; the input reads as it did. -/
def optionBackSpec : ChangeSpec := { name := "optionBack", fn := fun _ => fun
  | [d1, d2] => { results := [.lit (.bool true)], args := [d1, d2] }
  | _ => none }
def optionBackRow : OpenClaim := { program := "ytjhicdinhcfbjaa", sum := "e14eb473d0d36115ae0747cf73920e0a9ce8cf8e4d031fa07d3f5f259b7646ed", func := "handfast/handfastlaw06.OptionBack", spec := "optionBack", unfollowed := true, recurses := true, apart := false }
def OptionBackSaid : Prop := optionBackRow.holds Try.pinned (OpenSpec.ofChange optionBackSpec)

/-- ITS FALSE NEIGHBOUR: 'it returns false'. Refute it at one input. -/
def optionBackWrong : ChangeSpec := { name := "optionBack", fn := fun _ => fun
  | [d1, d2] => { results := [.lit (.bool false)], args := [d1, d2] }
  | _ => none }
def OptionBackWrongFalsely : Prop := optionBackRow.holds Try.pinned (OpenSpec.ofChange optionBackWrong)

/-- 'handfastlaw06.OptionByte': WHATEVER THE INPUT: true; the input reads as it did. -/
def optionByteSpec : ChangeSpec := { name := "optionByte", fn := fun _ => fun
  | [d1, d2, d3] => { results := [.lit (.bool true)], args := [d1, d2, d3] }
  | _ => none }
def optionByteRow : OpenClaim := { program := "ytjhicdinhcfbjaa", sum := "e14eb473d0d36115ae0747cf73920e0a9ce8cf8e4d031fa07d3f5f259b7646ed", func := "handfast/handfastlaw06.OptionByte", spec := "optionByte", unfollowed := true, recurses := true, apart := false }
def OptionByteSaid : Prop := optionByteRow.holds Try.pinned (OpenSpec.ofChange optionByteSpec)

/-- ITS FALSE NEIGHBOUR: 'it returns false'. Refute it at one input. -/
def optionByteWrong : ChangeSpec := { name := "optionByte", fn := fun _ => fun
  | [d1, d2, d3] => { results := [.lit (.bool false)], args := [d1, d2, d3] }
  | _ => none }
def OptionByteWrongFalsely : Prop := optionByteRow.holds Try.pinned (OpenSpec.ofChange optionByteWrong)

/-- 'handfastlaw06.OptionMay': WHATEVER THE INPUT: true; the input reads as it did. -/
def optionMaySpec : ChangeSpec := { name := "optionMay", fn := fun _ => fun
  | [d1, d2] => { results := [.lit (.bool true)], args := [d1, d2] }
  | _ => none }
def optionMayRow : OpenClaim := { program := "ytjhicdinhcfbjaa", sum := "e14eb473d0d36115ae0747cf73920e0a9ce8cf8e4d031fa07d3f5f259b7646ed", func := "handfast/handfastlaw06.OptionMay", spec := "optionMay", unfollowed := true, recurses := true, apart := false }
def OptionMaySaid : Prop := optionMayRow.holds Try.pinned (OpenSpec.ofChange optionMaySpec)

/-- ITS FALSE NEIGHBOUR: 'it returns false'. Refute it at one input. -/
def optionMayWrong : ChangeSpec := { name := "optionMay", fn := fun _ => fun
  | [d1, d2] => { results := [.lit (.bool false)], args := [d1, d2] }
  | _ => none }
def OptionMayWrongFalsely : Prop := optionMayRow.holds Try.pinned (OpenSpec.ofChange optionMayWrong)

/-- 'handfastlaw06.OptionTurned': WHATEVER THE INPUT: true; the input reads as it did. -/
def optionTurnedSpec : ChangeSpec := { name := "optionTurned", fn := fun _ => fun
  | [d1, d2, d3, d4, d5] => { results := [.lit (.bool true)], args := [d1, d2, d3, d4, d5] }
  | _ => none }
def optionTurnedRow : OpenClaim := { program := "ytjhicdinhcfbjaa", sum := "e14eb473d0d36115ae0747cf73920e0a9ce8cf8e4d031fa07d3f5f259b7646ed", func := "handfast/handfastlaw06.OptionTurned", spec := "optionTurned", unfollowed := true, recurses := true, apart := false }
def OptionTurnedSaid : Prop := optionTurnedRow.holds Try.pinned (OpenSpec.ofChange optionTurnedSpec)

/-- ITS FALSE NEIGHBOUR: 'it returns false'. Refute it at one input. -/
def optionTurnedWrong : ChangeSpec := { name := "optionTurned", fn := fun _ => fun
  | [d1, d2, d3, d4, d5] => { results := [.lit (.bool false)], args := [d1, d2, d3, d4, d5] }
  | _ => none }
def OptionTurnedWrongFalsely : Prop := optionTurnedRow.holds Try.pinned (OpenSpec.ofChange optionTurnedWrong)

/- THE SECOND FORM. 'bulk': how many values and letters a reading holds, each counted each time it is reached (what is shared counts as often as it is met; a slice's spare places count too). A statement '..UptoSaid' is the law's where the arguments, and the package variables that the reading takes, are together of bulk at most 1048576: NARROWER than '..Said'. Prove '..Said' where nothing that the law and all that it calls make is longer than what came in: it says more and counts as full. Else prove '..UptoSaid'. A law counts once. -/
mutual
def uptoBulk {H : Type} : DataW H → Nat
  | .lit (.string bytes) => bytes.length + 1
  | .lit _ => 1
  | .nil => 1
  | .ptr d => uptoBulk d + 1
  | .slice elems spare => uptoBulkAll elems + uptoBulkAll spare + 1
  | .agg parts => uptoBulkAll parts + 1
  | .iface _ d => uptoBulk d + 1
  | .map entries => uptoBulkEntries entries + 1
  | .held _ => 1
def uptoBulkAll {H : Type} : List (DataW H) → Nat
  | [] => 0
  | d :: r => uptoBulk d + uptoBulkAll r
def uptoBulkEntries {H : Type} : List (Lit × DataW H) → Nat
  | [] => 0
  | x :: r => uptoBulkEntry x + uptoBulkEntries r
def uptoBulkEntry {H : Type} : Lit × DataW H → Nat
  | (.string bytes, d) => bytes.length + uptoBulk d + 1
  | (_, d) => uptoBulk d + 1
 end
def uptoSmall : (H : Type) → List (DataW H) → Bool := fun _ ds => decide (uptoBulkAll ds ≤ 1048576)
def OpenSpec.upto (s : _root_.Go.ChangeSpec) : _root_.Go.OpenSpec := { _root_.Go.OpenSpec.ofChange s with cond := some uptoSmall }

/-- 'handfastlaw06.OptionTells', WHERE WHAT IT READS IS OF BULK AT MOST 1048576: true; the input reads as it did. -/
def optionTellsUptoRow : OpenClaim := { program := "ytjhicdinhcfbjaa", sum := "e14eb473d0d36115ae0747cf73920e0a9ce8cf8e4d031fa07d3f5f259b7646ed", func := "handfast/handfastlaw06.OptionTells", spec := "optionTells", unfollowed := true, recurses := true, apart := false, narrowed := true }
def OptionTellsUptoSaid : Prop := optionTellsUptoRow.holds Try.pinned (OpenSpec.upto optionTellsSpec)

/-- 'handfastlaw06.OptionBack', WHERE WHAT IT READS IS OF BULK AT MOST 1048576: true; the input reads as it did. -/
def optionBackUptoRow : OpenClaim := { program := "ytjhicdinhcfbjaa", sum := "e14eb473d0d36115ae0747cf73920e0a9ce8cf8e4d031fa07d3f5f259b7646ed", func := "handfast/handfastlaw06.OptionBack", spec := "optionBack", unfollowed := true, recurses := true, apart := false, narrowed := true }
def OptionBackUptoSaid : Prop := optionBackUptoRow.holds Try.pinned (OpenSpec.upto optionBackSpec)

/-- 'handfastlaw06.OptionByte', WHERE WHAT IT READS IS OF BULK AT MOST 1048576: true; the input reads as it did. -/
def optionByteUptoRow : OpenClaim := { program := "ytjhicdinhcfbjaa", sum := "e14eb473d0d36115ae0747cf73920e0a9ce8cf8e4d031fa07d3f5f259b7646ed", func := "handfast/handfastlaw06.OptionByte", spec := "optionByte", unfollowed := true, recurses := true, apart := false, narrowed := true }
def OptionByteUptoSaid : Prop := optionByteUptoRow.holds Try.pinned (OpenSpec.upto optionByteSpec)

/-- 'handfastlaw06.OptionMay', WHERE WHAT IT READS IS OF BULK AT MOST 1048576: true; the input reads as it did. -/
def optionMayUptoRow : OpenClaim := { program := "ytjhicdinhcfbjaa", sum := "e14eb473d0d36115ae0747cf73920e0a9ce8cf8e4d031fa07d3f5f259b7646ed", func := "handfast/handfastlaw06.OptionMay", spec := "optionMay", unfollowed := true, recurses := true, apart := false, narrowed := true }
def OptionMayUptoSaid : Prop := optionMayUptoRow.holds Try.pinned (OpenSpec.upto optionMaySpec)

/-- 'handfastlaw06.OptionTurned', WHERE WHAT IT READS IS OF BULK AT MOST 1048576: true; the input reads as it did. -/
def optionTurnedUptoRow : OpenClaim := { program := "ytjhicdinhcfbjaa", sum := "e14eb473d0d36115ae0747cf73920e0a9ce8cf8e4d031fa07d3f5f259b7646ed", func := "handfast/handfastlaw06.OptionTurned", spec := "optionTurned", unfollowed := true, recurses := true, apart := false, narrowed := true }
def OptionTurnedUptoSaid : Prop := optionTurnedUptoRow.holds Try.pinned (OpenSpec.upto optionTurnedSpec)

end Rows
end Go.Proofs.Ytjhicdinhcfbjaa
