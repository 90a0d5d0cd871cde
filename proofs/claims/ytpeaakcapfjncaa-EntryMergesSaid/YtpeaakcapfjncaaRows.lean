/-
  No cell of these rows narrows 'for every input' (looked for: loops, veiled, ifaces, maps, wideKeys, modest, calm, conditions, laid).
  DERIVED. THE GIVEN ROWS OF THIS SEAT. 4 by the template 'for every input the law returns true; each argument reads behind the call as it read before'; 0 by the template 'total and deterministic' (their statements: YtpeaakcapfjncaaTotals.lean).
  GIVEN WITH THE SEED: the statements are not yours to turn. If you find one false, say at which input.
  Laid BY PROGRAM, IN A SANDBOX (cutbox-rows.mjs): the forced cells as the released guide's own fill.sh prints them over the translation 6ea772d8c5d1b8ad… (all of the seat's roots in one cut). By AI agents, Wed Nov 11 2026. No macro, syntax, notation, axiom, sorry.
-/
import Derived.Test.YtpeaakcapfjncaaChecked
import GoSem.Claim
import GoSem.ClaimJoined
import GoSem.ClaimMapViews
import Derived.JoinedTies
import Derived.KernelRfl
namespace Go.Proofs.Ytpeaakcapfjncaa
/- THE CELL 'sum', in the pinned program and in every row, IS THE sha256 OF THE DUMP (.gsa) THAT YtpeaakcapfjncaaProg.lean LOADS. Nothing in Lean hashes anything: it is a label: what it is worth is what the hold of that sum in a sandbox is worth. -/
noncomputable def Try.pinned : Pinned := { name := "ytpeaakcapfjncaa", sum := "6ea772d8c5d1b8ad720fdd62cbfd27a4cd52fb734e0a325763207958d3ab93e6", checked := Try.checked }
namespace Rows
def none {H : Type} : Left H := { results := [], args := [] }

/-- 'handfastlaw09.EntryTells': WHATEVER THE INPUT: true; the input reads as it did. -/
def entryTellsSpec : ChangeSpec := { name := "entryTells", fn := fun _ => fun
  | [d1, d2, d3] => { results := [.lit (.bool true)], args := [d1, d2, d3] }
  | _ => none }
def entryTellsRow : OpenClaim := { program := "ytpeaakcapfjncaa", sum := "6ea772d8c5d1b8ad720fdd62cbfd27a4cd52fb734e0a325763207958d3ab93e6", func := "handfast/handfastlaw09.EntryTells", spec := "entryTells", unfollowed := true, recurses := true, apart := false }
def EntryTellsSaid : Prop := entryTellsRow.holds Try.pinned (OpenSpec.ofChange entryTellsSpec)

/-- ITS FALSE NEIGHBOUR: 'it returns false'. Refute it at one input. -/
def entryTellsWrong : ChangeSpec := { name := "entryTells", fn := fun _ => fun
  | [d1, d2, d3] => { results := [.lit (.bool false)], args := [d1, d2, d3] }
  | _ => none }
def EntryTellsWrongFalsely : Prop := entryTellsRow.holds Try.pinned (OpenSpec.ofChange entryTellsWrong)

/-- 'handfastlaw09.EntryMerges': WHATEVER THE INPUT: true; the input reads as it did. -/
def entryMergesSpec : ChangeSpec := { name := "entryMerges", fn := fun _ => fun
  | [d1, d2] => { results := [.lit (.bool true)], args := [d1, d2] }
  | _ => none }
def entryMergesRow : OpenClaim := { program := "ytpeaakcapfjncaa", sum := "6ea772d8c5d1b8ad720fdd62cbfd27a4cd52fb734e0a325763207958d3ab93e6", func := "handfast/handfastlaw09.EntryMerges", spec := "entryMerges", unfollowed := true, recurses := true, apart := false }
def EntryMergesSaid : Prop := entryMergesRow.holds Try.pinned (OpenSpec.ofChange entryMergesSpec)

/-- ITS FALSE NEIGHBOUR: 'it returns false'. Refute it at one input. -/
def entryMergesWrong : ChangeSpec := { name := "entryMerges", fn := fun _ => fun
  | [d1, d2] => { results := [.lit (.bool false)], args := [d1, d2] }
  | _ => none }
def EntryMergesWrongFalsely : Prop := entryMergesRow.holds Try.pinned (OpenSpec.ofChange entryMergesWrong)

/-- 'handfastlaw09.EntryHolds': WHATEVER THE INPUT: true; the input reads as it did. -/
def entryHoldsSpec : ChangeSpec := { name := "entryHolds", fn := fun _ => fun
  | [d] => { results := [.lit (.bool true)], args := [d] }
  | _ => none }
def entryHoldsRow : OpenClaim := { program := "ytpeaakcapfjncaa", sum := "6ea772d8c5d1b8ad720fdd62cbfd27a4cd52fb734e0a325763207958d3ab93e6", func := "handfast/handfastlaw09.EntryHolds", spec := "entryHolds", unfollowed := true, recurses := true, apart := false }
def EntryHoldsSaid : Prop := entryHoldsRow.holds Try.pinned (OpenSpec.ofChange entryHoldsSpec)

/-- ITS FALSE NEIGHBOUR: 'it returns false'. Refute it at one input. -/
def entryHoldsWrong : ChangeSpec := { name := "entryHolds", fn := fun _ => fun
  | [d] => { results := [.lit (.bool false)], args := [d] }
  | _ => none }
def EntryHoldsWrongFalsely : Prop := entryHoldsRow.holds Try.pinned (OpenSpec.ofChange entryHoldsWrong)

/-- 'handfastlaw09.EntryBounds': WHATEVER THE INPUT: true; the input reads as it did. -/
def entryBoundsSpec : ChangeSpec := { name := "entryBounds", fn := fun _ => fun
  | [d1, d2] => { results := [.lit (.bool true)], args := [d1, d2] }
  | _ => none }
def entryBoundsRow : OpenClaim := { program := "ytpeaakcapfjncaa", sum := "6ea772d8c5d1b8ad720fdd62cbfd27a4cd52fb734e0a325763207958d3ab93e6", func := "handfast/handfastlaw09.EntryBounds", spec := "entryBounds", unfollowed := true, recurses := true, apart := false }
def EntryBoundsSaid : Prop := entryBoundsRow.holds Try.pinned (OpenSpec.ofChange entryBoundsSpec)

/-- ITS FALSE NEIGHBOUR: 'it returns false'. Refute it at one input. -/
def entryBoundsWrong : ChangeSpec := { name := "entryBounds", fn := fun _ => fun
  | [d1, d2] => { results := [.lit (.bool false)], args := [d1, d2] }
  | _ => none }
def EntryBoundsWrongFalsely : Prop := entryBoundsRow.holds Try.pinned (OpenSpec.ofChange entryBoundsWrong)

/- THE SECOND FORM. 'bulk': how many values and letters a reading holds, each counted each time it is reached (what is shared counts as often as it is met; a slice's spare places count too). A statement '..UptoSaid' is the law's where the arguments, and the package variables that the reading takes, are together of bulk at most 1048576: NARROWER than '..Said'. Prove '..Said' where nothing that the law and all that it calls make is longer than what came in: it says more and counts as full. Else prove '..UptoSaid'. A law counts once. -/
mutual
def uptoBulk {H : Type} : DataW H → Nat
  | .lit (.string bytes) => bytes.length + 1
  | .lit _ => 1
  | .nil => 1
  | .ptr d => uptoBulk d + 1
  | .slice elems spare => uptoBulkAll elems + uptoBulkAll spare + 1
  | .agg parts => uptoBulkAll parts + 1
  | .iface _ d => uptoBulk d + 1
  | .map entries => uptoBulkEntries entries + 1
  | .held _ => 1
def uptoBulkAll {H : Type} : List (DataW H) → Nat
  | [] => 0
  | d :: r => uptoBulk d + uptoBulkAll r
def uptoBulkEntries {H : Type} : List (Lit × DataW H) → Nat
  | [] => 0
  | x :: r => uptoBulkEntry x + uptoBulkEntries r
def uptoBulkEntry {H : Type} : Lit × DataW H → Nat
  | (.string bytes, d) => bytes.length + uptoBulk d + 1
  | (_, d) => uptoBulk d + 1
 end
def uptoSmall : (H : Type) → List (DataW H) → Bool := fun _ ds => decide (uptoBulkAll ds ≤ 1048576)
def OpenSpec.upto (s : _root_.Go.ChangeSpec) : _root_.Go.OpenSpec := { _root_.Go.OpenSpec.ofChange s with cond := some uptoSmall }

/-- 'handfastlaw09.EntryTells', WHERE WHAT IT READS IS OF BULK AT MOST 1048576: true; the input reads as it did. -/
def entryTellsUptoRow : OpenClaim := { program := "ytpeaakcapfjncaa", sum := "6ea772d8c5d1b8ad720fdd62cbfd27a4cd52fb734e0a325763207958d3ab93e6", func := "handfast/handfastlaw09.EntryTells", spec := "entryTells", unfollowed := true, recurses := true, apart := false, narrowed := true }
def EntryTellsUptoSaid : Prop := entryTellsUptoRow.holds Try.pinned (OpenSpec.upto entryTellsSpec)

/-- 'handfastlaw09.EntryMerges', WHERE WHAT IT READS IS OF BULK AT MOST 1048576: true; the input reads as it did. -/
def entryMergesUptoRow : OpenClaim := { program := "ytpeaakcapfjncaa", sum := "6ea772d8c5d1b8ad720fdd62cbfd27a4cd52fb734e0a325763207958d3ab93e6", func := "handfast/handfastlaw09.EntryMerges", spec := "entryMerges", unfollowed := true, recurses := true, apart := false, narrowed := true }
def EntryMergesUptoSaid : Prop := entryMergesUptoRow.holds Try.pinned (OpenSpec.upto entryMergesSpec)

/-- 'handfastlaw09.EntryHolds', WHERE WHAT IT READS IS OF BULK AT MOST 1048576: true; the input reads as it did. -/
def entryHoldsUptoRow : OpenClaim := { program := "ytpeaakcapfjncaa", sum := "6ea772d8c5d1b8ad720fdd62cbfd27a4cd52fb734e0a325763207958d3ab93e6", func := "handfast/handfastlaw09.EntryHolds", spec := "entryHolds", unfollowed := true, recurses := true, apart := false, narrowed := true }
def EntryHoldsUptoSaid : Prop := entryHoldsUptoRow.holds Try.pinned (OpenSpec.upto entryHoldsSpec)

/-- 'handfastlaw09.EntryBounds', WHERE WHAT IT READS IS OF BULK AT MOST 1048576: true; the input reads as it did. -/
def entryBoundsUptoRow : OpenClaim := { program := "ytpeaakcapfjncaa", sum := "6ea772d8c5d1b8ad720fdd62cbfd27a4cd52fb734e0a325763207958d3ab93e6", func := "handfast/handfastlaw09.EntryBounds", spec := "entryBounds", unfollowed := true, recurses := true, apart := false, narrowed := true }
def EntryBoundsUptoSaid : Prop := entryBoundsUptoRow.holds Try.pinned (OpenSpec.upto entryBoundsSpec)

end Rows
end Go.Proofs.Ytpeaakcapfjncaa
