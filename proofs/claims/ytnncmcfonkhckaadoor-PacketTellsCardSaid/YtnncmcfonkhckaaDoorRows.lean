/-
  NARROWER THAN 'FOR EVERY INPUT', by the rows' own cells (each row's printed sentence says how): PacketTells: laid · PacketBack: laid · PacketReasons: laid · PacketFlags: laid.
  DERIVED. THE GIVEN ROWS OF THIS SEAT. 4 by the template 'for every input the law returns true; each argument reads behind the call as it read before'; 0 by the template 'total and deterministic' (their statements: YtnncmcfonkhckaaDoorTotals.lean).
  GIVEN WITH THE SEED: the statements are not yours to turn. If you find one false, say at which input.
  Laid BY PROGRAM, IN A SANDBOX (cutbox-rows.mjs): the forced cells as the released guide's own fill.sh prints them over the translation 77e361a0f88dce61… (all of the seat's roots in one cut). By AI agents, Wed Nov 11 2026. No macro, syntax, notation, axiom, sorry.
-/
import Derived.Test.YtnncmcfonkhckaaDoorChecked
import GoSem.Claim
import GoSem.ClaimJoined
import GoSem.ClaimMapViews
import Derived.JoinedTies
import Derived.KernelRfl
namespace Go.Proofs.YtnncmcfonkhckaaDoor
/- THE CELL 'sum', in the pinned program and in every row, IS THE sha256 OF THE DUMP (.gsa) THAT YtnncmcfonkhckaaDoorProg.lean LOADS. Nothing in Lean hashes anything: it is a label: what it is worth is what the hold of that sum in a sandbox is worth. -/
noncomputable def Tryd.pinned : Pinned := { name := "ytnncmcfonkhckaadoor", sum := "77e361a0f88dce613f360723dab882e2e363825f3288cacbbf4c638095fd13c0", checked := Tryd.checked }
namespace Rows
def none {H : Type} : Left H := { results := [], args := [] }

/- WHAT THE LISTED PACKAGE-LEVEL VARIABLES READ AS WHEN THE CALL BEGINS. Each datum BY PROGRAM (the guide's laid-datum.mjs) off the statement by which the dump's own 'gosem.cut.vars' lays the variable. In a bare row this is a premise. The card (YtnncmcfonkhckaaDoorCards.lean) ties it to the program's text. -/
def laid_handfast_ip_widths {H : Type} : DataW H := .agg [.lit (.int .i64 1), .lit (.int .i64 1), .lit (.int .i64 2), .lit (.int .i64 2), .lit (.int .i64 2), .lit (.int .i64 1), .lit (.int .i64 1), .lit (.int .i64 2), .lit (.int .i64 4), .lit (.int .i64 4)]

/-- 'handfastlaw05.PacketTells': WHATEVER THE INPUT: true; the input reads as it did. -/
def packetTellsSpec : ChangeSpec := { name := "packetTells", fn := fun _ => fun
  | [d1, d2, d3, d4, d5, d6] => { results := [.lit (.bool true)], args := [d1, d2, d3, d4, d5, d6] }
  | _ => none }
def packetTellsRow : OpenClaim := { program := "ytnncmcfonkhckaadoor", sum := "77e361a0f88dce613f360723dab882e2e363825f3288cacbbf4c638095fd13c0", func := "handfast/handfastlaw05.PacketTells", spec := "packetTells", unfollowed := true, recurses := true, named := ["handfast/ip.widths"], apart := false, laid := [("handfast/ip.widths", laid_handfast_ip_widths)] }
def PacketTellsSaid : Prop := packetTellsRow.holds Tryd.pinned (OpenSpec.ofChange packetTellsSpec)

/-- ITS FALSE NEIGHBOUR: 'it returns false'. Refute it at one input. -/
def packetTellsWrong : ChangeSpec := { name := "packetTells", fn := fun _ => fun
  | [d1, d2, d3, d4, d5, d6] => { results := [.lit (.bool false)], args := [d1, d2, d3, d4, d5, d6] }
  | _ => none }
def PacketTellsWrongFalsely : Prop := packetTellsRow.holds Tryd.pinned (OpenSpec.ofChange packetTellsWrong)

/-- 'handfastlaw05.PacketBack': WHATEVER THE INPUT: true; the input reads as it did. -/
def packetBackSpec : ChangeSpec := { name := "packetBack", fn := fun _ => fun
  | [d1, d2, d3, d4] => { results := [.lit (.bool true)], args := [d1, d2, d3, d4] }
  | _ => none }
def packetBackRow : OpenClaim := { program := "ytnncmcfonkhckaadoor", sum := "77e361a0f88dce613f360723dab882e2e363825f3288cacbbf4c638095fd13c0", func := "handfast/handfastlaw05.PacketBack", spec := "packetBack", unfollowed := true, recurses := true, named := ["handfast/ip.widths"], apart := false, laid := [("handfast/ip.widths", laid_handfast_ip_widths)] }
def PacketBackSaid : Prop := packetBackRow.holds Tryd.pinned (OpenSpec.ofChange packetBackSpec)

/-- ITS FALSE NEIGHBOUR: 'it returns false'. Refute it at one input. -/
def packetBackWrong : ChangeSpec := { name := "packetBack", fn := fun _ => fun
  | [d1, d2, d3, d4] => { results := [.lit (.bool false)], args := [d1, d2, d3, d4] }
  | _ => none }
def PacketBackWrongFalsely : Prop := packetBackRow.holds Tryd.pinned (OpenSpec.ofChange packetBackWrong)

/-- 'handfastlaw05.PacketReasons': WHATEVER THE INPUT: true; the input reads as it did. -/
def packetReasonsSpec : ChangeSpec := { name := "packetReasons", fn := fun _ => fun
  | [d] => { results := [.lit (.bool true)], args := [d] }
  | _ => none }
def packetReasonsRow : OpenClaim := { program := "ytnncmcfonkhckaadoor", sum := "77e361a0f88dce613f360723dab882e2e363825f3288cacbbf4c638095fd13c0", func := "handfast/handfastlaw05.PacketReasons", spec := "packetReasons", unfollowed := true, recurses := true, named := ["handfast/ip.widths"], apart := false, laid := [("handfast/ip.widths", laid_handfast_ip_widths)] }
def PacketReasonsSaid : Prop := packetReasonsRow.holds Tryd.pinned (OpenSpec.ofChange packetReasonsSpec)

/-- ITS FALSE NEIGHBOUR: 'it returns false'. Refute it at one input. -/
def packetReasonsWrong : ChangeSpec := { name := "packetReasons", fn := fun _ => fun
  | [d] => { results := [.lit (.bool false)], args := [d] }
  | _ => none }
def PacketReasonsWrongFalsely : Prop := packetReasonsRow.holds Tryd.pinned (OpenSpec.ofChange packetReasonsWrong)

/-- 'handfastlaw05.PacketFlags': WHATEVER THE INPUT: true; the input reads as it did. -/
def packetFlagsSpec : ChangeSpec := { name := "packetFlags", fn := fun _ => fun
  | [d1, d2] => { results := [.lit (.bool true)], args := [d1, d2] }
  | _ => none }
def packetFlagsRow : OpenClaim := { program := "ytnncmcfonkhckaadoor", sum := "77e361a0f88dce613f360723dab882e2e363825f3288cacbbf4c638095fd13c0", func := "handfast/handfastlaw05.PacketFlags", spec := "packetFlags", unfollowed := true, recurses := true, named := ["handfast/ip.widths"], apart := false, laid := [("handfast/ip.widths", laid_handfast_ip_widths)] }
def PacketFlagsSaid : Prop := packetFlagsRow.holds Tryd.pinned (OpenSpec.ofChange packetFlagsSpec)

/-- ITS FALSE NEIGHBOUR: 'it returns false'. Refute it at one input. -/
def packetFlagsWrong : ChangeSpec := { name := "packetFlags", fn := fun _ => fun
  | [d1, d2] => { results := [.lit (.bool false)], args := [d1, d2] }
  | _ => none }
def PacketFlagsWrongFalsely : Prop := packetFlagsRow.holds Tryd.pinned (OpenSpec.ofChange packetFlagsWrong)

/- THE SECOND FORM. 'bulk': how many values and letters a reading holds, each counted each time it is reached (what is shared counts as often as it is met; a slice's spare places count too). A statement '..UptoSaid' is the law's where the arguments, and the package variables that the reading takes, are together of bulk at most 1048576: NARROWER than '..Said'. Prove '..Said' where nothing that the law and all that it calls make is longer than what came in: it says more and counts as full. Else prove '..UptoSaid'. A law counts once. -/
mutual
def uptoBulk {H : Type} : DataW H → Nat
  | .lit (.string bytes) => bytes.length + 1
  | .lit _ => 1
  | .nil => 1
  | .ptr d => uptoBulk d + 1
  | .slice elems spare => uptoBulkAll elems + uptoBulkAll spare + 1
  | .agg parts => uptoBulkAll parts + 1
  | .iface _ d => uptoBulk d + 1
  | .map entries => uptoBulkEntries entries + 1
  | .held _ => 1
def uptoBulkAll {H : Type} : List (DataW H) → Nat
  | [] => 0
  | d :: r => uptoBulk d + uptoBulkAll r
def uptoBulkEntries {H : Type} : List (Lit × DataW H) → Nat
  | [] => 0
  | x :: r => uptoBulkEntry x + uptoBulkEntries r
def uptoBulkEntry {H : Type} : Lit × DataW H → Nat
  | (.string bytes, d) => bytes.length + uptoBulk d + 1
  | (_, d) => uptoBulk d + 1
 end
def uptoSmall : (H : Type) → List (DataW H) → Bool := fun _ ds => decide (uptoBulkAll ds ≤ 1048576)
def OpenSpec.upto (s : _root_.Go.ChangeSpec) : _root_.Go.OpenSpec := { _root_.Go.OpenSpec.ofChange s with cond := some uptoSmall }

/-- 'handfastlaw05.PacketTells', WHERE WHAT IT READS IS OF BULK AT MOST 1048576: true; the input reads as it did. -/
def packetTellsUptoRow : OpenClaim := { program := "ytnncmcfonkhckaadoor", sum := "77e361a0f88dce613f360723dab882e2e363825f3288cacbbf4c638095fd13c0", func := "handfast/handfastlaw05.PacketTells", spec := "packetTells", unfollowed := true, recurses := true, named := ["handfast/ip.widths"], apart := false, laid := [("handfast/ip.widths", laid_handfast_ip_widths)], narrowed := true }
def PacketTellsUptoSaid : Prop := packetTellsUptoRow.holds Tryd.pinned (OpenSpec.upto packetTellsSpec)

/-- 'handfastlaw05.PacketBack', WHERE WHAT IT READS IS OF BULK AT MOST 1048576: true; the input reads as it did. -/
def packetBackUptoRow : OpenClaim := { program := "ytnncmcfonkhckaadoor", sum := "77e361a0f88dce613f360723dab882e2e363825f3288cacbbf4c638095fd13c0", func := "handfast/handfastlaw05.PacketBack", spec := "packetBack", unfollowed := true, recurses := true, named := ["handfast/ip.widths"], apart := false, laid := [("handfast/ip.widths", laid_handfast_ip_widths)], narrowed := true }
def PacketBackUptoSaid : Prop := packetBackUptoRow.holds Tryd.pinned (OpenSpec.upto packetBackSpec)

/-- 'handfastlaw05.PacketReasons', WHERE WHAT IT READS IS OF BULK AT MOST 1048576: true; the input reads as it did. -/
def packetReasonsUptoRow : OpenClaim := { program := "ytnncmcfonkhckaadoor", sum := "77e361a0f88dce613f360723dab882e2e363825f3288cacbbf4c638095fd13c0", func := "handfast/handfastlaw05.PacketReasons", spec := "packetReasons", unfollowed := true, recurses := true, named := ["handfast/ip.widths"], apart := false, laid := [("handfast/ip.widths", laid_handfast_ip_widths)], narrowed := true }
def PacketReasonsUptoSaid : Prop := packetReasonsUptoRow.holds Tryd.pinned (OpenSpec.upto packetReasonsSpec)

/-- 'handfastlaw05.PacketFlags', WHERE WHAT IT READS IS OF BULK AT MOST 1048576: true; the input reads as it did. -/
def packetFlagsUptoRow : OpenClaim := { program := "ytnncmcfonkhckaadoor", sum := "77e361a0f88dce613f360723dab882e2e363825f3288cacbbf4c638095fd13c0", func := "handfast/handfastlaw05.PacketFlags", spec := "packetFlags", unfollowed := true, recurses := true, named := ["handfast/ip.widths"], apart := false, laid := [("handfast/ip.widths", laid_handfast_ip_widths)], narrowed := true }
def PacketFlagsUptoSaid : Prop := packetFlagsUptoRow.holds Tryd.pinned (OpenSpec.upto packetFlagsSpec)

end Rows
end Go.Proofs.YtnncmcfonkhckaaDoor
