/-
  NARROWER THAN 'FOR EVERY INPUT', by the rows' own cells (each row's printed sentence says how): EncapTells: laid · EncapBack: laid · EncapOnly: laid · EncapNodes: laid · EncapOwn: laid.
  DERIVED. THE GIVEN ROWS OF THIS SEAT. 5 by the template 'for every input the law returns true; each argument reads behind the call as it read before'; 0 by the template 'total and deterministic' (their statements: YthenbpnlmpeafaaDoorTotals.lean).
  GIVEN WITH THE SEED: the statements are not yours to turn. If you find one false, say at which input.
  Laid BY PROGRAM, IN A SANDBOX (cutbox-rows.mjs): the forced cells as the released guide's own fill.sh prints them over the translation c85c58c6c37dcd4b… (all of the seat's roots in one cut). By AI agents, Wed Nov 11 2026. No macro, syntax, notation, axiom, sorry.
-/
import Derived.Test.YthenbpnlmpeafaaDoorChecked
import GoSem.Claim
import GoSem.ClaimJoined
import GoSem.ClaimMapViews
import Derived.JoinedTies
import Derived.KernelRfl
namespace Go.Proofs.YthenbpnlmpeafaaDoor
/- THE CELL 'sum', in the pinned program and in every row, IS THE sha256 OF THE DUMP (.gsa) THAT YthenbpnlmpeafaaDoorProg.lean LOADS. Nothing in Lean hashes anything: it is a label: what it is worth is what the hold of that sum in a sandbox is worth. -/
noncomputable def Tryd.pinned : Pinned := { name := "ythenbpnlmpeafaadoor", sum := "c85c58c6c37dcd4b0f69878e4cb1628ece0bef027321118a2ef9e26e0a8db015", checked := Tryd.checked }
namespace Rows
def none {H : Type} : Left H := { results := [], args := [] }

/- WHAT THE LISTED PACKAGE-LEVEL VARIABLES READ AS WHEN THE CALL BEGINS. Each datum BY PROGRAM (the guide's laid-datum.mjs) off the statement by which the dump's own 'gosem.cut.vars' lays the variable. In a bare row this is a premise. The card (YthenbpnlmpeafaaDoorCards.lean) ties it to the program's text. -/
def laid_handfast_ip_widths {H : Type} : DataW H := .agg [.lit (.int .i64 1), .lit (.int .i64 1), .lit (.int .i64 2), .lit (.int .i64 2), .lit (.int .i64 2), .lit (.int .i64 1), .lit (.int .i64 1), .lit (.int .i64 2), .lit (.int .i64 4), .lit (.int .i64 4)]

/-- 'handfastlaw07.EncapTells': WHATEVER THE INPUT: true; the input reads as it did. -/
def encapTellsSpec : ChangeSpec := { name := "encapTells", fn := fun _ => fun
  | [d1, d2, d3, d4, d5] => { results := [.lit (.bool true)], args := [d1, d2, d3, d4, d5] }
  | _ => none }
def encapTellsRow : OpenClaim := { program := "ythenbpnlmpeafaadoor", sum := "c85c58c6c37dcd4b0f69878e4cb1628ece0bef027321118a2ef9e26e0a8db015", func := "handfast/handfastlaw07.EncapTells", spec := "encapTells", unfollowed := true, recurses := true, named := ["handfast/ip.widths"], plainKeys := false, apart := false, laid := [("handfast/ip.widths", laid_handfast_ip_widths)] }
def EncapTellsSaid : Prop := encapTellsRow.holds Tryd.pinned (OpenSpec.ofChange encapTellsSpec)

/-- ITS FALSE NEIGHBOUR: 'it returns false'. Refute it at one input. -/
def encapTellsWrong : ChangeSpec := { name := "encapTells", fn := fun _ => fun
  | [d1, d2, d3, d4, d5] => { results := [.lit (.bool false)], args := [d1, d2, d3, d4, d5] }
  | _ => none }
def EncapTellsWrongFalsely : Prop := encapTellsRow.holds Tryd.pinned (OpenSpec.ofChange encapTellsWrong)

/-- 'handfastlaw07.EncapBack': WHATEVER THE INPUT: true; the input reads as it did. -/
def encapBackSpec : ChangeSpec := { name := "encapBack", fn := fun _ => fun
  | [d1, d2] => { results := [.lit (.bool true)], args := [d1, d2] }
  | _ => none }
def encapBackRow : OpenClaim := { program := "ythenbpnlmpeafaadoor", sum := "c85c58c6c37dcd4b0f69878e4cb1628ece0bef027321118a2ef9e26e0a8db015", func := "handfast/handfastlaw07.EncapBack", spec := "encapBack", unfollowed := true, recurses := true, named := ["handfast/ip.widths"], plainKeys := false, apart := false, laid := [("handfast/ip.widths", laid_handfast_ip_widths)] }
def EncapBackSaid : Prop := encapBackRow.holds Tryd.pinned (OpenSpec.ofChange encapBackSpec)

/-- ITS FALSE NEIGHBOUR: 'it returns false'. Refute it at one input. -/
def encapBackWrong : ChangeSpec := { name := "encapBack", fn := fun _ => fun
  | [d1, d2] => { results := [.lit (.bool false)], args := [d1, d2] }
  | _ => none }
def EncapBackWrongFalsely : Prop := encapBackRow.holds Tryd.pinned (OpenSpec.ofChange encapBackWrong)

/-- 'handfastlaw07.EncapOnly': WHATEVER THE INPUT: true; the input reads as it did. -/
def encapOnlySpec : ChangeSpec := { name := "encapOnly", fn := fun _ => fun
  | [d] => { results := [.lit (.bool true)], args := [d] }
  | _ => none }
def encapOnlyRow : OpenClaim := { program := "ythenbpnlmpeafaadoor", sum := "c85c58c6c37dcd4b0f69878e4cb1628ece0bef027321118a2ef9e26e0a8db015", func := "handfast/handfastlaw07.EncapOnly", spec := "encapOnly", unfollowed := true, recurses := true, named := ["handfast/ip.widths"], plainKeys := false, apart := false, laid := [("handfast/ip.widths", laid_handfast_ip_widths)] }
def EncapOnlySaid : Prop := encapOnlyRow.holds Tryd.pinned (OpenSpec.ofChange encapOnlySpec)

/-- ITS FALSE NEIGHBOUR: 'it returns false'. Refute it at one input. -/
def encapOnlyWrong : ChangeSpec := { name := "encapOnly", fn := fun _ => fun
  | [d] => { results := [.lit (.bool false)], args := [d] }
  | _ => none }
def EncapOnlyWrongFalsely : Prop := encapOnlyRow.holds Tryd.pinned (OpenSpec.ofChange encapOnlyWrong)

/-- 'handfastlaw07.EncapNodes': WHATEVER THE INPUT: true; the input reads as it did. -/
def encapNodesSpec : ChangeSpec := { name := "encapNodes", fn := fun _ => fun
  | [d1, d2] => { results := [.lit (.bool true)], args := [d1, d2] }
  | _ => none }
def encapNodesRow : OpenClaim := { program := "ythenbpnlmpeafaadoor", sum := "c85c58c6c37dcd4b0f69878e4cb1628ece0bef027321118a2ef9e26e0a8db015", func := "handfast/handfastlaw07.EncapNodes", spec := "encapNodes", unfollowed := true, recurses := true, named := ["handfast/ip.widths"], plainKeys := false, apart := false, laid := [("handfast/ip.widths", laid_handfast_ip_widths)] }
def EncapNodesSaid : Prop := encapNodesRow.holds Tryd.pinned (OpenSpec.ofChange encapNodesSpec)

/-- ITS FALSE NEIGHBOUR: 'it returns false'. Refute it at one input. -/
def encapNodesWrong : ChangeSpec := { name := "encapNodes", fn := fun _ => fun
  | [d1, d2] => { results := [.lit (.bool false)], args := [d1, d2] }
  | _ => none }
def EncapNodesWrongFalsely : Prop := encapNodesRow.holds Tryd.pinned (OpenSpec.ofChange encapNodesWrong)

/-- 'handfastlaw07.EncapOwn': WHATEVER THE INPUT: true; the input reads as it did. -/
def encapOwnSpec : ChangeSpec := { name := "encapOwn", fn := fun _ => fun
  | [d1, d2] => { results := [.lit (.bool true)], args := [d1, d2] }
  | _ => none }
def encapOwnRow : OpenClaim := { program := "ythenbpnlmpeafaadoor", sum := "c85c58c6c37dcd4b0f69878e4cb1628ece0bef027321118a2ef9e26e0a8db015", func := "handfast/handfastlaw07.EncapOwn", spec := "encapOwn", unfollowed := true, recurses := true, named := ["handfast/ip.widths"], plainKeys := false, apart := false, laid := [("handfast/ip.widths", laid_handfast_ip_widths)] }
def EncapOwnSaid : Prop := encapOwnRow.holds Tryd.pinned (OpenSpec.ofChange encapOwnSpec)

/-- ITS FALSE NEIGHBOUR: 'it returns false'. Refute it at one input. -/
def encapOwnWrong : ChangeSpec := { name := "encapOwn", fn := fun _ => fun
  | [d1, d2] => { results := [.lit (.bool false)], args := [d1, d2] }
  | _ => none }
def EncapOwnWrongFalsely : Prop := encapOwnRow.holds Tryd.pinned (OpenSpec.ofChange encapOwnWrong)

/- THE SECOND FORM. 'bulk': how many values and letters a reading holds, each counted each time it is reached (what is shared counts as often as it is met; a slice's spare places count too). A statement '..UptoSaid' is the law's where the arguments, and the package variables that the reading takes, are together of bulk at most 1048576: NARROWER than '..Said'. Prove '..Said' where nothing that the law and all that it calls make is longer than what came in: it says more and counts as full. Else prove '..UptoSaid'. A law counts once. -/
mutual
def uptoBulk {H : Type} : DataW H → Nat
  | .lit (.string bytes) => bytes.length + 1
  | .lit _ => 1
  | .nil => 1
  | .ptr d => uptoBulk d + 1
  | .slice elems spare => uptoBulkAll elems + uptoBulkAll spare + 1
  | .agg parts => uptoBulkAll parts + 1
  | .iface _ d => uptoBulk d + 1
  | .map entries => uptoBulkEntries entries + 1
  | .held _ => 1
def uptoBulkAll {H : Type} : List (DataW H) → Nat
  | [] => 0
  | d :: r => uptoBulk d + uptoBulkAll r
def uptoBulkEntries {H : Type} : List (Lit × DataW H) → Nat
  | [] => 0
  | x :: r => uptoBulkEntry x + uptoBulkEntries r
def uptoBulkEntry {H : Type} : Lit × DataW H → Nat
  | (.string bytes, d) => bytes.length + uptoBulk d + 1
  | (_, d) => uptoBulk d + 1
 end
def uptoSmall : (H : Type) → List (DataW H) → Bool := fun _ ds => decide (uptoBulkAll ds ≤ 1048576)
def OpenSpec.upto (s : _root_.Go.ChangeSpec) : _root_.Go.OpenSpec := { _root_.Go.OpenSpec.ofChange s with cond := some uptoSmall }

/-- 'handfastlaw07.EncapTells', WHERE WHAT IT READS IS OF BULK AT MOST 1048576: true; the input reads as it did. -/
def encapTellsUptoRow : OpenClaim := { program := "ythenbpnlmpeafaadoor", sum := "c85c58c6c37dcd4b0f69878e4cb1628ece0bef027321118a2ef9e26e0a8db015", func := "handfast/handfastlaw07.EncapTells", spec := "encapTells", unfollowed := true, recurses := true, named := ["handfast/ip.widths"], plainKeys := false, apart := false, laid := [("handfast/ip.widths", laid_handfast_ip_widths)], narrowed := true }
def EncapTellsUptoSaid : Prop := encapTellsUptoRow.holds Tryd.pinned (OpenSpec.upto encapTellsSpec)

/-- 'handfastlaw07.EncapBack', WHERE WHAT IT READS IS OF BULK AT MOST 1048576: true; the input reads as it did. -/
def encapBackUptoRow : OpenClaim := { program := "ythenbpnlmpeafaadoor", sum := "c85c58c6c37dcd4b0f69878e4cb1628ece0bef027321118a2ef9e26e0a8db015", func := "handfast/handfastlaw07.EncapBack", spec := "encapBack", unfollowed := true, recurses := true, named := ["handfast/ip.widths"], plainKeys := false, apart := false, laid := [("handfast/ip.widths", laid_handfast_ip_widths)], narrowed := true }
def EncapBackUptoSaid : Prop := encapBackUptoRow.holds Tryd.pinned (OpenSpec.upto encapBackSpec)

/-- 'handfastlaw07.EncapOnly', WHERE WHAT IT READS IS OF BULK AT MOST 1048576: true; the input reads as it did. -/
def encapOnlyUptoRow : OpenClaim := { program := "ythenbpnlmpeafaadoor", sum := "c85c58c6c37dcd4b0f69878e4cb1628ece0bef027321118a2ef9e26e0a8db015", func := "handfast/handfastlaw07.EncapOnly", spec := "encapOnly", unfollowed := true, recurses := true, named := ["handfast/ip.widths"], plainKeys := false, apart := false, laid := [("handfast/ip.widths", laid_handfast_ip_widths)], narrowed := true }
def EncapOnlyUptoSaid : Prop := encapOnlyUptoRow.holds Tryd.pinned (OpenSpec.upto encapOnlySpec)

/-- 'handfastlaw07.EncapNodes', WHERE WHAT IT READS IS OF BULK AT MOST 1048576: true; the input reads as it did. -/
def encapNodesUptoRow : OpenClaim := { program := "ythenbpnlmpeafaadoor", sum := "c85c58c6c37dcd4b0f69878e4cb1628ece0bef027321118a2ef9e26e0a8db015", func := "handfast/handfastlaw07.EncapNodes", spec := "encapNodes", unfollowed := true, recurses := true, named := ["handfast/ip.widths"], plainKeys := false, apart := false, laid := [("handfast/ip.widths", laid_handfast_ip_widths)], narrowed := true }
def EncapNodesUptoSaid : Prop := encapNodesUptoRow.holds Tryd.pinned (OpenSpec.upto encapNodesSpec)

/-- 'handfastlaw07.EncapOwn', WHERE WHAT IT READS IS OF BULK AT MOST 1048576: true; the input reads as it did. -/
def encapOwnUptoRow : OpenClaim := { program := "ythenbpnlmpeafaadoor", sum := "c85c58c6c37dcd4b0f69878e4cb1628ece0bef027321118a2ef9e26e0a8db015", func := "handfast/handfastlaw07.EncapOwn", spec := "encapOwn", unfollowed := true, recurses := true, named := ["handfast/ip.widths"], plainKeys := false, apart := false, laid := [("handfast/ip.widths", laid_handfast_ip_widths)], narrowed := true }
def EncapOwnUptoSaid : Prop := encapOwnUptoRow.holds Tryd.pinned (OpenSpec.upto encapOwnSpec)

end Rows
end Go.Proofs.YthenbpnlmpeafaaDoor
