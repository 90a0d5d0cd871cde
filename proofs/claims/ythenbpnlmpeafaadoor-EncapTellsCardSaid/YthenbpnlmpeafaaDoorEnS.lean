/- Package encap: what its functions answer, in the form that the laws' walks ask for. -/
import Derived.Test.YthenbpnlmpeafaaDoorEnO
import Derived.Test.YthenbpnlmpeafaaDoorEnR
import Derived.Test.YthenbpnlmpeafaaDoorEnT
namespace Go.Proofs.YthenbpnlmpeafaaDoor
open Go.RowKit Go.Shelf
open SumM

theorem eAddr_any (nk ni : Int) (_ : 0 ≤ nk ∧ nk ≤ 255) (_ : -9223372036854775808 ≤ ni ∧ ni ≤ 9223372036854775807) (w : World) :
    Calls Tryd.prog 9 #[.agg #[.int .u8 nk, .int .i64 ni]] w fun e w' => e = .returned (.tuple #[.int .u32 (adrV (nk, ni)), .bool (isNod (nk, ni))]) ∧ Below w.heap.size w w' := eAddr_is nk ni w

theorem eNode_any (ad : Int) (_ : 0 ≤ ad ∧ ad ≤ 4294967295) (w : World) :
    Calls Tryd.prog 11 #[.int .u32 ad] w fun e w' => e = .returned (.tuple #[.agg #[.int .u8 (nodV ad).1, .int .i64 (nodV ad).2], .bool (nodB ad)]) ∧ Below w.heap.size w w' := eNode_is ad w

theorem ePut_any (fk fi xk xi kd bu cu pv ge ti : Int) (wa : Option Addr) (wn wc : Nat) (zs : List Int) (H : ONums kd bu cu pv ge ti) (_ : 0 ≤ fk ∧ fk ≤ 255) (_ : -9223372036854775808 ≤ fi ∧ fi ≤ 9223372036854775807) (_ : 0 ≤ xk ∧ xk ≤ 255) (_ : -9223372036854775808 ≤ xi ∧ xi ≤ 9223372036854775807) (hdn : wn ≤ 281474976710600) (w : World) (hg : 0 < w.heap.size) (hW : Wid w) (hr : Row .u8 w.heap.size w wa zs) (hl : zs.length = wn) (hn : wa = none → wc = 0) :
    Calls Tryd.prog 13 #[.agg #[.int .u8 fk, .int .i64 fi, .int .u8 xk, .int .i64 xi, .int .u8 kd, .int .u8 bu, .int .i64 cu, .int .i64 pv, .int .i64 ge, .int .i64 ti, .slice wa wn wc]] w (EnPutRet fk fi xk xi kd bu cu pv ge ti zs w) :=
  ePut_is fk fi xk xi kd bu cu pv ge ti wa wn wc zs H hdn w hg hW hr hl hn
end Go.Proofs.YthenbpnlmpeafaaDoor
