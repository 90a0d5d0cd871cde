/- Package packet: what its functions answer, all six. -/
import Derived.Test.YtnncmcfonkhckaaDoorPkP
namespace Go.Proofs.YtnncmcfonkhckaaDoor
open Go.RowKit Go.Shelf
open SumM

theorem pkParse_any (a : Option Addr) (len cap : Nat) (bs : List Int) (hlen : bs.length = len) (hlc : len ≤ cap) (hc : cap ≤ 9223372036854775807) (hln : len ≤ 1000000) (w : World) (hg : 0 < w.heap.size) (hW : Wid w) (hR : Row .u8 w.heap.size w a bs) :
    Calls Tryd.prog 8 #[.slice a len cap] w (PkParseRet bs w) :=
  callsIn_wide.1 (pkParse_in 4 (by omega) a len cap bs hlen hlc hc hln w hg hW hR)
end Go.Proofs.YtnncmcfonkhckaaDoor
