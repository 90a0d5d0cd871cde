/- More words for the laws over heads: what Parse tells, whatever the head; a row of the call's own and a byte stored in it. -/
import Derived.Test.YtjofijigfkkidaaDoorIpB
namespace Go.Proofs.YtjofijigfkkidaaDoor
open Go.RowKit
open SumM

/-- A head, whatever it is, and why there is none. -/
def Told (y : Int) (w : World) (e : Ending) (w' : World) : Prop :=
  ∃ (sv nu fl ho pr sr ds : Int) (oa : Option Addr) (on oc : Nat) (pa : Option Addr) (pn pc : Nat), e = .returned (.tuple #[.agg #[.int .u8 sv, .int .u16 nu, .int .u16 fl, .int .u8 ho, .int .u8 pr, .int .u32 sr, .int .u32 ds, .slice oa on oc, .slice pa pn pc], .int .u8 y]) ∧ Below w.heap.size w w'
theorem parse_told (bs : List Int) (A : Option Addr) (len cap : Nat) (hlen : bs.length = len) (hlc : len ≤ cap) (hc : cap ≤ 9223372036854775807) (hln : len ≤ 1000000) (w : World) (hg : 0 < w.heap.size) (hW : Wid w) (hR : Row .u8 w.heap.size w A bs) (y : Int) (hy : whyOf bs = y) :
    Calls Tryd.prog 12 #[.slice A len cap] w (Told y w) := by
  refine (ipParse_any A len cap bs hlen hlc hc hln w hg hW hR).mono ?_
  rintro e w' (⟨_, rfl, h⟩ | ⟨h0, v, rfl, oa, oc, pa, pc, rfl, _, _, h⟩)
  · exact ⟨_, _, _, _, _, _, _, _, _, _, _, _, _, by rw [hy], h⟩
  · exact ⟨_, _, _, _, _, _, _, _, _, _, _, _, _, by rw [← hy, h0], h⟩
end Go.Proofs.YtjofijigfkkidaaDoor
