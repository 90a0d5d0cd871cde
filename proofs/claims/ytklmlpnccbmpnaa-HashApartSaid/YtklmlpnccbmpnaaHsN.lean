/- No bytes: the state stays. -/
import Derived.Test.YtklmlpnccbmpnaaHsW
namespace Go.Proofs.Ytklmlpnccbmpnaa
open Go.RowKit Go.Shelf
open SumM

theorem hGo_nil {t : Int} (ht : 0 ≤ t ∧ t ≤ 255) (ad : Option Addr) (c : Nat) (W : World) : Calls Try.prog 19 #[.int .u8 t, .slice ad 0 c] W fun e w' => e = .returned (.int .u8 t) ∧ Below W.heap.size W w' := hGo_any t ht ad 0 c W.heap.size [] W (Row.nil _ _ _ _) rfl (by omega)
end Go.Proofs.Ytklmlpnccbmpnaa
