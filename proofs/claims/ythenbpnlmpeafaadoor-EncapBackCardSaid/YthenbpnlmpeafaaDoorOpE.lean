/- The document's own Of and Turned of options. -/
import Derived.Test.YthenbpnlmpeafaaDoorOpD
namespace Go.Proofs.YthenbpnlmpeafaaDoor
open Go.RowKit Go.Shelf
open SumM

theorem e_cells {w : World} {b : Nat} (ec ep eg et : Int) (h : w.heap[b]? = some (.cells #[.int .i64 ec, .int .i64 ep, .int .i64 eg, .int .i64 et] 96 (0, 0))) :
    w.cell? ⟨b, 0, none⟩ = some (.int .i64 ec) ∧ w.cell? ⟨b, 1, none⟩ = some (.int .i64 ep) ∧ w.cell? ⟨b, 2, none⟩ = some (.int .i64 eg) ∧ w.cell? ⟨b, 3, none⟩ = some (.int .i64 et) := by
  refine ⟨?_, ?_, ?_, ?_⟩ <;> (rw [cell_of_row _ _ _ _ _ _ h]; rfl)
def ofOk (kd bk ec ep eg et : Int) : Bool := decide (0 ≤ bk) && decide (bk < 16) && optOk kd bk ec ep eg et
def ofV (kd bk ec ep eg et : Int) : Int × Int × Int × Int × Int × Int := if ofOk kd bk ec ep eg et = true then (kd, bk, ec, ep, eg, et) else (0, 0, 0, 0, 0, 0)
def ofY (kd bk ec ep eg et : Int) : Int := if ofOk kd bk ec ep eg et = true then 0 else 2
def tuV (bu cu pv ti kk gg : Int) : Int × Int × Int × Int × Int × Int := if optOk kk bu cu pv gg ti = true then (kk, bu, cu, pv, gg, ti) else (0, 0, 0, 0, 0, 0)
def tuY (bu cu pv ti kk gg : Int) : Int := if optOk kk bu cu pv gg ti = true then 0 else 2

end Go.Proofs.YthenbpnlmpeafaaDoor
