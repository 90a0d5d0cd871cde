/- A row set: the document's, in all ways. -/
import Derived.Test.YtanbkbppahgbgaaTbG1
import Derived.Test.YtanbkbppahgbgaaTbG2
import Derived.Test.YtanbkbppahgbgaaTbG3
import Derived.Test.YtanbkbppahgbgaaTbG4
import Derived.Test.YtanbkbppahgbgaaTbG5
import Derived.Test.YtanbkbppahgbgaaTbG6
import Derived.Test.YtanbkbppahgbgaaTbG7
namespace Go.Proofs.Ytanbkbppahgbgaa
open Go.RowKit Go.Shelf
open SumM

theorem r10Set_any (T : Nat → Int) (b : Int) (ec ep eg et : Int) (w : World) : Calls Try.prog 9 #[tabV T, .int .i64 b, .agg #[.int .i64 ec, .int .i64 ep, .int .i64 eg, .int .i64 et]] w fun e w' => e = .returned (.tuple #[tabV (setV T b (ec, ep, eg, et)), .int .i64 (setN T b (ec, ep, eg, et))]) ∧ Below w.heap.size w w' := by
  by_cases H : rgT T = false
  · exact r10Set_w1 T b ec ep eg et (by unfold setOk; rw [H]; rfl) H w
  have H : rgT T = true := by simpa using H
  by_cases H' : rgt ec ep eg et = false
  · exact r10Set_w2 T b ec ep eg et (by unfold setOk; rw [show rgE (ec, ep, eg, et) = false from H']; simp) H H' w
  have H' : rgt ec ep eg et = true := by simpa using H'
  by_cases h0 : b < 0
  · exact r10Set_w3 T b ec ep eg et (by unfold setOk; rw [show decide (0 ≤ b) = false by simpa using h0]; simp) H H' h0 w
  by_cases h1 : 16 ≤ b
  · exact r10Set_w4 T b ec ep eg et (by unfold setOk; rw [show decide (b < 16) = false by simpa using h1]; simp) H H' h0 h1 w
  by_cases hv : (T 0 == 1099511627776) = true
  · exact r10Set_w5 T b ec ep eg et (by unfold setOk; rw [hv]; simp) H H' h0 h1 hv w
  have hv : (T 0 == 1099511627776) = false := by simpa using hv
  by_cases HF : setOk T b (ec, ep, eg, et) = false
  · exact r10Set_w6 T b ec ep eg et HF H H' h0 h1 hv w
  · exact r10Set_w7 T b ec ep eg et (by simpa using HF) H H' h0 h1 hv w
end Go.Proofs.Ytanbkbppahgbgaa
