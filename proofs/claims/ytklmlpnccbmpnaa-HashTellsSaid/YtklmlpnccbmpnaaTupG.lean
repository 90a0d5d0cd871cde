/- The document's own answers on tuples: decimal. -/
import Derived.Test.YtklmlpnccbmpnaaTupF
namespace Go.Proofs.Ytklmlpnccbmpnaa
open Go.RowKit Go.Shelf
open SumM

/-- A number's digits. -/
def decL (n : Nat) : List Int := if n < 10 then [48 + (n : Int)] else decL (n / 10) ++ decL (n % 10)
termination_by n
decreasing_by all_goals omega

theorem decL_length (n : Nat) : (decL n).length ≤ n + 1 := by
  induction n using Nat.strongRecOn with
  | _ n ih =>
    rw [decL]
    split
    · simp
    · have := ih (n / 10) (by omega)
      have := ih (n % 10) (by omega)
      rw [List.length_append]
      omega
theorem str_append (a b : List Int) : strOfNums (a ++ b) = strOfNums a ++ strOfNums b := by
  apply ByteArray.ext
  simp [strOfNums]

end Go.Proofs.Ytklmlpnccbmpnaa
