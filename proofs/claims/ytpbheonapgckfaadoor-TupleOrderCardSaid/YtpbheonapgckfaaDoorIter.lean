/- What 'handfast/sum.wordsOf' and the closure that it hands back do: the words of b, one by one, to whatever loop's body keeps b and the closure's own box. -/
import Derived.Test.YtpbheonapgckfaaDoorCarry
import Derived.Test.YtpbheonapgckfaaDoorIterBase
namespace Go.Proofs.YtpbheonapgckfaaDoor
open Go.RowKit Go.Shelf
open SumM

attribute [local go_sem] Oper.semAt_some

/-- A word. -/
abbrev W16 := { x : Int // 0 ≤ x ∧ x ≤ 65535 }
def w16 (bs : List Int) (h : In 255 bs) (k : Nat) : W16 := ⟨wordAt bs k, wordAt_in h k⟩

end Go.Proofs.YtpbheonapgckfaaDoor
