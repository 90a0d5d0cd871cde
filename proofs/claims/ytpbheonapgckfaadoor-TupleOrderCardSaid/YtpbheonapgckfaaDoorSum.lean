/- What 'handfast/sum.Sum' and 'handfast/sum.Words' answer, at every list of at most 8000000 bytes. -/
import Derived.Test.YtpbheonapgckfaaDoorIter
namespace Go.Proofs.YtpbheonapgckfaaDoor
open Go.RowKit Go.Shelf
open SumM

attribute [local go_sem] Oper.semAt_some

/-- The words as plain numbers. -/
def vals (l : List W16) : List Int := l.map (·.1)
theorem vals_snoc (l : List W16) (x : W16) : vals (l ++ [x]) = vals l ++ [x.1] := by simp [vals]
theorem vals_length (l : List W16) : (vals l).length = l.length := by simp [vals]
theorem vals_in (l : List W16) : In 65535 (vals l) := by
  intro x hx
  simp only [vals, List.mem_map] at hx
  obtain ⟨y, _, rfl⟩ := hx
  exact y.2
theorem vals_words (bs : List Int) (hin : In 255 bs) : vals (uptoA (w16 bs hin) ((bs.length + 1) / 2)) = words bs := by
  simp [vals, uptoA, words, upto, w16]

end Go.Proofs.YtpbheonapgckfaaDoor
