/- What 'handfast/sum.Words' answers, at every list of at most 8000000 bytes: a slice of its own that holds the words. -/
import Derived.Test.YtpbheonapgckfaaDoorSum
namespace Go.Proofs.YtpbheonapgckfaaDoor
open Go.RowKit Go.Shelf
open SumM

attribute [local go_sem] Oper.semAt_some

/-- What is owned is a slice value. -/
theorem own_slice {w : World} {base : Nat} {e : TypeId} {v : Value} {n : Nat} {xs : List Value} (h : w.ownsRow base e 1 v n xs) : ∃ a c, v = .slice a n c := by
  rcases h.2 with ⟨rfl, rfl⟩ | ⟨g, cap, cur, rfl, _⟩
  · have := h.1
    simp at this
    subst this
    exact ⟨_, _, rfl⟩
  · exact ⟨_, _, rfl⟩
theorem in_wf16 {l : List Int} (h : In 65535 l) : ∀ n ∈ l, (Lit.int .u16 n).wf = true := fun n hn => wf_u16.2 (h n hn)

theorem Tryd.infoU16 : (Tryd.prog.info? 23).map (fun i => (i.zero, i.size, i.bytes)) = some (some (.int .u16 0), 1, 2) := by kernel_rfl

end Go.Proofs.YtpbheonapgckfaaDoor
