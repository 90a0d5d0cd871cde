/- Arguments that came in, opened: slices of bytes. -/
import Derived.Test.YtpbheonapgckfaaDoorGen
import Derived.Test.YtpbheonapgckfaaDoorRows
import Derived.ProofKit
import Derived.LaidMore
import Derived.OpenShut
import Derived.Stop.Joined
import Derived.Lib.SmallJoins
namespace Go.Proofs.YtpbheonapgckfaaDoor
open Go.RowKit Go.Joins Go.ChangeShapes Go.WideShapes Go.ChangeAt Go.Deep
open SumM

theorem wf_u32 {n : Int} : (Lit.int .u32 n).wf = true ↔ 0 ≤ n ∧ n ≤ 4294967295 := by simp [Lit.wf, IntKind.min, IntKind.max, IntKind.bits, IntKind.signed]
section
variable {H : Type} {enc : TypeId × Value → H} {w : World} {base : Nat} {spare : Nat → Bool} {held : Bool}
theorem open_bytes {fuel : Nat} {v : Value} {x : DataW H × List MemPlace} (hsp : ∀ b, spare b = true) (hf : DataW.trod enc Tryd.prog w base spare held fuel 26 [v] = some x) :
    ∃ (a : Option Addr) (n c : Nat) (zs : List Int), v = .slice a n c ∧ Row .u8 w.heap.size w a zs ∧ zs.length = n ∧ (a = none → c = 0) ∧ n ≤ c ∧ c ≤ maxLen := by
  rcases open_ints Tryd.underlying26 Tryd.underlying5 (by kernel_rfl) hf with ⟨hcs, _⟩ | ⟨a, l, c, zs, hcs, _, hl, hm, hz, _, hcell, hwz⟩
  · obtain rfl : v = .slice none 0 0 := by simpa using hcs
    exact ⟨none, 0, 0, [], rfl, Row.nil _ _ _ _, rfl, fun _ => rfl, Nat.le_refl _, Nat.zero_le _⟩
  · obtain rfl : v = .slice (some a) l c := by simpa using hcs
    have hr : IsRow .u8 w (some a) l c zs := .inr ⟨a, rfl, hl, hm, by simpa [hsp] using hz, hcell, hwz⟩
    obtain ⟨h1, h2, h3, h4, h5⟩ := hr.row
    exact ⟨some a, l, c, _, rfl, h1, h2, h3, h4, h5⟩
end
end Go.Proofs.YtpbheonapgckfaaDoor
