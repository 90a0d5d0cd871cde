/- What the row's listed table gives the walks of layer 5; what flags say, by cases. -/
import Derived.Test.YtnncmcfonkhckaaDoorPkW
import Derived.Test.YtnncmcfonkhckaaDoorPkCore
import Derived.Test.YtnncmcfonkhckaaDoorIpRef
namespace Go.Proofs.YtnncmcfonkhckaaDoor
open Go.RowKit Go.Joins Go.ChangeShapes Go.WideShapes Go.ChangeAt Go.Deep
open SumM

theorem laid_of_met {W : World} (h : laidMetH Tryd.prog laidW W) : Wid W ∧ 0 < W.heap.size := wid_of_laid h

/-- What flags say, by cases. -/
def flagsSay (kf : Int) : Bool :=
  ((bits .and .u8 kf 7 == 0) && !syB kf && !clB kf) || ((bits .and .u8 kf 7 == 2) && syB kf && !clB kf) || ((bits .and .u8 kf 7 != 0) && (bits .and .u8 kf 7 != 2) && !syB kf && clB kf)
theorem flags_all : ∀ n : Fin 256, flagsSay (n.val : Int) = true := by decide +kernel
theorem flags_cases (kf : Int) (h : 0 ≤ kf ∧ kf ≤ 255) :
    (bits .and .u8 kf 7 = 0 ∧ syB kf = false ∧ clB kf = false) ∨ (bits .and .u8 kf 7 = 2 ∧ syB kf = true ∧ clB kf = false) ∨ (bits .and .u8 kf 7 ≠ 0 ∧ bits .and .u8 kf 7 ≠ 2 ∧ syB kf = false ∧ clB kf = true) := by
  have h1 := flags_all ⟨kf.toNat, by omega⟩
  rw [show ((⟨kf.toNat, by omega⟩ : Fin 256).val : Int) = kf by simp; omega] at h1
  unfold flagsSay at h1
  simp only [Bool.or_eq_true, Bool.and_eq_true, beq_iff_eq, bne_iff_ne, Bool.not_eq_true'] at h1
  rcases h1 with (⟨⟨h2, h3⟩, h4⟩ | ⟨⟨h2, h3⟩, h4⟩) | ⟨⟨⟨h2, h3⟩, h4⟩, h5⟩
  · exact .inl ⟨h2, h3, h4⟩
  · exact .inr (.inl ⟨h2, h3, h4⟩)
  · exact .inr (.inr ⟨h2, h3, h4, h5⟩)
end Go.Proofs.YtnncmcfonkhckaaDoor
