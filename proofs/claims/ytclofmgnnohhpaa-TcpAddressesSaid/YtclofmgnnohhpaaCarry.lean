/- What the end-around carry and the sum of a list of words answer: 'handfast/sum.carryRound' and 'handfast/sum.Fold' at every list of at most 4000000 words. -/
import Derived.Test.YtclofmgnnohhpaaProg
import Derived.Test.YtclofmgnnohhpaaMath
import Derived.Test.YtclofmgnnohhpaaBase
import Derived.WalkKit
import Derived.WalkMore
import Derived.ScopeJumps
import Derived.Outline
namespace Go.Proofs.Ytclofmgnnohhpaa
open Go.RowKit
open SumM

set_option maxRecDepth 100000 in
theorem carry_any (n : Int) (w : World) (h0 : 0 ≤ n) (h1 : n ≤ 4503599627370495) :
    Calls Try.prog 37 #[.int .u64 n] w fun e w' => e = .returned (.int .u16 (cr n)) ∧ w = w' := by
  go_enter Try.func37, Try.ntmps37
  go_wp2
  refine wp_scope_jumps 0 (fun a' w' => w' = w ∧ ∃ (m : Int) (u3 u4 u5 u6 u7 u8 u9 : Value), a' = { tmps := #[.int .u64 m, undef, .int .u16 0, u3, u4, u5, u6, u7, u8, u9, undef, undef], defers := [] } ∧ cr m = cr n ∧ 0 ≤ m ∧ m ≤ 4503599627370495) (fun a' _ => (intOf (a'.tmps.getD 0 undef)).toNat) rfl ?_ ?_
  · go_wp2
    go_step3
    go_wp2
    · have hg : 65535 < n := by assumption
      go_step3
      rw [carry_bits n h0 h1]
      exact ⟨rfl, rfl, _, _, _, _, _, _, _, _, rfl, cr_step hg, by omega, by omega⟩
    · have hg : n ≤ 65535 := by assumption
      simp only [Exit.jump]
      go_ret
      rw [cr_small h0 hg]
      exact ⟨rfl, rfl⟩
  · rintro a' w' ⟨rfl, m, u3, u4, u5, u6, u7, u8, u9, rfl, hs, hm0, hm1⟩
    have HS := Lib.hid hs
    clear hs
    go_wp2
    · have hg : 65535 < m := by assumption
      go_step3
      rw [carry_bits m hm0 hm1]
      refine ⟨rfl, ⟨rfl, _, _, _, _, _, _, _, _, rfl, (cr_step hg).trans HS.out, by omega, by omega⟩, ?_⟩
      simp [intOf]
      omega
    · have hg : m ≤ 65535 := by assumption
      simp only [Exit.jump]
      go_ret
      rw [← HS.out, cr_small hm0 hg]
      exact ⟨rfl, rfl⟩

end Go.Proofs.Ytclofmgnnohhpaa
