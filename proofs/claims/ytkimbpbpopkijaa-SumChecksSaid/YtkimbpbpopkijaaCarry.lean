/- What the end-around carry and the sum of a list of words answer: 'handfast/sum.carryRound' and 'handfast/sum.Fold' at every list of at most 4000000 words. -/
import Derived.Test.YtkimbpbpopkijaaProg
import Derived.Test.YtkimbpbpopkijaaMath
import Derived.Test.YtkimbpbpopkijaaBase
import Derived.WalkKit
import Derived.WalkMore
import Derived.ScopeJumps
import Derived.Outline
namespace Go.Proofs.Ytkimbpbpopkijaa
open Go.RowKit
open SumM

set_option maxRecDepth 100000 in
theorem carry_any (n : Int) (w : World) (h0 : 0 ≤ n) (h1 : n ≤ 4503599627370495) :
    Calls Try.prog 23 #[.int .u64 n] w fun e w' => e = .returned (.int .u16 (cr n)) ∧ w = w' := by
  go_enter Try.func23, Try.ntmps23
  go_wp2
  refine wp_scope_jumps 0 (fun a' w' => w' = w ∧ ∃ (m : Int) (u3 u4 u5 u6 u7 u8 u9 : Value), a' = { tmps := #[.int .u64 m, undef, .int .u16 0, u3, u4, u5, u6, u7, u8, u9, undef, undef], defers := [] } ∧ cr m = cr n ∧ 0 ≤ m ∧ m ≤ 4503599627370495) (fun a' _ => (intOf (a'.tmps.getD 0 undef)).toNat) rfl ?_ ?_
  · go_wp2
    go_step3
    go_wp2
    · have hg : 65535 < n := by assumption
      go_step3
      rw [carry_bits n h0 h1]
      exact ⟨rfl, rfl, _, _, _, _, _, _, _, _, rfl, cr_step hg, by omega, by omega⟩
    · have hg : n ≤ 65535 := by assumption
      simp only [Exit.jump]
      go_ret
      rw [cr_small h0 hg]
      exact ⟨rfl, rfl⟩
  · rintro a' w' ⟨rfl, m, u3, u4, u5, u6, u7, u8, u9, rfl, hs, hm0, hm1⟩
    have HS := Lib.hid hs
    clear hs
    go_wp2
    · have hg : 65535 < m := by assumption
      go_step3
      rw [carry_bits m hm0 hm1]
      refine ⟨rfl, ⟨rfl, _, _, _, _, _, _, _, _, rfl, (cr_step hg).trans HS.out, by omega, by omega⟩, ?_⟩
      simp [intOf]
      omega
    · have hg : m ≤ 65535 := by assumption
      simp only [Exit.jump]
      go_ret
      rw [← HS.out, cr_small hm0 hg]
      exact ⟨rfl, rfl⟩

set_option maxRecDepth 100000 in
set_option maxHeartbeats 400000 in
theorem fold_any (a : Option Addr) (len cap B : Nat) (zs : List Int) (w : World) (h : Row .u16 B w a zs) (hl : zs.length = len) (hs : len ≤ 4000000) :
    Calls Try.prog 12 #[.slice a len cap] w fun e w' => e = .returned (.int .u16 (cr (tot zs))) ∧ w = w' := by
  have hin : In 65535 zs := fun x hx => wf_u16.1 (h.1 x hx)
  have HL := Lib.hid hl
  clear hl
  go_enter Try.func12, Try.ntmps12
  go_wp2
  go_loop [3, 8] (fun t i => ∃ k : Nat, k ≤ len ∧ i = .int .i64 k ∧ t = .int .u64 (tot (zs.take k))) (fun _ i => len - (intOf i).toNat)
  case atStart => exact ⟨0, Nat.zero_le _, rfl, rfl⟩
  case round =>
    obtain ⟨k, hk, rfl, rfl⟩ := hrel
    have hb := tot_in (zs.take k) (fun x hx => hin x (List.mem_of_mem_take hx))
    have hk' : (zs.take k).length ≤ k := List.length_take_le _ _
    by_cases hlt : k < len
    · obtain ⟨b, off, rfl, _, hc⟩ := h.2 (by rw [HL.out]; omega)
      have hcx := hc k (by rw [HL.out]; omega)
      have hx := getD_in hin (by decide) k
      have HT := Lib.hid (show tot (zs.take (k + 1)) = tot (zs.take k) + zs[k]?.getD 0 by
        rw [List.take_add_one, tot_append]
        have : k < zs.length := by rw [HL.out]; exact hlt
        simp [tot, this])
      clear hc h hin
      go_wp2
      go_round
      case rel => exact ⟨k + 1, by omega, by go_num, by rw [HT.out]⟩
      case measure => simp [intOf]; omega
    · obtain rfl : k = len := by omega
      have he : zs.take k = zs := List.take_of_length_le (by rw [HL.out]; exact Nat.le_refl _)
      rw [he] at hb
      have HE := Lib.hid he
      clear he
      rw [HE.out]
      have hz : zs.length ≤ 4000000 := by rw [HL.out]; exact hs
      go_wp2_with (go_at_call 23; refine (carry_any _ _ (by omega) (by omega)).mono ?_; rintro e w' ⟨rfl, rfl⟩)
      go_ret
      exact ⟨rfl, rfl⟩
/-- The same, where the slice lies in the memory that there is. -/
theorem fold_here (a : Option Addr) (len cap : Nat) (zs : List Int) (w : World) (h : Row .u16 w.heap.size w a zs) (hl : zs.length = len) (hs : len ≤ 4000000) :
    Calls Try.prog 12 #[.slice a len cap] w fun e w' => e = .returned (.int .u16 (cr (tot zs))) ∧ w = w' := fold_any a len cap _ zs w h hl hs
end Go.Proofs.Ytkimbpbpopkijaa
