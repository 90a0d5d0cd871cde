/- What 'handfast/sum.Check', 'Right' and 'Change' answer. -/
import Derived.Test.YtclofmgnnohhpaaWords
namespace Go.Proofs.Ytclofmgnnohhpaa
open Go.RowKit
open SumM

set_option maxRecDepth 100000 in
theorem check_any (a : Option Addr) (len cap : Nat) (bs : List Int) (hl : bs.length = len) (hs : len ≤ 8000000) (w : World) (hR : Row .u8 w.heap.size w a bs) :
    Calls Try.prog 27 #[.slice a len cap] w fun e W' => e = .returned (.int .u16 (65535 - sumOf bs)) ∧ Below w.heap.size w W' := by
  have HL := Lib.hid hl
  clear hl
  have hb := cr_in (tot (words bs))
  have hsg : IntKind.u16.signed = false := rfl
  have e1 := not_u16 (sumOf bs) hb.1 hb.2
  go_enter Try.func27, Try.ntmps27
  go_wp2_with (go_at_call 34; refine (sum_any _ _ _ _ HL.out hs _ hR).mono ?_; rintro e w1 ⟨rfl, hb1⟩)
  go_ret
  exact ⟨rfl, hb1⟩

set_option maxRecDepth 100000 in
theorem right_any (a : Option Addr) (len cap : Nat) (bs : List Int) (hl : bs.length = len) (hs : len ≤ 8000000) (w : World) (hR : Row .u8 w.heap.size w a bs) :
    Calls Try.prog 20 #[.slice a len cap] w fun e W' => e = .returned (.bool (sumOf bs == 65535)) ∧ Below w.heap.size w W' := by
  have HL := Lib.hid hl
  clear hl
  go_enter Try.func20, Try.ntmps20
  go_wp2_with (go_at_call 34; refine (sum_any _ _ _ _ HL.out hs _ hR).mono ?_; rintro e w1 ⟨rfl, hb1⟩)
  go_ret
  exact ⟨rfl, hb1⟩

end Go.Proofs.Ytclofmgnnohhpaa
