/- What 'handfast/sum.Check', 'Right' and 'Change' answer. -/
import Derived.Test.YtkimbpbpopkijaaWords
namespace Go.Proofs.Ytkimbpbpopkijaa
open Go.RowKit
open SumM

set_option maxRecDepth 100000 in
theorem check_any (a : Option Addr) (len cap : Nat) (bs : List Int) (hl : bs.length = len) (hs : len ≤ 8000000) (w : World) (hR : Row .u8 w.heap.size w a bs) :
    Calls Try.prog 16 #[.slice a len cap] w fun e W' => e = .returned (.int .u16 (65535 - sumOf bs)) ∧ Below w.heap.size w W' := by
  have HL := Lib.hid hl
  clear hl
  have hb := cr_in (tot (words bs))
  have hsg : IntKind.u16.signed = false := rfl
  have e1 := not_u16 (sumOf bs) hb.1 hb.2
  go_enter Try.func16, Try.ntmps16
  go_wp2_with (go_at_call 14; refine (sum_any _ _ _ _ HL.out hs _ hR).mono ?_; rintro e w1 ⟨rfl, hb1⟩)
  go_ret
  exact ⟨rfl, hb1⟩

set_option maxRecDepth 100000 in
theorem right_any (a : Option Addr) (len cap : Nat) (bs : List Int) (hl : bs.length = len) (hs : len ≤ 8000000) (w : World) (hR : Row .u8 w.heap.size w a bs) :
    Calls Try.prog 18 #[.slice a len cap] w fun e W' => e = .returned (.bool (sumOf bs == 65535)) ∧ Below w.heap.size w W' := by
  have HL := Lib.hid hl
  clear hl
  go_enter Try.func18, Try.ntmps18
  go_wp2_with (go_at_call 14; refine (sum_any _ _ _ _ HL.out hs _ hR).mono ?_; rintro e w1 ⟨rfl, hb1⟩)
  go_ret
  exact ⟨rfl, hb1⟩

set_option maxRecDepth 100000 in
theorem change_any (c o n : Int) (w : World) (hc : 0 ≤ c ∧ c ≤ 65535) (ho : 0 ≤ o ∧ o ≤ 65535) (hn : 0 ≤ n ∧ n ≤ 65535) :
    Calls Try.prog 20 #[.int .u16 c, .int .u16 o, .int .u16 n] w fun e W' => e = .returned (.int .u16 (65535 - cr ((65535 - c) + (65535 - o) + n))) ∧ Below w.heap.size w W' := by
  have hsg : IntKind.u16.signed = false := rfl
  have e1 := not_u16 c hc.1 hc.2
  have e2 := not_u16 o ho.1 ho.2
  have hz : In 65535 [65535 - c, 65535 - o, n] := by
    intro x hx
    simp at hx
    omega
  have et : tot [65535 - c, 65535 - o, n] = (65535 - c) + (65535 - o) + n := by simp [tot]; omega
  have hb := cr_in (tot [65535 - c, 65535 - o, n])
  have e3 := not_u16 (cr (tot [65535 - c, 65535 - o, n])) hb.1 hb.2
  have HT := Lib.hid et
  clear et
  go_enter Try.func20, Try.ntmps20
  go_wp2_with fail
  refine (fold_any _ 3 3 _ [65535 - c, 65535 - o, n] _ (Row.built .u16 w 24 [65535 - c, 65535 - o, n] (in_wf16 hz)) rfl (by omega)).mono ?_
  rintro e w1 ⟨rfl, rfl⟩
  go_wp2
  go_ret
  exact ⟨by rw [HT.out]; rfl, (Below.refl _ w).alloc (Nat.le_refl _) _⟩
end Go.Proofs.Ytkimbpbpopkijaa
