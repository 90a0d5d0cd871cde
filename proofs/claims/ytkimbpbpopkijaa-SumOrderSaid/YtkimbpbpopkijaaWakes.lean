/- 'handfastlaw01.wakes' returns true, in whatever memory, and leaves what lay as it lay. -/
import Derived.Test.YtkimbpbpopkijaaRef
namespace Go.Proofs.Ytkimbpbpopkijaa
open Go.RowKit
open SumM

theorem below_dr {B : Nat} {a w : World} (h : Below B a w) (n : Nat) : Below B a (w.drewN n) := ⟨h.os, h.tape, h.output, h.size, h.block⟩
theorem in_wf8 {l : List Int} (h : In 255 l) : ∀ n ∈ l, (Lit.int .u8 n).wf = true := fun n hn => wf_u8.2 (h n hn)

set_option maxRecDepth 100000 in
set_option maxHeartbeats 1000000 in
theorem wakes_any (w : World) : Calls Try.prog 8 #[] w fun e w' => e = .returned (.bool true) ∧ Below w.heap.size w w' := by
  have f1 : (cr (tot [65535, 1]) == 1) = true := by decide
  have f2 : (cr (tot []) == 0) = true := by decide
  have f3 : (sumOf [0, 1, 242, 3, 244, 245, 246, 247] == 56818) = true := by decide
  have f4 : (65535 - sumOf [0, 1, 242, 3, 244, 245, 246, 247] == 8717) = true := by decide
  have f5 : (sumOf [0, 1, 242, 3, 244, 245, 246, 247] == 65535) = false := by decide
  have f6 : (sumOf [18, 52, 237, 203] == 65535) = true := by decide
  have f7 : words [1, 2, 3] = [258, 768] := by decide
  have f8 : (65535 - cr ((65535 - 8717) + (65535 - 61955) + 61956) == 8716) = true := by decide
  have F7 := Lib.hid f7
  clear f7
  go_enter Try.func8, Try.ntmps8
  go_wp2_with fail
  have b0 : Row .u8 (w.heap.size + 1) (w.alloc (.cells #[.int .u8 0, .int .u8 1, .int .u8 242, .int .u8 3, .int .u8 244, .int .u8 245, .int .u8 246, .int .u8 247] 5)) (some ⟨w.heap.size, 0, none⟩) [0, 1, 242, 3, 244, 245, 246, 247] :=
    Row.built .u8 w 5 [0, 1, 242, 3, 244, 245, 246, 247] (by decide)
  have l0 := (Below.refl w.heap.size w).alloc (Nat.le_refl _) (.cells #[.int .u8 0, .int .u8 1, .int .u8 242, .int .u8 3, .int .u8 244, .int .u8 245, .int .u8 246, .int .u8 247] 5)
  generalize hW : w.alloc (.cells #[.int .u8 0, .int .u8 1, .int .u8 242, .int .u8 3, .int .u8 244, .int .u8 245, .int .u8 246, .int .u8 247] 5) = W at *
  have hz : W.heap.size = w.heap.size + 1 := by rw [← hW]; simp
  clear hW
  have b0 := b0.size hz
  have HZ := Lib.hid hz
  clear hz
  refine (fold_any _ 2 2 _ [65535, 1] _ (Row.builtAt .u16 HZ.out 24 [65535, 1] (by decide)) rfl (by omega)).mono ?_
  rintro e w1 ⟨rfl, rfl⟩
  have b1 := b0.allocS (.cells #[.int .u16 65535, .int .u16 1] 24)
  have l1 := l0.alloc l0.size (.cells #[.int .u16 65535, .int .u16 1] 24)
  clear b0 l0
  go_wp2_with fail
  refine (fold_any _ 0 0 0 [] _ (Row.nil _ _ _ _) rfl (by omega)).mono ?_
  rintro e w1 ⟨rfl, rfl⟩
  go_wp2_with fail
  refine (sum_any _ 8 8 _ rfl (by omega) _ b1).mono ?_
  rintro e w2 ⟨rfl, m2⟩
  have b2 := b1.step m2
  have l2 := l1.trans (m2.mono l1.size)
  clear b1 l1 m2
  go_wp2_with fail
  refine (check_any _ 8 8 _ rfl (by omega) _ b2).mono ?_
  rintro e w3 ⟨rfl, m3⟩
  have b3 := b2.step m3
  have l3 := l2.trans (m3.mono l2.size)
  clear b2 l2 m3
  go_wp2_with fail
  refine (right_any _ 8 8 _ rfl (by omega) _ b3).mono ?_
  rintro e w4 ⟨rfl, m4⟩
  have l4 := l3.trans (m4.mono l3.size)
  clear b3 l3 m4
  go_wp2_with fail
  refine (right_any _ 4 4 _ rfl (by omega) _ ((Row.built .u8 w4 5 [18, 52, 237, 203] (by decide)).size (by simp))).mono ?_
  rintro e w5 ⟨rfl, m5⟩
  have l5 := (l4.alloc l4.size _).trans (m5.mono (by have := l4.size; simp; omega))
  clear l4 m5
  go_wp2_with fail
  refine (words_any _ 3 3 _ rfl (by omega) _ ((Row.built .u8 w5 5 [1, 2, 3] (by decide)).size (by simp))).mono ?_
  rintro e w6 ⟨a6, c6, rfl, r6, m6⟩
  have l6 := (l5.alloc l5.size _).trans (m6.mono (by have := l5.size; simp; omega))
  clear l5 m6
  rw [F7.out] at r6 ⊢
  go_wp2_with fail
  refine (same_any _ _ 2 _ _ _ [258, 768] _ (r6.allocS _) ((Row.built .u16 w6 24 [258, 768] (by decide)).size (by simp)) rfl (by omega)).mono ?_
  rintro e w7 ⟨rfl, n7, rfl⟩
  have l7 := below_dr (l6.alloc l6.size (.cells #[.int .u16 258, .int .u16 768] 24)) n7
  clear l6
  go_wp2_with fail
  refine (change_any 8717 61955 61956 _ (by omega) (by omega) (by omega)).mono ?_
  rintro e w8 ⟨rfl, m8⟩
  have l8 := l7.trans (m8.mono l7.size)
  clear l7 m8
  go_wp2
  go_ret
  exact ⟨rfl, l8⟩
end Go.Proofs.Ytkimbpbpopkijaa
