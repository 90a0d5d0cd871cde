/- 'handfastlaw01.SumTells' returns true at every input, and leaves what lay as it lay. -/
import Derived.Test.YtkimbpbpopkijaaWakes
import Derived.Test.YtkimbpbpopkijaaOpen
namespace Go.Proofs.Ytkimbpbpopkijaa
open Go.RowKit
open SumM

set_option maxRecDepth 100000 in
set_option maxHeartbeats 1000000 in
theorem sumTells_walk (a0 : Option Addr) (len0 cap0 : Nat) (z0 : List Int) (a1 : Option Addr) (len1 cap1 : Nat) (z1 : List Int) (c o n : Int) (w : World) (w0 : IsRow .u8 w a0 len0 cap0 z0) (w1 : IsRow .u16 w a1 len1 cap1 z1)
    (w2 : (Lit.int .u16 c).wf = true) (w3 : (Lit.int .u16 o).wf = true) (w4 : (Lit.int .u16 n).wf = true) :
    Calls Try.prog 3 #[.slice a0 len0 cap0, .slice a1 len1 cap1, .int .u16 c, .int .u16 o, .int .u16 n] w fun e w' => e = .returned (.bool true) ∧ Below w.heap.size w w' := by
  obtain ⟨hr, hl, _, hlc, hm⟩ := w0.row
  obtain ⟨hs, hk, _, hlc1, hm1⟩ := w1.row
  have hc := wf_u16.1 w2
  have ho := wf_u16.1 w3
  have hn := wf_u16.1 w4
  clear w0 w1 w2 w3 w4
  generalize z0.take len0 = bs at *
  generalize z1.take len1 = ls at *
  have HL := Lib.hid hl
  have HK := Lib.hid hk
  clear hl hk
  unfold maxLen at hm hm1
  by_cases hbig : 3000 < len0
  · go_enter Try.func3, Try.ntmps3
    go_wp2_with (go_at_call 8; refine (wakes_any _).mono ?_; rintro e w1 ⟨rfl, hb1⟩)
    go_ret
    exact ⟨rfl, hb1⟩
  by_cases hbig1 : 2000 < len1
  · go_enter Try.func3, Try.ntmps3
    go_wp2_with (go_at_call 8; refine (wakes_any _).mono ?_; rintro e w1 ⟨rfl, hb1⟩)
    go_ret
    exact ⟨rfl, hb1⟩
  have hwl : (words bs).length ≤ 4000000 := by rw [words_length, HL.out]; omega
  have q1 : (cr (tot ls) == cr (tot ls)) = true := by simp
  have q2 : (sumOf bs == sumOf bs) = true := by simp
  have q3 : (65535 - sumOf bs == 65535 - sumOf bs) = true := by simp
  have q4 : ((sumOf bs == 65535) == (sumOf bs == 65535)) = true := by simp
  have q5 : (65535 - cr ((65535 - c) + (65535 - o) + n) == 65535 - cr ((65535 - c) + (65535 - o) + n)) = true := by simp
  go_enter Try.func3, Try.ntmps3
  go_wp2_with fail
  refine (words_any _ _ _ bs HL.out (by omega) _ hr).mono ?_
  rintro e w1 ⟨b1, c1, rfl, r1, L⟩
  go_wp2_with fail
  refine (rwords_any _ _ _ bs HL.out (by omega) _ (hr.step L)).mono ?_
  rintro e w2 ⟨b2, c2, rfl, r2, m⟩
  have L := L.trans (m.mono L.size)
  go_wp2_with fail
  refine (same_any _ _ _ _ _ _ (words bs) _ (r1.step m) r2 rfl hwl).mono ?_
  rintro e w3 ⟨rfl, n3, rfl⟩
  have L := below_dr L n3
  clear r1 r2 m
  generalize w2.drewN n3 = W at *
  go_wp2_with fail
  refine (fold_any _ _ _ _ ls _ (hs.below L) HK.out (by omega)).mono ?_
  rintro e w3 ⟨rfl, rfl⟩
  go_wp2_with fail
  refine (rfold_any _ _ _ _ ls _ (hs.below L) HK.out (by omega)).mono ?_
  rintro e w3 ⟨rfl, rfl⟩
  go_wp2_with fail
  refine (sum_any _ _ _ bs HL.out (by omega) _ (hr.step L)).mono ?_
  rintro e w3 ⟨rfl, m⟩
  have L := L.trans (m.mono L.size)
  clear m
  go_wp2_with fail
  refine (rsum_any _ _ _ bs HL.out (by omega) _ (hr.step L)).mono ?_
  rintro e w4 ⟨rfl, m⟩
  have L := L.trans (m.mono L.size)
  clear m
  go_wp2_with fail
  refine (check_any _ _ _ bs HL.out (by omega) _ (hr.step L)).mono ?_
  rintro e w5 ⟨rfl, m⟩
  have L := L.trans (m.mono L.size)
  clear m
  go_wp2_with fail
  refine (rcheck_any _ _ _ bs HL.out (by omega) _ (hr.step L)).mono ?_
  rintro e w6 ⟨rfl, m⟩
  have L := L.trans (m.mono L.size)
  clear m
  go_wp2_with fail
  refine (right_any _ _ _ bs HL.out (by omega) _ (hr.step L)).mono ?_
  rintro e w7 ⟨rfl, m⟩
  have L := L.trans (m.mono L.size)
  clear m
  go_wp2_with fail
  refine (rright_any _ _ _ bs HL.out (by omega) _ (hr.step L)).mono ?_
  rintro e w8 ⟨rfl, m⟩
  have L := L.trans (m.mono L.size)
  clear m
  go_wp2_with fail
  refine (change_any c o n _ hc ho hn).mono ?_
  rintro e w9 ⟨rfl, m⟩
  have L := L.trans (m.mono L.size)
  clear m
  go_wp2_with fail
  refine (rchange_any c o n _ hc ho hn).mono ?_
  rintro e w10 ⟨rfl, m⟩
  have L := L.trans (m.mono L.size)
  clear m
  go_wp2_with fail
  refine (wakes_any _).mono ?_
  rintro e w11 ⟨rfl, m⟩
  have L := L.trans (m.mono L.size)
  clear m
  go_wp2
  go_ret
  exact ⟨rfl, L⟩
end Go.Proofs.Ytkimbpbpopkijaa
