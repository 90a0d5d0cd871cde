/- The document's own answers on segments: two, Pseudo, right. -/
import Derived.Test.YtclofmgnnohhpaaTcpA
import Derived.Test.YtclofmgnnohhpaaTcpP
import Derived.Test.YtclofmgnnohhpaaRef
namespace Go.Proofs.Ytclofmgnnohhpaa
open Go.RowKit
open SumM

set_option maxRecDepth 100000 in
set_option maxHeartbeats 1000000 in
theorem rtwo_any (n : Int) (w : World) :
    Calls Try.prog 29 #[.int .i64 n] w fun e w' => e = .returned (.slice (some ⟨w.heap.size, 0, none⟩) 2 2) ∧ w' = w.alloc (.cells #[.int .u8 (n / 256 % 256), .int .u8 (n % 256)] 5) := by
  go_enter Try.func29, Try.ntmps29
  go_wp2
  go_ret
  exact ⟨rfl, rfl⟩

/-- Two bytes in memory of the call's own. -/
theorem rtwo_own (n : Int) (w : World) :
    Calls Try.prog 29 #[.int .i64 n] w fun e w' => ∃ g, e = .returned (.slice (some ⟨g, 0, none⟩) 2 2) ∧ w'.ownsRow w.heap.size 5 1 (.slice (some ⟨g, 0, none⟩) 2 2) 2 ([n / 256 % 256, n % 256].map (Value.int .u8)) ∧ Below w.heap.size w w' := by
  refine (rtwo_any n w).mono ?_
  rintro e w' ⟨rfl, rfl⟩
  exact ⟨_, rfl, own_built w w.heap.size (Nat.le_refl _) 5 ([n / 256 % 256, n % 256].map (Value.int .u8)) 2 rfl (by unfold maxLen; omega), (Below.refl _ _).alloc (Nat.le_refl _) _⟩
theorem two_wf (n : Int) : ∀ x ∈ [n / 256 % 256, n % 256], (Lit.int .u8 x).wf = true := in_two (by omega) (by omega)

set_option maxRecDepth 100000 in
set_option maxHeartbeats 4000000 in
theorem rpseudo_any (s d n : Int) (hs : 0 ≤ s ∧ s ≤ 4294967295) (hd : 0 ≤ d ∧ d ≤ 4294967295) (w : World) :
    Calls Try.prog 15 #[.int .u32 s, .int .u32 d, .int .i64 n] w fun e w' => ∃ A c, e = .returned (.slice A 12 c) ∧ w'.ownsRow w.heap.size 5 1 (.slice A 12 c) 12 ((psOf s d n).map (Value.int .u8)) ∧ Below w.heap.size w w' := by
  obtain ⟨i0, hi, hz0, hz1, hz2⟩ := info_parts Try.infoU8
  have E : Hid (((([s / 65536 / 256 % 256, s / 65536 % 256] ++ [s / 256 % 256, s % 256] ++ [d / 65536 / 256 % 256, d / 65536 % 256]) ++ [d / 256 % 256, d % 256]) ++ [0, 6]) ++ [n / 256 % 256, n % 256] = psOf s d n) := Lib.hid <| by
    have e1 : s / 65536 / 256 % 256 = s / 16777216 := by omega
    have e2 : d / 65536 / 256 % 256 = d / 16777216 := by omega
    simp [psOf, e1, e2]
  go_enter Try.func15, Try.ntmps15
  go_wp2_with fail
  refine (rtwo_own _ _).mono ?_
  rintro e w1 ⟨g1, rfl, O1, L1⟩
  go_wp2_with fail
  refine (rtwo_own _ _).mono ?_
  rintro e w2 ⟨g2, rfl, O2, m2⟩
  have L2 := L1.trans (m2.mono L1.size)
  have O1 := own_below O1 m2
  go_wp2_with (at_builtin; refine wpList_append_row _ rfl (.tmp 11) (.tmp 14) 23 rfl w.heap.size 5 i0 (.int .u8 0) 1 Try.underlying23 hi hz0 hz1 hz2 rfl _ 2 _ rfl O1 .u8 w2.heap.size _ 2 2 _ rfl rfl (Row.of_own O2 (two_wf _)) (fun h => by cases h) (by unfold maxLen; omega) (by omega) L2.size ?_; intro v3 w3 O3 g3; rw [← List.map_append] at O3; have L3 := L2.grown g3 L2.size (fun k e => (O1.lt k e).1))
  refine (rtwo_own _ _).mono ?_
  rintro e w4 ⟨g4, rfl, O4, m4⟩
  have L4 := L3.trans (m4.mono L3.size)
  have O3 := own_below O3 m4
  clear O1 O2 g3 L1 L2 L3 m2 m4
  go_wp2_with (at_builtin; refine wpList_append_row _ rfl (.tmp 16) (.tmp 20) 23 rfl w.heap.size 5 i0 (.int .u8 0) 1 Try.underlying23 hi hz0 hz1 hz2 rfl _ 4 _ rfl O3 .u8 w4.heap.size _ 2 2 _ rfl rfl (Row.of_own O4 (two_wf _)) (fun h => by cases h) (by unfold maxLen; omega) (by omega) L4.size ?_; intro v5 w5 O5 g5; rw [← List.map_append] at O5; have L5 := L4.grown g5 L4.size (fun k e => (O3.lt k e).1))
  refine (rtwo_own _ _).mono ?_
  rintro e w6 ⟨g6, rfl, O6, m6⟩
  have L6 := L5.trans (m6.mono L5.size)
  have O5 := own_below O5 m6
  clear O3 O4 g5 L4 L5 m6
  go_wp2_with (first
    | (at_builtin; refine wpList_append_row _ rfl (.tmp 21) (.tmp 24) 23 rfl w.heap.size 5 i0 (.int .u8 0) 1 Try.underlying23 hi hz0 hz1 hz2 rfl _ 6 _ rfl O5 .u8 w6.heap.size _ 2 2 _ rfl rfl (Row.of_own O6 (two_wf _)) (fun h => by cases h) (by unfold maxLen; omega) (by omega) L6.size ?_; intro v7 w7 O7 g7; rw [← List.map_append] at O7; have L7 := L6.grown g7 L6.size (fun k e => (O5.lt k e).1); have R8 := Row.builtAt .u8 (w := w7) rfl 5 [0, 6] (in_two ⟨by decide, by decide⟩ ⟨by decide, by decide⟩); have O8 := O7.alloc (.cells #[.int .u8 0, .int .u8 6] 5); have L8 := L7.alloc L7.size (.cells #[.int .u8 0, .int .u8 6] 5))
    | (at_builtin; refine wpList_append_row _ rfl (.tmp 26) (.tmp 27) 23 rfl w.heap.size 5 i0 (.int .u8 0) 1 Try.underlying23 hi hz0 hz1 hz2 rfl _ 8 _ rfl O8 .u8 _ _ 2 2 [0, 6] rfl rfl R8 (fun h => by cases h) (by unfold maxLen; omega) (by omega) L8.size ?_; intro v9 w9 O9 g9; rw [← List.map_append] at O9; have L9 := L8.grown g9 L8.size (fun k e => (O8.lt k e).1)))
  refine (rtwo_own _ _).mono ?_
  rintro e w10 ⟨g10, rfl, O10, m10⟩
  have L10 := L9.trans (m10.mono L9.size)
  have O9 := own_below O9 m10
  clear O5 O6 O7 O8 g7 g9 L6 L7 L8 L9 m10 R8
  go_wp2_with (at_builtin; refine wpList_append_row _ rfl (.tmp 28) (.tmp 30) 23 rfl w.heap.size 5 i0 (.int .u8 0) 1 Try.underlying23 hi hz0 hz1 hz2 rfl _ 10 _ rfl O9 .u8 w10.heap.size _ 2 2 _ rfl rfl (Row.of_own O10 (two_wf _)) (fun h => by cases h) (by unfold maxLen; omega) (by omega) L10.size ?_; intro v11 w11 O11 g11; rw [← List.map_append, E.out] at O11; have L11 := L10.grown g11 L10.size (fun k e => (O9.lt k e).1); obtain ⟨A11, c11, rfl⟩ := own_slice O11)
  go_ret
  exact ⟨_, _, rfl, O11, L11⟩

set_option maxRecDepth 100000 in
set_option maxHeartbeats 1000000 in
theorem rtright_any (s d : Int) (hs : 0 ≤ s ∧ s ≤ 4294967295) (hd : 0 ≤ d ∧ d ≤ 4294967295) (A : Option Addr) (m c : Nat) (zs : List Int) (hl : zs.length = m) (hle : m ≤ 1000000) (w : World) (hr : Row .u8 w.heap.size w A zs) (hnil : A = none → c = 0) :
    Calls Try.prog 23 #[.int .u32 s, .int .u32 d, .slice A m c] w fun e w' => e = .returned (.bool (tsum s d zs == 65535)) ∧ Below w.heap.size w w' := by
  obtain ⟨i0, hi, hz0, hz1, hz2⟩ := info_parts Try.infoU8
  have HL := Lib.hid hl
  have HN := Lib.hid hnil
  have HR := Lib.hid (fun W (h : Below w.heap.size w W) => (hr.below h).more h.size)
  have HW := Lib.hid (in_wf8 (psOf_in hs hd (m : Int)))
  have HI := Lib.hid hr.1
  have HT := Lib.hid (show tsum s d zs = sumOf (psOf s d m ++ zs) by unfold tsum; rw [hl])
  have HP := Lib.hid (show (psOf s d m ++ zs).length = 12 + m by rw [List.length_append, psOf_length, hl])
  clear hl hnil hr
  go_enter Try.func23, Try.ntmps23
  go_wp2_with (first
    | (go_at_call 15; refine (rpseudo_any s d m hs hd w).mono ?_; rintro e w1 ⟨A1, c1, rfl, O1, L1⟩)
    | (at_builtin; refine wpList_append_row _ rfl (.tmp 11) (.tmp 12) 23 rfl w.heap.size 5 i0 (.int .u8 0) 1 Try.underlying23 hi hz0 hz1 hz2 rfl _ 12 _ rfl O1 .u8 _ A m c zs rfl HL.out (HR.out _ L1) HN.out (by unfold maxLen; omega) (by omega) L1.size ?_; intro v2 w2 O2 g2; rw [← List.map_append] at O2; have L2 := L1.grown g2 L1.size (fun k e => (O1.lt k e).1); obtain ⟨A2, c2, rfl⟩ := own_slice O2)
    | (go_at_call 17; refine (rright_any A2 (12 + m) c2 (psOf s d m ++ zs) HP.out (by omega) w2 (Row.of_own O2 (fun x hx => (List.mem_append.1 hx).elim (HW.out x) (HI.out x)))).mono ?_; rintro e w3 ⟨rfl, m3⟩))
  go_ret
  exact ⟨ret_bool (by rw [HT.out]), L2.trans (m3.mono L2.size)⟩
end Go.Proofs.Ytclofmgnnohhpaa
