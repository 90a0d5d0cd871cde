/- 'handfastlaw03.wakes' returns true, in whatever memory. -/
import Derived.Test.YtclofmgnnohhpaaTcpMath
import Derived.Test.YtclofmgnnohhpaaTcpS
import Derived.Test.YtclofmgnnohhpaaTcpU
import Derived.Test.YtclofmgnnohhpaaTcpV
namespace Go.Proofs.Ytclofmgnnohhpaa
open Go.RowKit
open SumM

/-- Bytes that were put, parsed. -/
theorem tparse_put (s d sp dp tf hd : Int) (ps : List Int) (hs : 0 ≤ s ∧ s ≤ 4294967295) (hd' : 0 ≤ d ∧ d ≤ 4294967295) (H : TNums sp dp tf) (hm : mayB hd ps.length = true) (hp : In 255 ps) (A : Option Addr) (len cap : Nat) (hlen : len = hd.toNat + ps.length) (hlc : len ≤ cap) (hc : cap ≤ 9223372036854775807) (w : World)
    (hR : Row .u8 w.heap.size w A (tput s d sp dp tf hd ps)) :
    Calls Try.prog 8 #[.int .u32 s, .int .u32 d, .slice A len cap] w fun e w' => ∃ A c, e = .returned (.tuple #[.agg #[.int .u16 sp, .int .u16 dp, .int .u8 tf, .int .i64 hd, .slice A ps.length c], .int .u8 0]) ∧
      w'.ownsRow w.heap.size 5 1 (.slice A ps.length c) ps.length (ps.map (Value.int .u8)) ∧ Below w.heap.size w w' := by
  refine (tcpParse_any s d hs hd' A len cap _ (by rw [tput_length, hlen]) hlc hc w hR).mono ?_
  have hy := twhy_put (sp := sp) (dp := dp) (tf := tf) (hd := hd) hs hd' H hm hp
  obtain ⟨q1, q2, q3, q4, q5⟩ := tput_seg (s := s) (d := d) H hm
  rintro e w' (⟨h, _⟩ | ⟨_, A, c, rfl, h1, h2⟩)
  · exact absurd hy h
  · rw [q1, q2, q3, q4, q5]
    rw [q4, q5] at h1
    exact ⟨A, c, rfl, h1, h2⟩
/-- Bytes that are none. -/
theorem tparse_no (s d : Int) (hs : 0 ≤ s ∧ s ≤ 4294967295) (hd' : 0 ≤ d ∧ d ≤ 4294967295) (bs : List Int) (A : Option Addr) (len cap : Nat) (hlen : bs.length = len) (hlc : len ≤ cap) (hc : cap ≤ 9223372036854775807) (w : World) (hR : Row .u8 w.heap.size w A bs) (y : Int) (hy : twhy s d bs = y) (h0 : y ≠ 0) :
    Calls Try.prog 8 #[.int .u32 s, .int .u32 d, .slice A len cap] w fun e w' => e = .returned (.tuple #[.agg #[.int .u16 0, .int .u16 0, .int .u8 0, .int .i64 0, .slice none 0 0], .int .u8 y]) ∧ Below w.heap.size w w' := by
  subst hy
  refine (tcpParse_any s d hs hd' A len cap bs hlen hlc hc w hR).mono ?_
  rintro e w' (⟨_, h⟩ | ⟨h, _⟩)
  · exact h
  · exact absurd h h0

/-- The document's example. -/
def exL : List Int := [3, 232, 0, 80, 0, 0, 0, 0, 0, 0, 0, 0, 80, 2, 0, 0, 171, 168, 0, 0]
theorem ex_nums : TNums 1000 80 2 := ⟨by decide, by decide, by decide⟩
theorem ex_put (w : World) : Calls Try.prog 10 #[.int .u32 1, .int .u32 2, .agg #[.int .u16 1000, .int .u16 80, .int .u8 2, .int .i64 20, .slice none 0 0]] w (TPutN 20 exL w) := by
  have := tcpPut_yes 1 2 1000 80 2 20 none 0 0 [] (by decide) (by decide) ex_nums (by decide) w (Row.nil _ _ _ _) rfl (fun _ => rfl)
  rwa [show tput 1 2 1000 80 2 20 [] = exL by decide +kernel] at this
theorem ex_no (w : World) : Calls Try.prog 10 #[.int .u32 1, .int .u32 2, .agg #[.int .u16 0, .int .u16 0, .int .u8 0, .int .i64 22, .slice none 0 0]] w fun e w' => e = .returned (.tuple #[.slice none 0 0, .bool false]) ∧ Below w.heap.size w w' :=
  tcpPut_no 1 2 0 0 0 22 none 0 0 (by decide) (by decide) (by decide) w
theorem ex_parse (A : Option Addr) (c : Nat) (hc : 20 ≤ c ∧ c ≤ 9223372036854775807) (w : World) (hR : Row .u8 w.heap.size w A exL) :
    Calls Try.prog 8 #[.int .u32 1, .int .u32 2, .slice A 20 c] w fun e w' => ∃ A c, e = .returned (.tuple #[.agg #[.int .u16 1000, .int .u16 80, .int .u8 2, .int .i64 20, .slice A 0 c], .int .u8 0]) ∧
      w'.ownsRow w.heap.size 5 1 (.slice A 0 c) 0 [] ∧ Below w.heap.size w w' :=
  tparse_put 1 2 1000 80 2 20 [] (by decide) (by decide) ex_nums (by decide) (by unfold In; decide) A 20 c rfl hc.1 hc.2 w (by rwa [show tput 1 2 1000 80 2 20 [] = exL by decide +kernel])
theorem ex_other (A : Option Addr) (c : Nat) (hc : 20 ≤ c ∧ c ≤ 9223372036854775807) (w : World) (hR : Row .u8 w.heap.size w A exL) :
    Calls Try.prog 8 #[.int .u32 1, .int .u32 3, .slice A 20 c] w fun e w' => e = .returned (.tuple #[.agg #[.int .u16 0, .int .u16 0, .int .u8 0, .int .i64 0, .slice none 0 0], .int .u8 9]) ∧ Below w.heap.size w w' :=
  tparse_no 1 3 (by decide) (by decide) exL A 20 c rfl hc.1 hc.2 w hR 9 (by decide +kernel) (by decide)
theorem ex_none (w : World) :
    Calls Try.prog 8 #[.int .u32 1, .int .u32 2, .slice none 0 0] w fun e w' => e = .returned (.tuple #[.agg #[.int .u16 0, .int .u16 0, .int .u8 0, .int .i64 0, .slice none 0 0], .int .u8 8]) ∧ Below w.heap.size w w' :=
  tparse_no 1 2 (by decide) (by decide) [] none 0 0 rfl (by decide) (by decide) w (Row.nil _ _ _ _) 8 (by decide +kernel) (by decide)

set_option maxRecDepth 100000 in
set_option maxHeartbeats 4000000 in
theorem twakes_any (w : World) : Calls Try.prog 7 #[] w fun e w' => e = .returned (.bool true) ∧ Below w.heap.size w w' := by
  go_enter Try.func7, Try.ntmps7
  go_wp2_with fail
  refine (ex_put w).mono ?_
  rintro e w1 ⟨A1, c1, rfl, O1, L1⟩
  obtain ⟨g1, rfl, hg1, hlt1⟩ := own_addr O1 (by decide)
  have R1 := Row.of_own O1 (by decide)
  have C1 := own_cap O1
  go_wp2_with fail
  refine (ex_parse _ c1 C1 w1 R1).mono ?_
  rintro e w2 ⟨A2, c2, rfl, O2, m2⟩
  have L2 := L1.trans (m2.mono L1.size)
  have R2 := R1.step m2
  have B2 := heap_alloc_new w2 (.cells #[.int .u16 1000, .int .u16 80, .int .u8 2, .int .i64 20, .slice A2 0 c2] 26)
  have L3 := L2.alloc L2.size (.cells #[.int .u16 1000, .int .u16 80, .int .u8 2, .int .i64 20, .slice A2 0 c2] 26)
  have R3 := R2.allocS (.cells #[.int .u16 1000, .int .u16 80, .int .u8 2, .int .i64 20, .slice A2 0 c2] 26)
  have hz3 : (w2.alloc (.cells #[.int .u16 1000, .int .u16 80, .int .u8 2, .int .i64 20, .slice A2 0 c2] 26)).heap.size = w2.heap.size + 1 := by simp
  have O3 := own_below (own_below O1 m2) ((Below.refl w2.heap.size w2).alloc (Nat.le_refl _) (.cells #[.int .u16 1000, .int .u16 80, .int .u8 2, .int .i64 20, .slice A2 0 c2] 26))
  clear O1 O2 m2 L1 L2 R1 R2
  go_wp2_with fail
  generalize w2.alloc (.cells #[.int .u16 1000, .int .u16 80, .int .u8 2, .int .i64 20, .slice A2 0 c2] 26) = w3 at *
  refine (ex_other _ c1 C1 w3 R3).mono ?_
  rintro e w4 ⟨rfl, m4⟩
  have n5 := m4.alloc m4.size (.cells #[.int .u16 0, .int .u16 0, .int .u8 0, .int .i64 0, .slice none 0 0] 26)
  go_wp2_with fail
  generalize w4.alloc (.cells #[.int .u16 0, .int .u16 0, .int .u8 0, .int .i64 0, .slice none 0 0] 26) = w5 at *
  refine (ex_none w5).mono ?_
  rintro e w6 ⟨rfl, m6⟩
  have n6 := n5.trans (m6.mono n5.size)
  have n7 := n6.alloc n6.size (.cells #[.int .u16 0, .int .u16 0, .int .u8 0, .int .i64 0, .slice none 0 0] 26)
  clear m4 m6 n5 n6
  go_wp2_with fail
  generalize w6.alloc (.cells #[.int .u16 0, .int .u16 0, .int .u8 0, .int .i64 0, .slice none 0 0] 26) = w7 at *
  refine (ex_no w7).mono ?_
  rintro e w8 ⟨rfl, m8⟩
  have n8 := n7.trans (m8.mono n7.size)
  have B8 := (n8.block _ (by omega)).trans B2
  have O8 := own_below O3 n8
  have L8 := L3.trans (n8.mono L3.size)
  clear m8 n7 n8 O3 B2 L3 R3
  obtain ⟨q0, q1, q2, q3, q4⟩ := tcp_cells _ _ _ _ _ _ _ B8
  have r12 := own_cell O8 12 (by decide)
  have r13 := own_cell O8 13 (by decide)
  rw [show exL[12]?.getD 0 = 80 from rfl] at r12
  rw [show exL[13]?.getD 0 = 2 from rfl] at r13
  have n9 := psW_below 16909060 84281096 300 w8
  have R9 : Row .u8 (psW 16909060 84281096 300 w8).heap.size (psW 16909060 84281096 300 w8) (some ⟨w8.heap.size, 0, none⟩) (psOf 16909060 84281096 300) := by
    rw [psW_size]
    exact Row.built .u8 w8 50 (psOf 16909060 84281096 300) (by decide)
  have L9 := L8.trans (n9.mono L8.size)
  have B9 := (n9.block _ (Array.getElem?_eq_some_iff.1 B8).1).trans B8
  have R10 := Row.built .u8 (psW 16909060 84281096 300 w8) 5 [1, 2, 3, 4, 5, 6, 7, 8, 0, 6, 1, 44] (by decide)
  have hq : eqB (psOf 16909060 84281096 300) [1, 2, 3, 4, 5, 6, 7, 8, 0, 6, 1, 44] = true := by decide
  have s1 : tsameB 1000 80 2 20 [] 1000 80 2 20 [] = true := by decide
  have s2 : tsameB 1000 80 2 20 [] 0 0 0 0 [] = false := by decide
  go_wp2_with (go_at_call 14; refine (pseudo_any 16909060 84281096 300 (by decide) (by decide) w8).mono ?_; rintro e w9 ⟨rfl, rfl⟩)
  generalize psW 16909060 84281096 300 w8 = w9 at *
  clear q0 q1 q2 q3 q4 r12 r13 B8 O8 L8 n9
  have R11 := R9.allocS (.cells #[.int .u8 1, .int .u8 2, .int .u8 3, .int .u8 4, .int .u8 5, .int .u8 6, .int .u8 7, .int .u8 8, .int .u8 0, .int .u8 6, .int .u8 1, .int .u8 44] 5)
  have L11 := L9.alloc L9.size (.cells #[.int .u8 1, .int .u8 2, .int .u8 3, .int .u8 4, .int .u8 5, .int .u8 6, .int .u8 7, .int .u8 8, .int .u8 0, .int .u8 6, .int .u8 1, .int .u8 44] 5)
  have B11 := (Below.heap_alloc w9 (.cells #[.int .u8 1, .int .u8 2, .int .u8 3, .int .u8 4, .int .u8 5, .int .u8 6, .int .u8 7, .int .u8 8, .int .u8 0, .int .u8 6, .int .u8 1, .int .u8 44] 5) _ (Array.getElem?_eq_some_iff.1 B9).1).trans B9
  have R12 : Row .u8 (w9.alloc (.cells #[.int .u8 1, .int .u8 2, .int .u8 3, .int .u8 4, .int .u8 5, .int .u8 6, .int .u8 7, .int .u8 8, .int .u8 0, .int .u8 6, .int .u8 1, .int .u8 44] 5)).heap.size (w9.alloc (.cells #[.int .u8 1, .int .u8 2, .int .u8 3, .int .u8 4, .int .u8 5, .int .u8 6, .int .u8 7, .int .u8 8, .int .u8 0, .int .u8 6, .int .u8 1, .int .u8 44] 5)) (some ⟨w9.heap.size, 0, none⟩) [1, 2, 3, 4, 5, 6, 7, 8, 0, 6, 1, 44] := by
    rw [World.size_alloc]
    exact R10
  clear R10 R9 L9 B9
  generalize w9.alloc (.cells #[.int .u8 1, .int .u8 2, .int .u8 3, .int .u8 4, .int .u8 5, .int .u8 6, .int .u8 7, .int .u8 8, .int .u8 0, .int .u8 6, .int .u8 1, .int .u8 44] 5) = w10 at *
  obtain ⟨q0, q1, q2, q3, q4⟩ := tcp_cells _ _ _ _ _ _ _ B11
  refine (lawSame_any _ 12 12 _ _ 12 12 _ _ _ w10 R11 rfl R12 rfl).mono ?_
  rintro e w11 ⟨he, rfl⟩
  rw [hq] at he
  subst he
  go_wp2_with fail
  refine (tcpSame_any 1000 80 2 20 A2 0 c2 1000 80 2 20 A2 0 c2 [] [] w10.heap.size w10.heap.size w10 (Nat.le_refl _) (Nat.le_refl _) (Row.nil _ _ _ _) rfl (Row.nil _ _ _ _) rfl).mono ?_
  rintro e w12 ⟨he, m12⟩
  rw [s1] at he
  subst he
  have B12 := (m12.block _ (Array.getElem?_eq_some_iff.1 B11).1).trans B11
  have L12 := L11.trans (m12.mono L11.size)
  clear q0 q1 q2 q3 q4 B11 L11
  obtain ⟨q0, q1, q2, q3, q4⟩ := tcp_cells _ _ _ _ _ _ _ B12
  go_wp2_with fail
  refine (tcpSame_any 1000 80 2 20 A2 0 c2 0 0 0 0 none 0 0 [] [] w12.heap.size w12.heap.size w12 (Nat.le_refl _) (Nat.le_refl _) (Row.nil _ _ _ _) rfl (Row.nil _ _ _ _) rfl).mono ?_
  rintro e w13 ⟨he, m13⟩
  rw [s2] at he
  subst he
  go_wp2
  go_ret
  exact ⟨rfl, L12.trans (m13.mono L12.size)⟩
end Go.Proofs.Ytclofmgnnohhpaa
