/- TcpRef: The document's own answers on segments: two, Pseudo, right. The document's own Put of segments. The document's own Parse of segments. Whether two TCP heads are the same: package tcp's answer and the document's; whether bytes are the same, as the law asks. 'handfastlaw03.wakes' returns true, in whatever memory. A TCP head that came in, opened. Put and Parse of segments, ours and the document's, in one form: what they answer, whatever came in. -/
import Derived.Test.YtnncmcfonkhckaaDoorTcpCore
import Derived.Test.YtnncmcfonkhckaaDoorCore
import Derived.BigRegion
import Derived.Deep.DeepCutAuto
import Derived.Test.YtnncmcfonkhckaaDoorTcpParse
import Derived.Deep.RegionLaw

/- The document's own answers on segments: two, Pseudo, right. -/
namespace Go.Proofs.YtnncmcfonkhckaaDoor
open Go.RowKit
open SumM

set_option maxRecDepth 100000 in
set_option maxHeartbeats 1000000 in
theorem rtwo_any (n : Int) (w : World) :
    Calls Tryd.prog 66 #[.int .i64 n] w fun e w' => e = .returned (.slice (some ⟨w.heap.size, 0, none⟩) 2 2) ∧ w' = w.alloc (.cells #[.int .u8 (n / 256 % 256), .int .u8 (n % 256)] 5) := by
  go_enter Tryd.func66, Tryd.ntmps66
  go_wp2
  go_ret
  exact ⟨rfl, rfl⟩

/-- Two bytes in memory of the call's own. -/
theorem rtwo_own (n : Int) (w : World) :
    Calls Tryd.prog 66 #[.int .i64 n] w fun e w' => ∃ g, e = .returned (.slice (some ⟨g, 0, none⟩) 2 2) ∧ w'.ownsRow w.heap.size 5 1 (.slice (some ⟨g, 0, none⟩) 2 2) 2 ([n / 256 % 256, n % 256].map (Value.int .u8)) ∧ Below w.heap.size w w' := by
  refine (rtwo_any n w).mono ?_
  rintro e w' ⟨rfl, rfl⟩
  exact ⟨_, rfl, own_built w w.heap.size (Nat.le_refl _) 5 ([n / 256 % 256, n % 256].map (Value.int .u8)) 2 rfl (by unfold maxLen; omega), (Below.refl _ _).alloc (Nat.le_refl _) _⟩
theorem two_wf (n : Int) : ∀ x ∈ [n / 256 % 256, n % 256], (Lit.int .u8 x).wf = true := in_two (by omega) (by omega)

set_option maxRecDepth 100000 in
set_option maxHeartbeats 4000000 in
theorem rpseudo_any (s d n : Int) (hs : 0 ≤ s ∧ s ≤ 4294967295) (hd : 0 ≤ d ∧ d ≤ 4294967295) (w : World) :
    Calls Tryd.prog 50 #[.int .u32 s, .int .u32 d, .int .i64 n] w fun e w' => ∃ A c, e = .returned (.slice A 12 c) ∧ w'.ownsRow w.heap.size 5 1 (.slice A 12 c) 12 ((psOf s d n).map (Value.int .u8)) ∧ Below w.heap.size w w' := by
  obtain ⟨i0, hi, hz0, hz1, hz2⟩ := info_parts Tryd.infoU8
  have E : Hid (((([s / 65536 / 256 % 256, s / 65536 % 256] ++ [s / 256 % 256, s % 256] ++ [d / 65536 / 256 % 256, d / 65536 % 256]) ++ [d / 256 % 256, d % 256]) ++ [0, 6]) ++ [n / 256 % 256, n % 256] = psOf s d n) := Lib.hid <| by
    have e1 : s / 65536 / 256 % 256 = s / 16777216 := by omega
    have e2 : d / 65536 / 256 % 256 = d / 16777216 := by omega
    simp [psOf, e1, e2]
  go_enter Tryd.func50, Tryd.ntmps50
  go_wp2_with fail
  refine (rtwo_own _ _).mono ?_
  rintro e w1 ⟨g1, rfl, O1, L1⟩
  go_wp2_with fail
  refine (rtwo_own _ _).mono ?_
  rintro e w2 ⟨g2, rfl, O2, m2⟩
  have L2 := L1.trans (m2.mono L1.size)
  have O1 := own_below O1 m2
  go_wp2_with (at_builtin; refine wpList_append_row _ rfl (.tmp 11) (.tmp 14) 22 rfl w.heap.size 5 i0 (.int .u8 0) 1 Tryd.underlying22 hi hz0 hz1 hz2 rfl _ 2 _ rfl O1 .u8 w2.heap.size _ 2 2 _ rfl rfl (Row.of_own O2 (two_wf _)) (fun h => by cases h) (by unfold maxLen; omega) (by omega) L2.size ?_; intro v3 w3 O3 g3; rw [← List.map_append] at O3; have L3 := L2.grown g3 L2.size (fun k e => (O1.lt k e).1))
  refine (rtwo_own _ _).mono ?_
  rintro e w4 ⟨g4, rfl, O4, m4⟩
  have L4 := L3.trans (m4.mono L3.size)
  have O3 := own_below O3 m4
  clear O1 O2 g3 L1 L2 L3 m2 m4
  go_wp2_with (at_builtin; refine wpList_append_row _ rfl (.tmp 16) (.tmp 20) 22 rfl w.heap.size 5 i0 (.int .u8 0) 1 Tryd.underlying22 hi hz0 hz1 hz2 rfl _ 4 _ rfl O3 .u8 w4.heap.size _ 2 2 _ rfl rfl (Row.of_own O4 (two_wf _)) (fun h => by cases h) (by unfold maxLen; omega) (by omega) L4.size ?_; intro v5 w5 O5 g5; rw [← List.map_append] at O5; have L5 := L4.grown g5 L4.size (fun k e => (O3.lt k e).1))
  refine (rtwo_own _ _).mono ?_
  rintro e w6 ⟨g6, rfl, O6, m6⟩
  have L6 := L5.trans (m6.mono L5.size)
  have O5 := own_below O5 m6
  clear O3 O4 g5 L4 L5 m6
  go_wp2_with (first
    | (at_builtin; refine wpList_append_row _ rfl (.tmp 21) (.tmp 24) 22 rfl w.heap.size 5 i0 (.int .u8 0) 1 Tryd.underlying22 hi hz0 hz1 hz2 rfl _ 6 _ rfl O5 .u8 w6.heap.size _ 2 2 _ rfl rfl (Row.of_own O6 (two_wf _)) (fun h => by cases h) (by unfold maxLen; omega) (by omega) L6.size ?_; intro v7 w7 O7 g7; rw [← List.map_append] at O7; have L7 := L6.grown g7 L6.size (fun k e => (O5.lt k e).1); have R8 := Row.builtAt .u8 (w := w7) rfl 5 [0, 6] (in_two ⟨by decide, by decide⟩ ⟨by decide, by decide⟩); have O8 := O7.alloc (.cells #[.int .u8 0, .int .u8 6] 5); have L8 := L7.alloc L7.size (.cells #[.int .u8 0, .int .u8 6] 5))
    | (at_builtin; refine wpList_append_row _ rfl (.tmp 26) (.tmp 27) 22 rfl w.heap.size 5 i0 (.int .u8 0) 1 Tryd.underlying22 hi hz0 hz1 hz2 rfl _ 8 _ rfl O8 .u8 _ _ 2 2 [0, 6] rfl rfl R8 (fun h => by cases h) (by unfold maxLen; omega) (by omega) L8.size ?_; intro v9 w9 O9 g9; rw [← List.map_append] at O9; have L9 := L8.grown g9 L8.size (fun k e => (O8.lt k e).1)))
  refine (rtwo_own _ _).mono ?_
  rintro e w10 ⟨g10, rfl, O10, m10⟩
  have L10 := L9.trans (m10.mono L9.size)
  have O9 := own_below O9 m10
  clear O5 O6 O7 O8 g7 g9 L6 L7 L8 L9 m10 R8
  go_wp2_with (at_builtin; refine wpList_append_row _ rfl (.tmp 28) (.tmp 30) 22 rfl w.heap.size 5 i0 (.int .u8 0) 1 Tryd.underlying22 hi hz0 hz1 hz2 rfl _ 10 _ rfl O9 .u8 w10.heap.size _ 2 2 _ rfl rfl (Row.of_own O10 (two_wf _)) (fun h => by cases h) (by unfold maxLen; omega) (by omega) L10.size ?_; intro v11 w11 O11 g11; rw [← List.map_append, E.out] at O11; have L11 := L10.grown g11 L10.size (fun k e => (O9.lt k e).1); obtain ⟨A11, c11, rfl⟩ := own_slice O11)
  go_ret
  exact ⟨_, _, rfl, O11, L11⟩

set_option maxRecDepth 100000 in
set_option maxHeartbeats 1000000 in
theorem rtright_any (s d : Int) (hs : 0 ≤ s ∧ s ≤ 4294967295) (hd : 0 ≤ d ∧ d ≤ 4294967295) (A : Option Addr) (m c : Nat) (zs : List Int) (hl : zs.length = m) (hle : m ≤ 1000000) (w : World) (hr : Row .u8 w.heap.size w A zs) (hnil : A = none → c = 0) :
    Calls Tryd.prog 32 #[.int .u32 s, .int .u32 d, .slice A m c] w fun e w' => e = .returned (.bool (tsum s d zs == 65535)) ∧ Below w.heap.size w w' := by
  obtain ⟨i0, hi, hz0, hz1, hz2⟩ := info_parts Tryd.infoU8
  have HL := Lib.hid hl
  have HN := Lib.hid hnil
  have HR := Lib.hid (fun W (h : Below w.heap.size w W) => (hr.below h).more h.size)
  have HW := Lib.hid (in_wf8 (psOf_in hs hd (m : Int)))
  have HI := Lib.hid hr.1
  have HT := Lib.hid (show tsum s d zs = sumOf (psOf s d m ++ zs) by unfold tsum; rw [hl])
  have HP := Lib.hid (show (psOf s d m ++ zs).length = 12 + m by rw [List.length_append, psOf_length, hl])
  clear hl hnil hr
  go_enter Tryd.func32, Tryd.ntmps32
  go_wp2_with (first
    | (go_at_call 50; refine (rpseudo_any s d m hs hd w).mono ?_; rintro e w1 ⟨A1, c1, rfl, O1, L1⟩)
    | (at_builtin; refine wpList_append_row _ rfl (.tmp 11) (.tmp 12) 22 rfl w.heap.size 5 i0 (.int .u8 0) 1 Tryd.underlying22 hi hz0 hz1 hz2 rfl _ 12 _ rfl O1 .u8 _ A m c zs rfl HL.out (HR.out _ L1) HN.out (by unfold maxLen; omega) (by omega) L1.size ?_; intro v2 w2 O2 g2; rw [← List.map_append] at O2; have L2 := L1.grown g2 L1.size (fun k e => (O1.lt k e).1); obtain ⟨A2, c2, rfl⟩ := own_slice O2)
    | (go_at_call 55; refine (rright_any A2 (12 + m) c2 (psOf s d m ++ zs) HP.out (by omega) w2 (Row.of_own O2 (fun x hx => (List.mem_append.1 hx).elim (HW.out x) (HI.out x)))).mono ?_; rintro e w3 ⟨rfl, m3⟩))
  go_ret
  exact ⟨ret_bool (by rw [HT.out]), L2.trans (m3.mono L2.size)⟩
end Go.Proofs.YtnncmcfonkhckaaDoor

/- The document's own Put of segments. -/
namespace Go.Proofs.YtnncmcfonkhckaaDoor
open Go.RowKit Go.Shelf
open SumM

theorem made_zero (n : Nat) : (madeCells (Value.int .u8 0).cells (n * 1)).toList = (List.replicate n (0 : Int)).map (Value.int .u8) := by
  apply List.ext_getElem
  · simp [size_madeCells]
  · intro k h1 h2
    simp [madeCells, Value.cells, Nat.mod_one]
theorem thead_eq {sp dp tf : Int} (H : TNums sp dp tf) (hN : Nat) :
    ((((((List.replicate hN (0 : Int)).set 0 (sp / 256)).set 1 (sp % 256)).set 2 (dp / 256)).set 3 (dp % 256)).set 12 ((hN : Int) / 4 * 16)).set 13 tf = thead sp dp tf hN := by
  obtain ⟨h1, h2, h3⟩ := H
  have e1 : ((hN : Int) / 4 * 4096 + tf) / 256 = (hN : Int) / 4 * 16 := by omega
  have e2 : ((hN : Int) / 4 * 4096 + tf) % 256 = tf := by omega
  simp [thead, tfill, tnums, e1, e2]

set_option maxRecDepth 100000 in
set_option maxHeartbeats 4000000 in
theorem refTcpPut_yes (s d : Int) (sp dp tf hd : Int) (da : Option Addr) (dn dc : Nat) (ps : List Int) (hs : 0 ≤ s ∧ s ≤ 4294967295) (hd' : 0 ≤ d ∧ d ≤ 4294967295) (H : TNums sp dp tf) (hm : mayB hd dn = true) (w : World)
    (hrp : Row .u8 w.heap.size w da ps) (hpl : ps.length = dn) (hpn : da = none → dc = 0) :
    Calls Tryd.prog 27 #[.int .u32 s, .int .u32 d, .agg #[.int .u16 sp, .int .u16 dp, .int .u8 tf, .int .i64 hd, .slice da dn dc]] w (TPutN (hd.toNat + dn) (tput s d sp dp tf hd ps) w) := by
  obtain ⟨i0, hi, hz0, hz1, hz2⟩ := info_parts Tryd.infoU8
  obtain ⟨m1, m2, m3, m4⟩ := mayB_le hm
  clear hm
  obtain ⟨hN, rfl⟩ : ∃ k : Nat, hd = (k : Int) := ⟨hd.toNat, by omega⟩
  rw [Int.toNat_natCast]
  have HH := Lib.hid H
  have HL := Lib.hid hpl
  have HP := Lib.hid hrp
  have HZ := Lib.hid hpn
  have HE := Lib.hid (thead_eq H hN)
  obtain ⟨k1, k2, k3⟩ := H
  clear hpl hrp hpn
  have bH := heap_alloc_new w (.cells #[.int .u16 sp, .int .u16 dp, .int .u8 tf, .int .i64 (hN : Int), .slice da dn dc] 46)
  have L0 : Below w.heap.size w (w.alloc (.cells #[.int .u16 sp, .int .u16 dp, .int .u8 tf, .int .i64 (hN : Int), .slice da dn dc] 46)) := (Below.refl _ w).alloc (Nat.le_refl _) _
  have hs0 : (w.alloc (.cells #[.int .u16 sp, .int .u16 dp, .int .u8 tf, .int .i64 (hN : Int), .slice da dn dc] 46)).heap.size = w.heap.size + 1 := by simp
  have p1 : decide ((hN : Int) < 20) = false := decide_eq_false (by omega)
  have p2 : decide ((60 : Int) < hN) = false := decide_eq_false (by omega)
  have p3 : ((hN : Int) % 4 != 0) = false := by simp; omega
  have p4 : IntKind.i64.wrap ((hN : Int) + dn) = (hN : Int) + dn := IntWalk.i64_in _ (by omega)
  have p5 : decide ((65535 : Int) < (hN : Int) + dn) = false := decide_eq_false (by omega)
  obtain ⟨q0, q1, q2, q3, q4⟩ := tcp_cells _ _ _ _ _ _ _ bH
  go_enter Tryd.func27, Tryd.ntmps27
  go_upto_region 1 with (fail)
  generalize w.alloc (.cells #[.int .u16 sp, .int .u16 dp, .int .u8 tf, .int .i64 (hN : Int), .slice da dn dc] 46) = W0 at *
  go_wp2_with (at_make; refine wpList_make_full _ rfl _ _ 22 rfl W0.heap.size 5 i0 (.int .u8 0) 1 Tryd.underlying22 hi hz0 hz1 .i64 .i64 hN hN hN rfl rfl rfl rfl (by rw [hz2]; omega) (by unfold maxLen; omega) (Nat.le_refl _) ?_; intro w1 O1 g1; rw [made_zero] at O1)
  rw [hs0] at O1
  have c1 := (g1.block _ (by omega) (by simp)).trans bH
  have L1 := L0.grown g1 (by omega) (fun k e => by cases e)
  clear q0 q1 q2 q3 q4 bH L0 g1
  obtain ⟨q0, q1, q2, q3, q4⟩ := tcp_cells _ _ _ _ _ _ _ c1
  have r0 := own_cell O1 0 (by omega)
  have r1 := own_cell O1 1 (by omega)
  have t0 := O1.frozenAt 0
  have t1 := O1.frozenAt 1
  have x0 : (0 : Int) < (hN : Int) := by omega
  have x0' : 0 < hN := by omega
  have x1 : (1 : Int) < (hN : Int) := by omega
  have x2 : (2 : Int) < (hN : Int) := by omega
  have x3 : (3 : Int) < (hN : Int) := by omega
  go_region
  have O2 : ((w1.setCell ⟨w.heap.size + 1, 0, none⟩ (.int .u8 (sp / 256))).setCell ⟨w.heap.size + 1, 1, none⟩ (.int .u8 (sp % 256))).drew.ownsRow _ _ 1 _ _ _ := own_store (own_store O1 0 (sp / 256)) 1 (sp % 256)
  have c2 : ((w1.setCell ⟨w.heap.size + 1, 0, none⟩ (.int .u8 (sp / 256))).setCell ⟨w.heap.size + 1, 1, none⟩ (.int .u8 (sp % 256))).drew.heap[w.heap.size]? = _ := box_store (own_store O1 0 (sp / 256)) (box_store O1 c1 (by decide) 0 (.int .u8 (sp / 256))) (by decide) 1 (.int .u8 (sp % 256))
  have L2 : Below w.heap.size w ((w1.setCell ⟨w.heap.size + 1, 0, none⟩ (.int .u8 (sp / 256))).setCell ⟨w.heap.size + 1, 1, none⟩ (.int .u8 (sp % 256))).drew := ((L1.setCell (p := ⟨w.heap.size + 1, 0, none⟩) (by simp) (.int .u8 (sp / 256))).setCell (p := ⟨w.heap.size + 1, 1, none⟩) (by simp) (.int .u8 (sp % 256))).drew
  clear q0 q1 q2 q3 q4 r0 r1 t0 t1 O1 c1 L1
  generalize ((w1.setCell ⟨w.heap.size + 1, 0, none⟩ (.int .u8 (sp / 256))).setCell ⟨w.heap.size + 1, 1, none⟩ (.int .u8 (sp % 256))).drew = w2 at *
  obtain ⟨q0, q1, q2, q3, q4⟩ := tcp_cells _ _ _ _ _ _ _ c2
  have r0 := own_cell O2 2 (by omega)
  have r1 := own_cell O2 3 (by omega)
  have t0 := O2.frozenAt 2
  have t1 := O2.frozenAt 3
  go_wp2
  go_region
  have O3 : ((w2.setCell ⟨w.heap.size + 1, 2, none⟩ (.int .u8 (dp / 256))).setCell ⟨w.heap.size + 1, 3, none⟩ (.int .u8 (dp % 256))).drew.ownsRow _ _ 1 _ _ _ := own_store (own_store O2 2 (dp / 256)) 3 (dp % 256)
  have c3 : ((w2.setCell ⟨w.heap.size + 1, 2, none⟩ (.int .u8 (dp / 256))).setCell ⟨w.heap.size + 1, 3, none⟩ (.int .u8 (dp % 256))).drew.heap[w.heap.size]? = _ := box_store (own_store O2 2 (dp / 256)) (box_store O2 c2 (by decide) 2 (.int .u8 (dp / 256))) (by decide) 3 (.int .u8 (dp % 256))
  have L3 : Below w.heap.size w ((w2.setCell ⟨w.heap.size + 1, 2, none⟩ (.int .u8 (dp / 256))).setCell ⟨w.heap.size + 1, 3, none⟩ (.int .u8 (dp % 256))).drew := ((L2.setCell (p := ⟨w.heap.size + 1, 2, none⟩) (by simp) (.int .u8 (dp / 256))).setCell (p := ⟨w.heap.size + 1, 3, none⟩) (by simp) (.int .u8 (dp % 256))).drew
  clear q0 q1 q2 q3 q4 r0 r1 t0 t1 O2 c2 L2
  generalize ((w2.setCell ⟨w.heap.size + 1, 2, none⟩ (.int .u8 (dp / 256))).setCell ⟨w.heap.size + 1, 3, none⟩ (.int .u8 (dp % 256))).drew = w3 at *
  obtain ⟨q0, q1, q2, q3, q4⟩ := tcp_cells _ _ _ _ _ _ _ c3
  have r0 := own_cell O3 12 (by omega)
  have r1 := own_cell O3 13 (by omega)
  have t0 := O3.frozenAt 12
  have t1 := O3.frozenAt 13
  have x12 : (12 : Int) < (hN : Int) := by omega
  have x13 : (13 : Int) < (hN : Int) := by omega
  have y1 : (hN : Int).tdiv 4 = (hN : Int) / 4 := Int.tdiv_eq_ediv_of_nonneg (by omega)
  have y2 : IntKind.u8.wrap ((hN : Int) / 4 * 16) = (hN : Int) / 4 * 16 := IntWalk.u8_in _ (by omega)
  go_upto_region 8 with (fail)
  have O4 : ((w3.setCell ⟨w.heap.size + 1, 12, none⟩ (.int .u8 ((hN : Int) / 4 * 16))).setCell ⟨w.heap.size + 1, 13, none⟩ (.int .u8 tf)).ownsRow _ _ 1 _ _ _ := own_store (own_store O3 12 ((hN : Int) / 4 * 16)) 13 tf
  rw [HE.out] at O4
  have c4 : ((w3.setCell ⟨w.heap.size + 1, 12, none⟩ (.int .u8 ((hN : Int) / 4 * 16))).setCell ⟨w.heap.size + 1, 13, none⟩ (.int .u8 tf)).heap[w.heap.size]? = _ := box_store (own_store O3 12 ((hN : Int) / 4 * 16)) (box_store O3 c3 (by decide) 12 (.int .u8 ((hN : Int) / 4 * 16))) (by decide) 13 (.int .u8 tf)
  have L4 : Below w.heap.size w ((w3.setCell ⟨w.heap.size + 1, 12, none⟩ (.int .u8 ((hN : Int) / 4 * 16))).setCell ⟨w.heap.size + 1, 13, none⟩ (.int .u8 tf)) := (L3.setCell (p := ⟨w.heap.size + 1, 12, none⟩) (by simp) (.int .u8 ((hN : Int) / 4 * 16))).setCell (p := ⟨w.heap.size + 1, 13, none⟩) (by simp) (.int .u8 tf)
  clear q0 q1 q2 q3 q4 r0 r1 t0 t1 O3 c3 L3
  generalize ((w3.setCell ⟨w.heap.size + 1, 12, none⟩ (.int .u8 ((hN : Int) / 4 * 16))).setCell ⟨w.heap.size + 1, 13, none⟩ (.int .u8 tf)) = w4 at *
  obtain ⟨q0, q1, q2, q3, q4⟩ := tcp_cells _ _ _ _ _ _ _ c4
  have hbl : (thead sp dp tf hN ++ ps).length = hN + dn := by rw [List.length_append, thead_length, HL.out, Int.toNat_natCast]
  have hin : In 255 (thead sp dp tf hN ++ ps) := by
    intro x hx
    rcases List.mem_append.1 hx with h | h
    · exact thead_in HH.out ⟨by omega, by omega⟩ x h
    · exact row_in HP.out x h
  have TP := Lib.hid (show tput s d sp dp tf hN ps = ((thead sp dp tf hN ++ ps).set 16 ((65535 - sumOf (psOf s d (hN + dn : Nat) ++ (thead sp dp tf hN ++ ps))) / 256)).set 17 ((65535 - sumOf (psOf s d (hN + dn : Nat) ++ (thead sp dp tf hN ++ ps))) % 256) by unfold tput tsum; rw [hbl])
  have HBL := Lib.hid hbl
  have HIN := Lib.hid hin
  clear hbl hin
  have HB : w.heap.size + 1 ≤ w4.heap.size := by have h := (O4.lt (w.heap.size + 1) rfl).2; omega
  go_wp2_with (first
    | (at_builtin; refine wpList_append_row _ rfl (.tmp 69) (.tmp 71) 22 rfl (w.heap.size + 1) 5 i0 (.int .u8 0) 1 Tryd.underlying22 hi hz0 hz1 hz2 rfl _ hN _ rfl O4 .u8 w.heap.size da dn dc ps rfl HL.out (HP.out.below L4) HZ.out (by unfold maxLen; omega) (by omega) (by omega) ?_; intro v6 w6 O6 g6; rw [← List.map_append] at O6; obtain ⟨g, cap6, rfl, hb6⟩ := own_form O6 (by omega); have L6 := L4.grown g6 (by omega) (fun k e => by have := (O4.lt k e).1; omega)))
  have hck := cr_in (tot (words (psOf s d (hN + dn : Nat) ++ (thead sp dp tf hN ++ ps))))
  generalize thead sp dp tf hN ++ ps = bd at *
  have HPL := Lib.hid (show (psOf s d (hN + dn : Nat) ++ bd).length = 12 + (hN + dn) by rw [List.length_append, psOf_length, HBL.out])
  obtain ⟨ck, hk⟩ : ∃ k, 65535 - sumOf (psOf s d (hN + dn : Nat) ++ bd) = k := ⟨_, rfl⟩
  have hkb : 0 ≤ ck ∧ ck ≤ 65535 := by unfold sumOf at hk; omega
  rw [hk] at TP
  have HK := Lib.hid hk
  clear hk hck q0 q1 q2 q3 q4 c4 O4 L4 g6
  have HPI := Lib.hid (in_wf8 (psOf_in hs hd' ((hN + dn : Nat) : Int)))
  have O6' : w6.ownsRow (w.heap.size + 1) 5 1 (.slice (some ⟨g, 0, none⟩) (hN + dn) cap6) (hN + dn) (bd.map (Value.int .u8)) := O6
  clear O6
  go_upto_region 10 with (first
    | (go_at_call 50; refine (rpseudo_any s d _ hs hd' w6).mono ?_; rintro e w7 ⟨A7, c7, rfl, O7, m7⟩; have L7 := L6.trans (m7.mono L6.size); have P7 := own_below O6' m7)
    | (at_builtin; refine wpList_append_row _ rfl (.tmp 77) (.tmp 78) 22 rfl w6.heap.size 5 i0 (.int .u8 0) 1 Tryd.underlying22 hi hz0 hz1 hz2 rfl _ 12 _ rfl O7 .u8 w7.heap.size (some ⟨g, 0, none⟩) (hN + dn) cap6 bd rfl HBL.out (Row.of_own P7 (in_wf8 HIN.out)) (fun h => by cases h) (by unfold maxLen; omega) (by omega) m7.size ?_; intro v8 w8 O8 g8; rw [← List.map_append] at O8; obtain ⟨A8, c8, rfl⟩ := own_slice O8; have L8 := L7.grown g8 L7.size (fun k e => by have := (O7.lt k e).1; have := L6.size; omega); have P8 := P7.kept g8 (.inr (fun e => by have := (O7.lt g e.symm).1; have := (O6'.lt g rfl).2; omega)))
    | (go_at_call 49; refine (rcheck_any A8 (12 + (hN + dn)) c8 (psOf s d (hN + dn : Nat) ++ bd) HPL.out (by omega) w8 (Row.of_own O8 (fun x hx => (List.mem_append.1 hx).elim (HPI.out x) (fun h => in_wf8 HIN.out x h)))).mono ?_; rintro e w9 ⟨he, m9⟩; rw [HK.out] at he; subst he; have L9 := L8.trans (m9.mono L8.size); have P9 := own_below P8 m9))
  clear O6' O7 O8 P7 P8 g8 L6 L7 L8 m7 m9
  have r0 := own_cell P9 16 (by omega)
  have r1 := own_cell P9 17 (by omega)
  have t0 := P9.frozenAt 16
  have t1 := P9.frozenAt 17
  have x16 : (16 : Int) < ((hN + dn : Nat) : Int) := by omega
  have x17 : (17 : Int) < ((hN + dn : Nat) : Int) := by omega
  have x16' : (16 : Int) < (hN : Int) + dn := by omega
  have x17' : (17 : Int) < (hN : Int) + dn := by omega
  go_wp2
  have O10 : ((w9.setCell ⟨g, 16, none⟩ (.int .u8 (ck / 256))).setCell ⟨g, 17, none⟩ (.int .u8 (ck % 256))).ownsRow _ _ 1 _ _ _ := own_store (own_store P9 16 (ck / 256)) 17 (ck % 256)
  have L10 : Below w.heap.size w ((w9.setCell ⟨g, 16, none⟩ (.int .u8 (ck / 256))).setCell ⟨g, 17, none⟩ (.int .u8 (ck % 256))) := ((L9.setCell (p := ⟨g, 16, none⟩) (by show w.heap.size ≤ g; omega) (.int .u8 (ck / 256))).setCell (p := ⟨g, 17, none⟩) (by show w.heap.size ≤ g; omega) (.int .u8 (ck % 256)))
  clear r0 r1 t0 t1 P9 L9
  generalize ((w9.setCell ⟨g, 16, none⟩ (.int .u8 (ck / 256))).setCell ⟨g, 17, none⟩ (.int .u8 (ck % 256))) = w10 at *
  go_ret2
  unfold TPutN
  rw [TP.out]
  exact ⟨_, _, rfl, own_base O10 (by omega), L10⟩

set_option maxRecDepth 100000 in
set_option maxHeartbeats 2000000 in
theorem refTcpPut_no (s d : Int) (sp dp tf hd : Int) (da : Option Addr) (dn dc : Nat) (hh : -9223372036854775808 ≤ hd ∧ hd ≤ 9223372036854775807) (_ : dn ≤ 281474976710656) (hm : mayB hd dn = false) (w : World) :
    Calls Tryd.prog 27 #[.int .u32 s, .int .u32 d, .agg #[.int .u16 sp, .int .u16 dp, .int .u8 tf, .int .i64 hd, .slice da dn dc]] w fun e w' => e = .returned (.tuple #[.slice none 0 0, .bool false]) ∧ Below w.heap.size w w' := by
  have L0 : Below w.heap.size w (w.alloc (.cells #[.int .u16 sp, .int .u16 dp, .int .u8 tf, .int .i64 hd, .slice da dn dc] 46)) := (Below.refl _ w).alloc (Nat.le_refl _) _
  have hm2 : ¬ (20 ≤ hd ∧ hd ≤ 60 ∧ hd % 4 = 0 ∧ hd + dn ≤ 65535) := of_decide_eq_false hm
  clear hm
  by_cases h1 : hd < 20
  · have p1 : decide (hd < 20) = true := decide_eq_true h1
    go_enter Tryd.func27, Tryd.ntmps27
    go_wp2
    go_ret2
    exact ⟨rfl, L0⟩
  have p1 : decide (hd < 20) = false := decide_eq_false h1
  by_cases h2 : 60 < hd
  · have p2 : decide (60 < hd) = true := decide_eq_true h2
    go_enter Tryd.func27, Tryd.ntmps27
    go_wp2
    go_ret2
    exact ⟨rfl, L0⟩
  have p2 : decide (60 < hd) = false := decide_eq_false h2
  have ht : hd.tmod 4 = hd % 4 := Int.tmod_eq_emod_of_nonneg (by omega)
  by_cases h3 : hd % 4 = 0
  · have p3 : (hd % 4 != 0) = false := by simp [h3]
    have p4 : IntKind.i64.wrap (hd + dn) = hd + dn := IntWalk.i64_in _ (by omega)
    have p5 : decide (65535 < hd + dn) = true := decide_eq_true (by omega)
    go_enter Tryd.func27, Tryd.ntmps27
    go_wp2
    go_ret2
    exact ⟨rfl, L0⟩
  · have p3 : (hd % 4 != 0) = true := by simp [h3]
    go_enter Tryd.func27, Tryd.ntmps27
    go_wp2
    go_ret2
    exact ⟨rfl, L0⟩
end Go.Proofs.YtnncmcfonkhckaaDoor

/- The document's own Parse of segments. -/
namespace Go.Proofs.YtnncmcfonkhckaaDoor
open Go.RowKit Go.Shelf
open SumM

theorem cell_s5 {W : World} {b b' j : Nat} {v v0 v1 v2 v3 v4 : Value} (hne : b ≠ b') (h : W.cell? ⟨b, j, none⟩ = some v) :
    (((((W.setCell ⟨b', 0, none⟩ v0).setCell ⟨b', 1, none⟩ v1).setCell ⟨b', 2, none⟩ v2).setCell ⟨b', 3, none⟩ v3).setCell ⟨b', 4, none⟩ v4).cell? ⟨b, j, none⟩ = some v := cell_sc (vs := [v0, v1, v2, v3, v4]) hne h

set_option maxRecDepth 100000 in
set_option maxHeartbeats 8000000 in
theorem refTcpParse_any (s d : Int) (hs : 0 ≤ s ∧ s ≤ 4294967295) (hd' : 0 ≤ d ∧ d ≤ 4294967295) (a : Option Addr) (len cap : Nat) (bs : List Int) (hlen : bs.length = len) (hlc : len ≤ cap) (_ : cap ≤ 9223372036854775807) (hln : len ≤ 1000000) (w : World) (hR : Row .u8 w.heap.size w a bs) :
    Calls Tryd.prog 21 #[.int .u32 s, .int .u32 d, .slice a len cap] w (TParseRet s d bs w) := by
  have HL := Lib.hid hlen
  clear hlen
  have hin := row_in hR
  have hd0 := heap_alloc_new w (.cells #[.int .u16 0, .int .u16 0, .int .u8 0, .int .i64 0, .slice none 0 0] 46)
  have L0 : Below w.heap.size w (w.alloc (.cells #[.int .u16 0, .int .u16 0, .int .u8 0, .int .i64 0, .slice none 0 0] 46)) := (Below.refl _ w).alloc (Nat.le_refl _) _
  have C0 := Lib.hid hd0
  have B0 := Lib.hid L0
  obtain ⟨q0, q1, q2, q3, q4⟩ := tcp_cells _ _ _ _ _ _ _ hd0
  have f0 := tcp_frozen hd0 0
  have f1 := tcp_frozen hd0 1
  have f2 := tcp_frozen hd0 2
  have f3 := tcp_frozen hd0 3
  have f4 := tcp_frozen hd0 4
  clear hd0 L0
  by_cases e1 : len < 20 ∨ 65535 < len
  · have HY := Lib.hid (show twhy s d bs = 8 by unfold twhy; rw [if_pos (by rw [HL.out]; exact e1)])
    rcases e1 with e1 | e1
    · have p1 : decide ((len : Int) < 20) = true := decide_eq_true (by omega)
      go_enter Tryd.func21, Tryd.ntmps21
      go_upto_region 1 with (fail)
      generalize w.alloc (.cells #[.int .u16 0, .int .u16 0, .int .u8 0, .int .i64 0, .slice none 0 0] 46) = W0 at *
      go_wp2
      refine bodyPost_ret (results_tcp rfl _ _ w.heap.size _ (0, 0) rfl (full_setCells C0.out [.int .u16 0, .int .u16 0, .int .u8 0, .int .i64 0, .slice none 0 0] rfl) rfl) rfl ?_
      exact .inl ⟨by rw [HY.out]; decide, by rw [HY.out]; rfl, below_setCells w.heap.size (Nat.le_refl _) [.int .u16 0, .int .u16 0, .int .u8 0, .int .i64 0, .slice none 0 0] 0 w _ B0.out⟩
    · have p1 : decide ((len : Int) < 20) = false := decide_eq_false (by omega)
      have p2 : decide ((65535 : Int) < len) = true := decide_eq_true (by omega)
      go_enter Tryd.func21, Tryd.ntmps21
      go_upto_region 1 with (fail)
      generalize w.alloc (.cells #[.int .u16 0, .int .u16 0, .int .u8 0, .int .i64 0, .slice none 0 0] 46) = W0 at *
      go_wp2
      refine bodyPost_ret (results_tcp rfl _ _ w.heap.size _ (0, 0) rfl (full_setCells C0.out [.int .u16 0, .int .u16 0, .int .u8 0, .int .i64 0, .slice none 0 0] rfl) rfl) rfl ?_
      exact .inl ⟨by rw [HY.out]; decide, by rw [HY.out]; rfl, below_setCells w.heap.size (Nat.le_refl _) [.int .u16 0, .int .u16 0, .int .u8 0, .int .i64 0, .slice none 0 0] 0 w _ B0.out⟩
  have p1 : decide ((len : Int) < 20) = false := decide_eq_false (by omega)
  have p2 : decide ((65535 : Int) < len) = false := decide_eq_false (by omega)
  have N1 := Lib.hid (show ¬ (bs.length < 20 ∨ 65535 < bs.length) by rw [HL.out]; exact e1)
  obtain ⟨b, off, rfl, hbw, hcz⟩ := hR.2 (by rw [HL.out]; omega)
  have b0 := getD_in hin (by decide) 0
  have b1 := getD_in hin (by decide) 1
  have b2 := getD_in hin (by decide) 2
  have b3 := getD_in hin (by decide) 3
  have b12 := getD_in hin (by decide) 12
  have CS := Lib.hid (fun W (m : Below w.heap.size w W) => (show W.cell? ⟨b, off, none⟩ = some (.int .u8 (bs[0]?.getD 0)) ∧ W.cell? ⟨b, off + 1, none⟩ = some (.int .u8 (bs[1]?.getD 0)) ∧ W.cell? ⟨b, off + 2, none⟩ = some (.int .u8 (bs[2]?.getD 0)) ∧ W.cell? ⟨b, off + 3, none⟩ = some (.int .u8 (bs[3]?.getD 0)) ∧ W.cell? ⟨b, off + 13, none⟩ = some (.int .u8 (bs[13]?.getD 0)) from
    ⟨(m.cell (p := ⟨b, off, none⟩) hbw).trans (hcz 0 (by rw [HL.out]; omega)), (m.cell (p := ⟨b, off + 1, none⟩) hbw).trans (hcz 1 (by rw [HL.out]; omega)), (m.cell (p := ⟨b, off + 2, none⟩) hbw).trans (hcz 2 (by rw [HL.out]; omega)), (m.cell (p := ⟨b, off + 3, none⟩) hbw).trans (hcz 3 (by rw [HL.out]; omega)), (m.cell (p := ⟨b, off + 13, none⟩) hbw).trans (hcz 13 (by rw [HL.out]; omega))⟩))
  have h12 : (w.alloc (.cells #[.int .u16 0, .int .u16 0, .int .u8 0, .int .i64 0, .slice none 0 0] 46)).cell? ⟨b, off + 12, none⟩ = some (.int .u8 (bs[12]?.getD 0)) := (B0.out.cell (p := ⟨b, off + 12, none⟩) hbw).trans (hcz 12 (by rw [HL.out]; omega))
  clear hcz
  have TH : Hid (thl bs = bs[12]?.getD 0 / 16 * 4) := Lib.hid rfl
  have TC : Hid (4 * (bs[12]?.getD 0 / 16) = thl bs) := Lib.hid (by unfold thl; omega)
  have hz : 0 ≤ thl bs ∧ thl bs ≤ 60 := by unfold thl; omega
  go_enter Tryd.func21, Tryd.ntmps21
  by_cases e2 : thl bs < 20 ∨ (len : Int) < thl bs
  · have HY := Lib.hid (show twhy s d bs = 8 by unfold twhy; rw [if_neg N1.out, if_pos (by rw [HL.out]; exact e2)])
    go_upto_region 4 with (fail)
    rw [TC.out]
    generalize w.alloc (.cells #[.int .u16 0, .int .u16 0, .int .u8 0, .int .i64 0, .slice none 0 0] 46) = W0 at *
    by_cases e3 : thl bs < 20
    · have p3 : decide (thl bs < 20) = true := decide_eq_true e3
      go_wp2
      refine bodyPost_ret (results_tcp rfl _ _ w.heap.size _ (0, 0) rfl (full_setCells C0.out [.int .u16 0, .int .u16 0, .int .u8 0, .int .i64 0, .slice none 0 0] rfl) rfl) rfl ?_
      exact .inl ⟨by rw [HY.out]; decide, by rw [HY.out]; rfl, below_setCells w.heap.size (Nat.le_refl _) [.int .u16 0, .int .u16 0, .int .u8 0, .int .i64 0, .slice none 0 0] 0 w _ B0.out⟩
    · have p3 : decide (thl bs < 20) = false := decide_eq_false e3
      have p4 : decide ((len : Int) < thl bs) = true := decide_eq_true (by omega)
      go_wp2
      refine bodyPost_ret (results_tcp rfl _ _ w.heap.size _ (0, 0) rfl (full_setCells C0.out [.int .u16 0, .int .u16 0, .int .u8 0, .int .i64 0, .slice none 0 0] rfl) rfl) rfl ?_
      exact .inl ⟨by rw [HY.out]; decide, by rw [HY.out]; rfl, below_setCells w.heap.size (Nat.le_refl _) [.int .u16 0, .int .u16 0, .int .u8 0, .int .i64 0, .slice none 0 0] 0 w _ B0.out⟩
  have N2 := Lib.hid (show ¬ (thl bs < 20 ∨ (bs.length : Int) < thl bs) by rw [HL.out]; exact e2)
  have p3 : decide (thl bs < 20) = false := decide_eq_false (by omega)
  have p4 : decide ((len : Int) < thl bs) = false := decide_eq_false (by omega)
  have R0 := Lib.hid (hR.step B0.out)
  go_upto_region 4 with (fail)
  rw [TC.out]
  generalize w.alloc (.cells #[.int .u16 0, .int .u16 0, .int .u8 0, .int .i64 0, .slice none 0 0] 46) = W0 at *
  clear h12
  by_cases e4 : tsum s d bs = 65535
  case neg =>
    have HY := Lib.hid (show twhy s d bs = 9 by unfold twhy; rw [if_neg N1.out, if_neg N2.out, if_pos e4])
    have p5 : (tsum s d bs == 65535) = false := by simp [e4]
    clear e4
    go_wp2_with (go_at_call 32; refine (rtright_any s d hs hd' _ len cap bs HL.out hln W0 R0.out (fun h => by cases h)).mono ?_; rintro e w1 ⟨he, m1⟩; rw [p5] at he; subst he; have D1 := (m1.block _ (Array.getElem?_eq_some_iff.1 C0.out).1).trans C0.out; obtain ⟨z0, z1, z2, z3, z4⟩ := tcp_cells _ _ _ _ _ _ _ D1; have g0 := tcp_frozen D1 0; have g1 := tcp_frozen D1 1; have g2 := tcp_frozen D1 2; have g3 := tcp_frozen D1 3; have g4 := tcp_frozen D1 4; have HD1 := Lib.hid D1; clear D1)
    refine bodyPost_ret (results_tcp rfl _ _ w.heap.size _ (0, 0) rfl (full_setCells HD1.out [.int .u16 0, .int .u16 0, .int .u8 0, .int .i64 0, .slice none 0 0] rfl) rfl) rfl ?_
    exact .inl ⟨by rw [HY.out]; decide, by rw [HY.out]; rfl, below_setCells w.heap.size (Nat.le_refl _) [.int .u16 0, .int .u16 0, .int .u8 0, .int .i64 0, .slice none 0 0] 0 w _ (B0.out.trans (m1.mono B0.out.size))⟩
  case pos =>
    have HY := Lib.hid (show twhy s d bs = 0 by unfold twhy; rw [if_neg N1.out, if_neg N2.out, if_neg (by rw [e4]; simp)])
    have p5 : (tsum s d bs == 65535) = true := by simp [e4]
    clear e4
    go_wp2_with (go_at_call 32; refine (rtright_any s d hs hd' _ len cap bs HL.out hln W0 R0.out (fun h => by cases h)).mono ?_; rintro e w1 ⟨he, m1⟩; rw [p5] at he; subst he)
    have D1 := (m1.block _ (Array.getElem?_eq_some_iff.1 C0.out).1).trans C0.out
    have HD1 := Lib.hid D1
    have L1 := B0.out.trans (m1.mono B0.out.size)
    have HL1 := Lib.hid L1
    clear q0 q1 q2 q3 q4 f0 f1 f2 f3 f4 D1 m1
    obtain ⟨th, hth⟩ : ∃ k, thl bs = k := ⟨_, rfl⟩
    rw [hth] at hz e2
    rw [hth]
    have TK := Lib.hid hth
    clear hth TC TH p3 p4 e1 p1 p2
    have hl1 : (0 : Int) ≤ th := by omega
    have hl2 : th ≤ (cap : Int) := by omega
    have hl3 : th ≤ (len : Int) := by omega
    have hp9 : (bs.drop th.toNat).length = len - th.toNat := by rw [List.length_drop, HL.out]
    obtain ⟨ad, hAP⟩ : ∃ ad : Addr, (if cap = th.toNat then some (⟨b, off, none⟩ : Addr) else some ⟨b, off + th.toNat, none⟩) = some ad := by split <;> exact ⟨_, rfl⟩
    obtain ⟨PS, hPS⟩ : ∃ l, bs.drop th.toNat = l := ⟨_, rfl⟩
    have RP := Lib.hid (fun W' (m : Below w.heap.size w W') => show Row .u8 w.heap.size W' (some ad) PS by
      have := ((hR.below m).dropIf th.toNat (c := cap = th.toNat) (fun h => List.eq_nil_of_length_eq_zero (by rw [hp9]; omega)))
      rw [hAP, hPS] at this
      exact this)
    rw [hPS] at hp9
    have HP9 := Lib.hid hp9
    have HPS := Lib.hid hPS
    clear hPS hp9
    have x0 : (0 : Int) < (len : Int) := by omega
    have x0' : 0 < len := by omega
    have x1 : (1 : Int) < (len : Int) := by omega
    have x2 : (2 : Int) < (len : Int) := by omega
    have x3 : (3 : Int) < (len : Int) := by omega
    have x13 : (13 : Int) < (len : Int) := by omega
    have hbne : b ≠ w.heap.size := Nat.ne_of_lt hbw
    have N0 : Below w.heap.size w w1.drew := L1.drew
    have NA : Below w.heap.size w (w1.drew.alloc (.cells #[] 5)) := N0.alloc L1.size _
    have NB : Below w.heap.size w (w1.alloc (.cells #[] 5)).drew := (L1.alloc L1.size _).drew
    have hlt1 : w.heap.size < w1.heap.size := (Array.getElem?_eq_some_iff.1 HD1.out).1
    obtain ⟨i0, hi, hz0', hz1, hz2⟩ := info_parts Tryd.infoU8
    have OA : (w1.drew.alloc (.cells #[] 5)).ownsRow w1.heap.size 5 1 (.slice (some ⟨w1.heap.size, 0, none⟩) 0 0) 0 [] := own_built w1.drew w1.heap.size (Nat.le_refl _) 5 [] 0 rfl (by unfold maxLen; omega)
    have OA := Lib.hid OA
    clear e2 L1
    go_region_held3 (fun w' => w'.cell? ⟨b, off, none⟩ = some (.int .u8 (bs[0]?.getD 0)) ∧ w'.cell? ⟨b, off + 1, none⟩ = some (.int .u8 (bs[1]?.getD 0)) ∧ w'.cell? ⟨b, off + 2, none⟩ = some (.int .u8 (bs[2]?.getD 0)) ∧ w'.cell? ⟨b, off + 3, none⟩ = some (.int .u8 (bs[3]?.getD 0)) ∧ w'.cell? ⟨b, off + 13, none⟩ = some (.int .u8 (bs[13]?.getD 0))) (first | with_reducible exact CS.out _ NA | with_reducible exact CS.out _ NB | with_reducible exact HC10 | with_reducible exact ⟨cell_s5 hbne HC10.1, cell_s5 hbne HC10.2.1, cell_s5 hbne HC10.2.2.1, cell_s5 hbne HC10.2.2.2.1, cell_s5 hbne HC10.2.2.2.2⟩ | with_reducible exact CS.out _ N0)
      (first
        | (refine step_append_some _ (by rfl) _ _ _ (by rfl) w1.heap.size 5 i0 (.int .u8 0) 1 Tryd.underlying22 hi hz0' hz1 hz2 rfl (.slice (some ⟨w1.heap.size, 0, none⟩) 0 0) 0 [] (by rfl) OA.out ad (len - th.toNat) (cap - th.toNat) (PS.map (Value.int .u8)) (by rfl) (by rw [List.length_map, HP9.out]) (row_cells (RP.out _ NA)) (one_u8 _) (by unfold maxLen; omega) (by omega) (by simp) ?_; intro v10 w10 O10 hg10; simp only [Nat.zero_add, List.nil_append] at O10; have M10 : Below w1.heap.size w1 w10 := (below_drew ((Below.refl _ w1.drew).alloc (Nat.le_refl _) _)).grown hg10 (by simp) (fun e he => by cases he; exact Nat.le_refl _); obtain ⟨A10, c10, rfl⟩ := own_slice O10; have N10 : Below w.heap.size w w10 := HL1.out.trans (M10.mono HL1.out.size); have D10 := (M10.block _ hlt1).trans HD1.out; obtain ⟨z0, z1, z2, z3, z4⟩ := tcp_cells _ _ _ _ _ _ _ D10; have g0 := tcp_frozen D10 0; have g1 := tcp_frozen D10 1; have g2 := tcp_frozen D10 2; have g3 := tcp_frozen D10 3; have g4 := tcp_frozen D10 4; have HD10 := Lib.hid D10; clear D10; have HC10 := CS.out _ N10))
    have ew : ∀ x y : Int, 0 ≤ x ∧ x ≤ 255 → 0 ≤ y ∧ y ≤ 255 → IntKind.u16.wrap (IntKind.i64.wrap (IntKind.i64.wrap (IntKind.i64.wrap x * 256) + IntKind.i64.wrap y)) = 256 * x + y := fun x y h1 h2 => by
      rw [IntWalk.i64_in x (by omega), IntWalk.i64_in (x * 256) (by omega), IntWalk.i64_in y (by omega), IntWalk.i64_in _ (by omega), IntWalk.u16_in _ (by omega)]
      omega
    have w0 : IntKind.u16.wrap (IntKind.i64.wrap (IntKind.i64.wrap (IntKind.i64.wrap (bs[0]?.getD 0) * 256) + IntKind.i64.wrap (bs[1]?.getD 0))) = wordAt bs 0 := ew _ _ b0 b1
    have w1' : IntKind.u16.wrap (IntKind.i64.wrap (IntKind.i64.wrap (IntKind.i64.wrap (bs[2]?.getD 0) * 256) + IntKind.i64.wrap (bs[3]?.getD 0))) = wordAt bs 1 := ew _ _ b2 b3
    rw [w0, w1']
    clear w0 w1' ew z0 z1 z2 z3 z4 g0 g1 g2 g3 g4
    have C12 := full_setCells HD10.out [.int .u16 (wordAt bs 0), .int .u16 (wordAt bs 1), .int .u8 (bs[13]?.getD 0), .int .i64 th, .slice A10 (len - th.toNat) c10] rfl
    have L12 := below_setCells w.heap.size (Nat.le_refl _) [.int .u16 (wordAt bs 0), .int .u16 (wordAt bs 1), .int .u8 (bs[13]?.getD 0), .int .i64 th, .slice A10 (len - th.toNat) c10] 0 w _ N10
    have O12 := own_apartN (by decide) [.int .u16 (wordAt bs 0), .int .u16 (wordAt bs 1), .int .u8 (bs[13]?.getD 0), .int .i64 th, .slice A10 (len - th.toNat) c10] 0 _ _ O10 HD10.out
    have hE : bs.drop (thl bs).toNat = PS := by rw [TK.out]; exact HPS.out
    have hsz : w.heap.size ≤ w1.heap.size := HL1.out.size
    go_wp2
    refine bodyPost_ret (results_tcp rfl _ _ w.heap.size _ (0, 0) rfl C12 rfl) rfl ?_
    unfold TParseRet
    rw [hE, TK.out, HP9.out]
    exact .inr ⟨HY.out, A10, c10, rfl, own_base O12 hsz, L12⟩
end Go.Proofs.YtnncmcfonkhckaaDoor

/- Whether two TCP heads are the same: package tcp's answer and the document's; whether bytes are the same, as the law asks. -/
namespace Go.Proofs.YtnncmcfonkhckaaDoor
open Go.RowKit
open SumM

/-- Whether two heads are the same. -/
def tsameB (sp dp tf hd : Int) (ps : List Int) (sp' dp' tf' hd' : Int) (ps' : List Int) : Bool := decide (sp = sp' ∧ dp = dp' ∧ tf = tf' ∧ hd = hd' ∧ ps = ps')
theorem tsame_no {sp dp tf hd sp' dp' tf' hd' : Int} {ps ps' : List Int} (h : ¬ (sp = sp' ∧ dp = dp' ∧ tf = tf' ∧ hd = hd' ∧ ps = ps')) : tsameB sp dp tf hd ps sp' dp' tf' hd' ps' = false := decide_eq_false h
theorem tsame_yes {sp dp tf hd sp' dp' tf' hd' : Int} {ps ps' : List Int} (h0 : sp = sp') (h1 : dp = dp') (h2 : tf = tf') (h3 : hd = hd') : tsameB sp dp tf hd ps sp' dp' tf' hd' ps' = eqB ps ps' := by
  simp [tsameB, eqB, h0, h1, h2, h3]

end Go.Proofs.YtnncmcfonkhckaaDoor


/- 'handfastlaw03.wakes' returns true, in whatever memory. -/
namespace Go.Proofs.YtnncmcfonkhckaaDoor
open Go.RowKit
open SumM

/-- Bytes that were put, parsed. -/
theorem tparse_put (s d sp dp tf hd : Int) (ps : List Int) (hs : 0 ≤ s ∧ s ≤ 4294967295) (hd' : 0 ≤ d ∧ d ≤ 4294967295) (H : TNums sp dp tf) (hm : mayB hd ps.length = true) (hp : In 255 ps) (A : Option Addr) (len cap : Nat) (hlen : len = hd.toNat + ps.length) (hlc : len ≤ cap) (hc : cap ≤ 9223372036854775807) (w : World)
    (hR : Row .u8 w.heap.size w A (tput s d sp dp tf hd ps)) :
    Calls Tryd.prog 38 #[.int .u32 s, .int .u32 d, .slice A len cap] w fun e w' => ∃ A c, e = .returned (.tuple #[.agg #[.int .u16 sp, .int .u16 dp, .int .u8 tf, .int .i64 hd, .slice A ps.length c], .int .u8 0]) ∧
      w'.ownsRow w.heap.size 5 1 (.slice A ps.length c) ps.length (ps.map (Value.int .u8)) ∧ Below w.heap.size w w' := by
  refine (tcpParse_any s d hs hd' A len cap _ (by rw [tput_length, hlen]) hlc hc w hR).mono ?_
  have hy := twhy_put (sp := sp) (dp := dp) (tf := tf) (hd := hd) hs hd' H hm hp
  obtain ⟨q1, q2, q3, q4, q5⟩ := tput_seg (s := s) (d := d) H hm
  rintro e w' (⟨h, _⟩ | ⟨_, A, c, rfl, h1, h2⟩)
  · exact absurd hy h
  · rw [q1, q2, q3, q4, q5]
    rw [q4, q5] at h1
    exact ⟨A, c, rfl, h1, h2⟩
/-- Bytes that are none. -/
theorem tparse_no (s d : Int) (hs : 0 ≤ s ∧ s ≤ 4294967295) (hd' : 0 ≤ d ∧ d ≤ 4294967295) (bs : List Int) (A : Option Addr) (len cap : Nat) (hlen : bs.length = len) (hlc : len ≤ cap) (hc : cap ≤ 9223372036854775807) (w : World) (hR : Row .u8 w.heap.size w A bs) (y : Int) (hy : twhy s d bs = y) (h0 : y ≠ 0) :
    Calls Tryd.prog 38 #[.int .u32 s, .int .u32 d, .slice A len cap] w fun e w' => e = .returned (.tuple #[.agg #[.int .u16 0, .int .u16 0, .int .u8 0, .int .i64 0, .slice none 0 0], .int .u8 y]) ∧ Below w.heap.size w w' := by
  subst hy
  refine (tcpParse_any s d hs hd' A len cap bs hlen hlc hc w hR).mono ?_
  rintro e w' (⟨_, h⟩ | ⟨h, _⟩)
  · exact h
  · exact absurd h h0

/-- The document's example. -/
def exL : List Int := [3, 232, 0, 80, 0, 0, 0, 0, 0, 0, 0, 0, 80, 2, 0, 0, 171, 168, 0, 0]
theorem ex_nums : TNums 1000 80 2 := ⟨by decide, by decide, by decide⟩
theorem ex_put (w : World) : Calls Tryd.prog 25 #[.int .u32 1, .int .u32 2, .agg #[.int .u16 1000, .int .u16 80, .int .u8 2, .int .i64 20, .slice none 0 0]] w (TPutN 20 exL w) := by
  have := tcpPut_yes 1 2 1000 80 2 20 none 0 0 [] (by decide) (by decide) ex_nums (by decide) w (Row.nil _ _ _ _) rfl (fun _ => rfl)
  rwa [show tput 1 2 1000 80 2 20 [] = exL by decide +kernel] at this
theorem ex_no (w : World) : Calls Tryd.prog 25 #[.int .u32 1, .int .u32 2, .agg #[.int .u16 0, .int .u16 0, .int .u8 0, .int .i64 22, .slice none 0 0]] w fun e w' => e = .returned (.tuple #[.slice none 0 0, .bool false]) ∧ Below w.heap.size w w' :=
  tcpPut_no 1 2 0 0 0 22 none 0 0 (by decide) (by decide) (by decide) w
theorem ex_parse (A : Option Addr) (c : Nat) (hc : 20 ≤ c ∧ c ≤ 9223372036854775807) (w : World) (hR : Row .u8 w.heap.size w A exL) :
    Calls Tryd.prog 38 #[.int .u32 1, .int .u32 2, .slice A 20 c] w fun e w' => ∃ A c, e = .returned (.tuple #[.agg #[.int .u16 1000, .int .u16 80, .int .u8 2, .int .i64 20, .slice A 0 c], .int .u8 0]) ∧
      w'.ownsRow w.heap.size 5 1 (.slice A 0 c) 0 [] ∧ Below w.heap.size w w' :=
  tparse_put 1 2 1000 80 2 20 [] (by decide) (by decide) ex_nums (by decide) (by unfold In; decide) A 20 c rfl hc.1 hc.2 w (by rwa [show tput 1 2 1000 80 2 20 [] = exL by decide +kernel])
theorem ex_other (A : Option Addr) (c : Nat) (hc : 20 ≤ c ∧ c ≤ 9223372036854775807) (w : World) (hR : Row .u8 w.heap.size w A exL) :
    Calls Tryd.prog 38 #[.int .u32 1, .int .u32 3, .slice A 20 c] w fun e w' => e = .returned (.tuple #[.agg #[.int .u16 0, .int .u16 0, .int .u8 0, .int .i64 0, .slice none 0 0], .int .u8 9]) ∧ Below w.heap.size w w' :=
  tparse_no 1 3 (by decide) (by decide) exL A 20 c rfl hc.1 hc.2 w hR 9 (by decide +kernel) (by decide)
theorem ex_none (w : World) :
    Calls Tryd.prog 38 #[.int .u32 1, .int .u32 2, .slice none 0 0] w fun e w' => e = .returned (.tuple #[.agg #[.int .u16 0, .int .u16 0, .int .u8 0, .int .i64 0, .slice none 0 0], .int .u8 8]) ∧ Below w.heap.size w w' :=
  tparse_no 1 2 (by decide) (by decide) [] none 0 0 rfl (by decide) (by decide) w (Row.nil _ _ _ _) 8 (by decide +kernel) (by decide)

end Go.Proofs.YtnncmcfonkhckaaDoor


/- A TCP head that came in, opened. -/
namespace Go.Proofs.YtnncmcfonkhckaaDoor
open Go.RowKit Go.Joins Go.ChangeShapes Go.WideShapes Go.ChangeAt Go.Deep
open SumM

/-- A head that came in. -/
structure IsTcp (w : World) (sp dp tf hd : Int) (da : Option Addr) (dn dc : Nat) (ps : List Int) : Prop where
  nums : TNums sp dp tf
  hh : -9223372036854775808 ≤ hd ∧ hd ≤ 9223372036854775807
  hrp : Row .u8 w.heap.size w da ps
  hpl : ps.length = dn
  hpn : da = none → dc = 0
  hpc : dn ≤ dc ∧ dc ≤ maxLen

section
variable {H : Type} {enc : TypeId × Value → H} {w : World} {base : Nat} {spare : Nat → Bool} {held : Bool}
theorem open_tcp {r : Reach} {b0 : Nat} {v : Value} {d : DataW H} {p : List MemPlace} (hsp : ∀ b, spare b = true) (hv : Value.okWide Tryd.prog w r b0 46 v) (h : DataW.Trod enc Tryd.prog w base spare held 46 v d p) :
    ∃ (sp dp tf hd : Int) (da : Option Addr) (dn dc : Nat) (ps : List Int), v = .agg #[.int .u16 sp, .int .u16 dp, .int .u8 tf, .int .i64 hd, .slice da dn dc] ∧ IsTcp w sp dp tf hd da dn dc ps := by
  have hs := Tryd.underlying46
  have hC : Tryd.prog.cellsOf 46 = 5 := by kernel_rfl
  obtain ⟨cs, rfl, hsz⟩ := okWide_struct hs hv
  obtain ⟨l⟩ := cs
  match l, hsz.trans hC with
  | [c0, c1, c2, c3, c4], _ =>
    obtain ⟨fuel, hf⟩ := h
    obtain ⟨xs, n, _, hx, _, hlen, hg⟩ := DataW.trod_struct hs hf
    have z1 : Tryd.prog.cellsOf 5 = 1 := by kernel_rfl
    have z2 : Tryd.prog.cellsOf 24 = 1 := by kernel_rfl
    have z3 : Tryd.prog.cellsOf 3 = 1 := by kernel_rfl
    have z4 : Tryd.prog.cellsOf 22 = 1 := by kernel_rfl
    match xs, hlen with
    | [y0, y1, y2, y3, y4], _ =>
      have g0 : DataW.trod enc Tryd.prog w base spare held n 24 [c0] = some y0 := by simpa [Value.cells, z1, z2, z3, z4] using hg 0 _ rfl
      have g1 : DataW.trod enc Tryd.prog w base spare held n 24 [c1] = some y1 := by simpa [Value.cells, z1, z2, z3, z4] using hg 1 _ rfl
      have g2 : DataW.trod enc Tryd.prog w base spare held n 5 [c2] = some y2 := by simpa [Value.cells, z1, z2, z3, z4] using hg 2 _ rfl
      have g3 : DataW.trod enc Tryd.prog w base spare held n 3 [c3] = some y3 := by simpa [Value.cells, z1, z2, z3, z4] using hg 3 _ rfl
      have g4 : DataW.trod enc Tryd.prog w base spare held n 22 [c4] = some y4 := by simpa [Value.cells, z1, z2, z3, z4] using hg 4 _ rfl
      obtain ⟨sp, e0, _, w0⟩ := DataW.trod_int Tryd.underlying24 g0
      obtain ⟨dp, e1, _, w1⟩ := DataW.trod_int Tryd.underlying24 g1
      obtain ⟨tf, e2, _, w2⟩ := DataW.trod_int Tryd.underlying5 g2
      obtain ⟨hd, e3, _, w3⟩ := DataW.trod_int Tryd.underlying3 g3
      obtain ⟨da, dn, dc, ps, e4, a1, a2, a3, a4, a5⟩ := open_bytes hsp g4
      simp only [List.cons.injEq, and_true] at e0 e1 e2 e3
      subst e0 e1 e2 e3 e4
      exact ⟨sp, dp, tf, hd, da, dn, dc, ps, rfl, ⟨wf_u16.1 w0, wf_u16.1 w1, wf_u8.1 w2⟩, wf_i64.1 w3, a1, a2, a3, ⟨a4, a5⟩⟩
end
end Go.Proofs.YtnncmcfonkhckaaDoor

/- Put and Parse of segments, ours and the document's, in one form: what they answer, whatever came in. -/
namespace Go.Proofs.YtnncmcfonkhckaaDoor
open Go.RowKit
open SumM

/-- What is put, if anything is. -/
def tputB (s d sp dp tf hd : Int) (dn : Nat) (ps : List Int) : List Int := if mayB hd dn = true then tput s d sp dp tf hd ps else []
def TPutAs (zs : List Int) (r : Bool) (w : World) (e : Ending) (w' : World) : Prop :=
  ∃ A n c, e = .returned (.tuple #[.slice A n c, .bool r]) ∧ zs.length = n ∧ Row .u8 w'.heap.size w' A zs ∧ (A = none → c = 0) ∧ n ≤ c ∧ c ≤ 9223372036854775807 ∧ Below w.heap.size w w'
theorem tput_as' {s d : Int} {f : FuncId} (sp dp tf hd : Int) (dn : Nat) {ps : List Int} (H : TNums sp dp tf) (hp : In 255 ps) {w : World} {v : Value} {x y : Value} (hpl : ps.length = dn)
    (hyes : mayB hd dn = true → Calls Tryd.prog f #[x, y, v] w (TPutN (hd.toNat + dn) (tput s d sp dp tf hd ps) w))
    (hno : mayB hd dn = false → Calls Tryd.prog f #[x, y, v] w fun e w' => e = .returned (.tuple #[.slice none 0 0, .bool false]) ∧ Below w.heap.size w w') :
    Calls Tryd.prog f #[x, y, v] w (TPutAs (tputB s d sp dp tf hd dn ps) (mayB hd dn) w) := by
  by_cases h : mayB hd dn = true
  · refine (hyes h).mono ?_
    rintro e w' ⟨A, c, rfl, hO, hb⟩
    obtain ⟨m1, m2, m3, m4⟩ := mayB_le h
    have hc := own_cap hO
    refine ⟨A, _, c, by rw [h], ?_, ?_, own_nil hO, hc.1, hc.2, hb⟩
    · unfold tputB
      rw [if_pos h, tput_length, hpl]
    · unfold tputB
      rw [if_pos h]
      exact Row.of_own hO (in_wf8 (tput_in H ⟨m1, m2⟩ hp))
  · refine (hno (by simpa using h)).mono ?_
    rintro e w' ⟨rfl, hb⟩
    refine ⟨none, 0, 0, by rw [show mayB hd dn = false by simpa using h], ?_, ?_, fun _ => rfl, Nat.le_refl _, by decide, hb⟩
    · unfold tputB
      rw [if_neg h]
      rfl
    · unfold tputB
      rw [if_neg h]
      exact Row.nil _ _ _ _
theorem tcpPut_as (s d : Int) (sp dp tf hd : Int) (da : Option Addr) (dn dc : Nat) (ps : List Int) (hs : 0 ≤ s ∧ s ≤ 4294967295) (hd' : 0 ≤ d ∧ d ≤ 4294967295) (H : TNums sp dp tf) (hh : -9223372036854775808 ≤ hd ∧ hd ≤ 9223372036854775807) (hdn : dn ≤ 281474976710656) (w : World)
    (hrp : Row .u8 w.heap.size w da ps) (hpl : ps.length = dn) (hpn : da = none → dc = 0) :
    Calls Tryd.prog 25 #[.int .u32 s, .int .u32 d, .agg #[.int .u16 sp, .int .u16 dp, .int .u8 tf, .int .i64 hd, .slice da dn dc]] w (TPutAs (tputB s d sp dp tf hd dn ps) (mayB hd dn) w) :=
  tput_as' sp dp tf hd dn H (row_in hrp) hpl (fun h => tcpPut_yes s d sp dp tf hd da dn dc ps hs hd' H h w hrp hpl hpn) (fun h => tcpPut_no s d sp dp tf hd da dn dc hh hdn h w)
theorem refTcpPut_as (s d : Int) (sp dp tf hd : Int) (da : Option Addr) (dn dc : Nat) (ps : List Int) (hs : 0 ≤ s ∧ s ≤ 4294967295) (hd' : 0 ≤ d ∧ d ≤ 4294967295) (H : TNums sp dp tf) (hh : -9223372036854775808 ≤ hd ∧ hd ≤ 9223372036854775807) (hdn : dn ≤ 281474976710656) (w : World)
    (hrp : Row .u8 w.heap.size w da ps) (hpl : ps.length = dn) (hpn : da = none → dc = 0) :
    Calls Tryd.prog 27 #[.int .u32 s, .int .u32 d, .agg #[.int .u16 sp, .int .u16 dp, .int .u8 tf, .int .i64 hd, .slice da dn dc]] w (TPutAs (tputB s d sp dp tf hd dn ps) (mayB hd dn) w) :=
  tput_as' sp dp tf hd dn H (row_in hrp) hpl (fun h => refTcpPut_yes s d sp dp tf hd da dn dc ps hs hd' H h w hrp hpl hpn) (fun h => refTcpPut_no s d sp dp tf hd da dn dc hh hdn h w)
/-- A head that reads as told. -/
structure TcpIs (s d : Int) (bs : List Int) (sp dp tf hd : Int) (ps : List Int) : Prop where
  h1 : sp = if twhy s d bs = 0 then wordAt bs 0 else 0
  h2 : dp = if twhy s d bs = 0 then wordAt bs 1 else 0
  h3 : tf = if twhy s d bs = 0 then bs[13]?.getD 0 else 0
  h4 : hd = if twhy s d bs = 0 then thl bs else 0
  h5 : ps = if twhy s d bs = 0 then bs.drop (thl bs).toNat else []
def TParseAs (s d : Int) (bs : List Int) (w : World) (e : Ending) (w' : World) : Prop :=
  ∃ (sp dp tf hd : Int) (da : Option Addr) (dn dc : Nat), ∃ ps : List Int, e = .returned (.tuple #[.agg #[.int .u16 sp, .int .u16 dp, .int .u8 tf, .int .i64 hd, .slice da dn dc], .int .u8 (twhy s d bs)]) ∧ TcpIs s d bs sp dp tf hd ps ∧ Row .u8 w'.heap.size w' da ps ∧ ps.length = dn ∧ Below w.heap.size w w'
theorem tparse_as {s d : Int} {bs : List Int} {w : World} {e : Ending} {w' : World} (hin : In 255 bs) (h : TParseRet s d bs w e w') : TParseAs s d bs w e w' := by
  rcases h with ⟨h0, rfl, hb⟩ | ⟨h0, A, c, rfl, h1, hb⟩
  · exact ⟨_, _, _, _, _, _, _, [], rfl, ⟨by rw [if_neg h0], by rw [if_neg h0], by rw [if_neg h0], by rw [if_neg h0], by rw [if_neg h0]⟩, Row.nil _ _ _ _, rfl, hb⟩
  · exact ⟨_, _, _, _, _, _, _, _, by rw [h0], ⟨by rw [if_pos h0], by rw [if_pos h0], by rw [if_pos h0], by rw [if_pos h0], by rw [if_pos h0]⟩, Row.of_own h1 (in_wf8 (in_drop hin _)), rfl, hb⟩
theorem TcpIs.same {s d : Int} {bs : List Int} {sp dp tf hd sp' dp' tf' hd' : Int} {ps ps' : List Int} (h : TcpIs s d bs sp dp tf hd ps) (k : TcpIs s d bs sp' dp' tf' hd' ps') : tsameB sp dp tf hd ps sp' dp' tf' hd' ps' = true := by
  unfold tsameB
  rw [h.h1, h.h2, h.h3, h.h4, h.h5, k.h1, k.h2, k.h3, k.h4, k.h5]
  simp
end Go.Proofs.YtnncmcfonkhckaaDoor
