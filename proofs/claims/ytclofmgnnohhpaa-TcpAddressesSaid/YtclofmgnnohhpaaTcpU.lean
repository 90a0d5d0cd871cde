/- The document's own Put of segments. -/
import Derived.Test.YtclofmgnnohhpaaTcpT
import Derived.BigRegion
import Derived.Deep.DeepCutAuto
namespace Go.Proofs.Ytclofmgnnohhpaa
open Go.RowKit Go.Shelf
open SumM

theorem made_zero (n : Nat) : (madeCells (Value.int .u8 0).cells (n * 1)).toList = (List.replicate n (0 : Int)).map (Value.int .u8) := by
  apply List.ext_getElem
  · simp [size_madeCells]
  · intro k h1 h2
    simp [madeCells, Value.cells, Nat.mod_one]
theorem thead_eq {sp dp tf : Int} (H : TNums sp dp tf) (hN : Nat) :
    ((((((List.replicate hN (0 : Int)).set 0 (sp / 256)).set 1 (sp % 256)).set 2 (dp / 256)).set 3 (dp % 256)).set 12 ((hN : Int) / 4 * 16)).set 13 tf = thead sp dp tf hN := by
  obtain ⟨h1, h2, h3⟩ := H
  have e1 : ((hN : Int) / 4 * 4096 + tf) / 256 = (hN : Int) / 4 * 16 := by omega
  have e2 : ((hN : Int) / 4 * 4096 + tf) % 256 = tf := by omega
  simp [thead, tfill, tnums, e1, e2]

set_option maxRecDepth 100000 in
set_option maxHeartbeats 4000000 in
theorem refTcpPut_yes (s d : Int) (sp dp tf hd : Int) (da : Option Addr) (dn dc : Nat) (ps : List Int) (hs : 0 ≤ s ∧ s ≤ 4294967295) (hd' : 0 ≤ d ∧ d ≤ 4294967295) (H : TNums sp dp tf) (hm : mayB hd dn = true) (w : World)
    (hrp : Row .u8 w.heap.size w da ps) (hpl : ps.length = dn) (hpn : da = none → dc = 0) :
    Calls Try.prog 11 #[.int .u32 s, .int .u32 d, .agg #[.int .u16 sp, .int .u16 dp, .int .u8 tf, .int .i64 hd, .slice da dn dc]] w (TPutN (hd.toNat + dn) (tput s d sp dp tf hd ps) w) := by
  obtain ⟨i0, hi, hz0, hz1, hz2⟩ := info_parts Try.infoU8
  obtain ⟨m1, m2, m3, m4⟩ := mayB_le hm
  clear hm
  obtain ⟨hN, rfl⟩ : ∃ k : Nat, hd = (k : Int) := ⟨hd.toNat, by omega⟩
  rw [Int.toNat_natCast]
  have HH := Lib.hid H
  have HL := Lib.hid hpl
  have HP := Lib.hid hrp
  have HZ := Lib.hid hpn
  have HE := Lib.hid (thead_eq H hN)
  obtain ⟨k1, k2, k3⟩ := H
  clear hpl hrp hpn
  have bH := heap_alloc_new w (.cells #[.int .u16 sp, .int .u16 dp, .int .u8 tf, .int .i64 (hN : Int), .slice da dn dc] 26)
  have L0 : Below w.heap.size w (w.alloc (.cells #[.int .u16 sp, .int .u16 dp, .int .u8 tf, .int .i64 (hN : Int), .slice da dn dc] 26)) := (Below.refl _ w).alloc (Nat.le_refl _) _
  have hs0 : (w.alloc (.cells #[.int .u16 sp, .int .u16 dp, .int .u8 tf, .int .i64 (hN : Int), .slice da dn dc] 26)).heap.size = w.heap.size + 1 := by simp
  have p1 : decide ((hN : Int) < 20) = false := decide_eq_false (by omega)
  have p2 : decide ((60 : Int) < hN) = false := decide_eq_false (by omega)
  have p3 : ((hN : Int) % 4 != 0) = false := by simp; omega
  have p4 : IntKind.i64.wrap ((hN : Int) + dn) = (hN : Int) + dn := IntWalk.i64_in _ (by omega)
  have p5 : decide ((65535 : Int) < (hN : Int) + dn) = false := decide_eq_false (by omega)
  obtain ⟨q0, q1, q2, q3, q4⟩ := tcp_cells _ _ _ _ _ _ _ bH
  go_enter Try.func11, Try.ntmps11
  go_upto_region 1 with (fail)
  generalize w.alloc (.cells #[.int .u16 sp, .int .u16 dp, .int .u8 tf, .int .i64 (hN : Int), .slice da dn dc] 26) = W0 at *
  go_wp2_with (at_make; refine wpList_make_full _ rfl _ _ 23 rfl W0.heap.size 5 i0 (.int .u8 0) 1 Try.underlying23 hi hz0 hz1 .i64 .i64 hN hN hN rfl rfl rfl rfl (by rw [hz2]; omega) (by unfold maxLen; omega) (Nat.le_refl _) ?_; intro w1 O1 g1; rw [made_zero] at O1)
  rw [hs0] at O1
  have c1 := (g1.block _ (by omega) (by simp)).trans bH
  have L1 := L0.grown g1 (by omega) (fun k e => by cases e)
  clear q0 q1 q2 q3 q4 bH L0 g1
  obtain ⟨q0, q1, q2, q3, q4⟩ := tcp_cells _ _ _ _ _ _ _ c1
  have r0 := own_cell O1 0 (by omega)
  have r1 := own_cell O1 1 (by omega)
  have t0 := O1.frozenAt 0
  have t1 := O1.frozenAt 1
  have x0 : (0 : Int) < (hN : Int) := by omega
  have x0' : 0 < hN := by omega
  have x1 : (1 : Int) < (hN : Int) := by omega
  have x2 : (2 : Int) < (hN : Int) := by omega
  have x3 : (3 : Int) < (hN : Int) := by omega
  go_region
  have O2 : ((w1.setCell ⟨w.heap.size + 1, 0, none⟩ (.int .u8 (sp / 256))).setCell ⟨w.heap.size + 1, 1, none⟩ (.int .u8 (sp % 256))).drew.ownsRow _ _ 1 _ _ _ := own_store (own_store O1 0 (sp / 256)) 1 (sp % 256)
  have c2 : ((w1.setCell ⟨w.heap.size + 1, 0, none⟩ (.int .u8 (sp / 256))).setCell ⟨w.heap.size + 1, 1, none⟩ (.int .u8 (sp % 256))).drew.heap[w.heap.size]? = _ := box_store (own_store O1 0 (sp / 256)) (box_store O1 c1 (by decide) 0 (.int .u8 (sp / 256))) (by decide) 1 (.int .u8 (sp % 256))
  have L2 : Below w.heap.size w ((w1.setCell ⟨w.heap.size + 1, 0, none⟩ (.int .u8 (sp / 256))).setCell ⟨w.heap.size + 1, 1, none⟩ (.int .u8 (sp % 256))).drew := ((L1.setCell (p := ⟨w.heap.size + 1, 0, none⟩) (by simp) (.int .u8 (sp / 256))).setCell (p := ⟨w.heap.size + 1, 1, none⟩) (by simp) (.int .u8 (sp % 256))).drew
  clear q0 q1 q2 q3 q4 r0 r1 t0 t1 O1 c1 L1
  generalize ((w1.setCell ⟨w.heap.size + 1, 0, none⟩ (.int .u8 (sp / 256))).setCell ⟨w.heap.size + 1, 1, none⟩ (.int .u8 (sp % 256))).drew = w2 at *
  obtain ⟨q0, q1, q2, q3, q4⟩ := tcp_cells _ _ _ _ _ _ _ c2
  have r0 := own_cell O2 2 (by omega)
  have r1 := own_cell O2 3 (by omega)
  have t0 := O2.frozenAt 2
  have t1 := O2.frozenAt 3
  go_wp2
  go_region
  have O3 : ((w2.setCell ⟨w.heap.size + 1, 2, none⟩ (.int .u8 (dp / 256))).setCell ⟨w.heap.size + 1, 3, none⟩ (.int .u8 (dp % 256))).drew.ownsRow _ _ 1 _ _ _ := own_store (own_store O2 2 (dp / 256)) 3 (dp % 256)
  have c3 : ((w2.setCell ⟨w.heap.size + 1, 2, none⟩ (.int .u8 (dp / 256))).setCell ⟨w.heap.size + 1, 3, none⟩ (.int .u8 (dp % 256))).drew.heap[w.heap.size]? = _ := box_store (own_store O2 2 (dp / 256)) (box_store O2 c2 (by decide) 2 (.int .u8 (dp / 256))) (by decide) 3 (.int .u8 (dp % 256))
  have L3 : Below w.heap.size w ((w2.setCell ⟨w.heap.size + 1, 2, none⟩ (.int .u8 (dp / 256))).setCell ⟨w.heap.size + 1, 3, none⟩ (.int .u8 (dp % 256))).drew := ((L2.setCell (p := ⟨w.heap.size + 1, 2, none⟩) (by simp) (.int .u8 (dp / 256))).setCell (p := ⟨w.heap.size + 1, 3, none⟩) (by simp) (.int .u8 (dp % 256))).drew
  clear q0 q1 q2 q3 q4 r0 r1 t0 t1 O2 c2 L2
  generalize ((w2.setCell ⟨w.heap.size + 1, 2, none⟩ (.int .u8 (dp / 256))).setCell ⟨w.heap.size + 1, 3, none⟩ (.int .u8 (dp % 256))).drew = w3 at *
  obtain ⟨q0, q1, q2, q3, q4⟩ := tcp_cells _ _ _ _ _ _ _ c3
  have r0 := own_cell O3 12 (by omega)
  have r1 := own_cell O3 13 (by omega)
  have t0 := O3.frozenAt 12
  have t1 := O3.frozenAt 13
  have x12 : (12 : Int) < (hN : Int) := by omega
  have x13 : (13 : Int) < (hN : Int) := by omega
  have y1 : (hN : Int).tdiv 4 = (hN : Int) / 4 := Int.tdiv_eq_ediv_of_nonneg (by omega)
  have y2 : IntKind.u8.wrap ((hN : Int) / 4 * 16) = (hN : Int) / 4 * 16 := IntWalk.u8_in _ (by omega)
  go_upto_region 8 with (fail)
  have O4 : ((w3.setCell ⟨w.heap.size + 1, 12, none⟩ (.int .u8 ((hN : Int) / 4 * 16))).setCell ⟨w.heap.size + 1, 13, none⟩ (.int .u8 tf)).ownsRow _ _ 1 _ _ _ := own_store (own_store O3 12 ((hN : Int) / 4 * 16)) 13 tf
  rw [HE.out] at O4
  have c4 : ((w3.setCell ⟨w.heap.size + 1, 12, none⟩ (.int .u8 ((hN : Int) / 4 * 16))).setCell ⟨w.heap.size + 1, 13, none⟩ (.int .u8 tf)).heap[w.heap.size]? = _ := box_store (own_store O3 12 ((hN : Int) / 4 * 16)) (box_store O3 c3 (by decide) 12 (.int .u8 ((hN : Int) / 4 * 16))) (by decide) 13 (.int .u8 tf)
  have L4 : Below w.heap.size w ((w3.setCell ⟨w.heap.size + 1, 12, none⟩ (.int .u8 ((hN : Int) / 4 * 16))).setCell ⟨w.heap.size + 1, 13, none⟩ (.int .u8 tf)) := (L3.setCell (p := ⟨w.heap.size + 1, 12, none⟩) (by simp) (.int .u8 ((hN : Int) / 4 * 16))).setCell (p := ⟨w.heap.size + 1, 13, none⟩) (by simp) (.int .u8 tf)
  clear q0 q1 q2 q3 q4 r0 r1 t0 t1 O3 c3 L3
  generalize ((w3.setCell ⟨w.heap.size + 1, 12, none⟩ (.int .u8 ((hN : Int) / 4 * 16))).setCell ⟨w.heap.size + 1, 13, none⟩ (.int .u8 tf)) = w4 at *
  obtain ⟨q0, q1, q2, q3, q4⟩ := tcp_cells _ _ _ _ _ _ _ c4
  have hbl : (thead sp dp tf hN ++ ps).length = hN + dn := by rw [List.length_append, thead_length, HL.out, Int.toNat_natCast]
  have hin : In 255 (thead sp dp tf hN ++ ps) := by
    intro x hx
    rcases List.mem_append.1 hx with h | h
    · exact thead_in HH.out ⟨by omega, by omega⟩ x h
    · exact row_in HP.out x h
  have TP := Lib.hid (show tput s d sp dp tf hN ps = ((thead sp dp tf hN ++ ps).set 16 ((65535 - sumOf (psOf s d (hN + dn : Nat) ++ (thead sp dp tf hN ++ ps))) / 256)).set 17 ((65535 - sumOf (psOf s d (hN + dn : Nat) ++ (thead sp dp tf hN ++ ps))) % 256) by unfold tput tsum; rw [hbl])
  have HBL := Lib.hid hbl
  have HIN := Lib.hid hin
  clear hbl hin
  have HB : w.heap.size + 1 ≤ w4.heap.size := by have h := (O4.lt (w.heap.size + 1) rfl).2; omega
  go_wp2_with (first
    | (at_builtin; refine wpList_append_row _ rfl (.tmp 69) (.tmp 71) 23 rfl (w.heap.size + 1) 5 i0 (.int .u8 0) 1 Try.underlying23 hi hz0 hz1 hz2 rfl _ hN _ rfl O4 .u8 w.heap.size da dn dc ps rfl HL.out (HP.out.below L4) HZ.out (by unfold maxLen; omega) (by omega) (by omega) ?_; intro v6 w6 O6 g6; rw [← List.map_append] at O6; obtain ⟨g, cap6, rfl, hb6⟩ := own_form O6 (by omega); have L6 := L4.grown g6 (by omega) (fun k e => by have := (O4.lt k e).1; omega)))
  have hck := cr_in (tot (words (psOf s d (hN + dn : Nat) ++ (thead sp dp tf hN ++ ps))))
  generalize thead sp dp tf hN ++ ps = bd at *
  have HPL := Lib.hid (show (psOf s d (hN + dn : Nat) ++ bd).length = 12 + (hN + dn) by rw [List.length_append, psOf_length, HBL.out])
  obtain ⟨ck, hk⟩ : ∃ k, 65535 - sumOf (psOf s d (hN + dn : Nat) ++ bd) = k := ⟨_, rfl⟩
  have hkb : 0 ≤ ck ∧ ck ≤ 65535 := by unfold sumOf at hk; omega
  rw [hk] at TP
  have HK := Lib.hid hk
  clear hk hck q0 q1 q2 q3 q4 c4 O4 L4 g6
  have HPI := Lib.hid (in_wf8 (psOf_in hs hd' ((hN + dn : Nat) : Int)))
  have O6' : w6.ownsRow (w.heap.size + 1) 5 1 (.slice (some ⟨g, 0, none⟩) (hN + dn) cap6) (hN + dn) (bd.map (Value.int .u8)) := O6
  clear O6
  go_upto_region 10 with (first
    | (go_at_call 15; refine (rpseudo_any s d _ hs hd' w6).mono ?_; rintro e w7 ⟨A7, c7, rfl, O7, m7⟩; have L7 := L6.trans (m7.mono L6.size); have P7 := own_below O6' m7)
    | (at_builtin; refine wpList_append_row _ rfl (.tmp 77) (.tmp 78) 23 rfl w6.heap.size 5 i0 (.int .u8 0) 1 Try.underlying23 hi hz0 hz1 hz2 rfl _ 12 _ rfl O7 .u8 w7.heap.size (some ⟨g, 0, none⟩) (hN + dn) cap6 bd rfl HBL.out (Row.of_own P7 (in_wf8 HIN.out)) (fun h => by cases h) (by unfold maxLen; omega) (by omega) m7.size ?_; intro v8 w8 O8 g8; rw [← List.map_append] at O8; obtain ⟨A8, c8, rfl⟩ := own_slice O8; have L8 := L7.grown g8 L7.size (fun k e => by have := (O7.lt k e).1; have := L6.size; omega); have P8 := P7.kept g8 (.inr (fun e => by have := (O7.lt g e.symm).1; have := (O6'.lt g rfl).2; omega)))
    | (go_at_call 28; refine (rcheck_any A8 (12 + (hN + dn)) c8 (psOf s d (hN + dn : Nat) ++ bd) HPL.out (by omega) w8 (Row.of_own O8 (fun x hx => (List.mem_append.1 hx).elim (HPI.out x) (fun h => in_wf8 HIN.out x h)))).mono ?_; rintro e w9 ⟨he, m9⟩; rw [HK.out] at he; subst he; have L9 := L8.trans (m9.mono L8.size); have P9 := own_below P8 m9))
  clear O6' O7 O8 P7 P8 g8 L6 L7 L8 m7 m9
  have r0 := own_cell P9 16 (by omega)
  have r1 := own_cell P9 17 (by omega)
  have t0 := P9.frozenAt 16
  have t1 := P9.frozenAt 17
  have x16 : (16 : Int) < ((hN + dn : Nat) : Int) := by omega
  have x17 : (17 : Int) < ((hN + dn : Nat) : Int) := by omega
  have x16' : (16 : Int) < (hN : Int) + dn := by omega
  have x17' : (17 : Int) < (hN : Int) + dn := by omega
  go_wp2
  have O10 : ((w9.setCell ⟨g, 16, none⟩ (.int .u8 (ck / 256))).setCell ⟨g, 17, none⟩ (.int .u8 (ck % 256))).ownsRow _ _ 1 _ _ _ := own_store (own_store P9 16 (ck / 256)) 17 (ck % 256)
  have L10 : Below w.heap.size w ((w9.setCell ⟨g, 16, none⟩ (.int .u8 (ck / 256))).setCell ⟨g, 17, none⟩ (.int .u8 (ck % 256))) := ((L9.setCell (p := ⟨g, 16, none⟩) (by show w.heap.size ≤ g; omega) (.int .u8 (ck / 256))).setCell (p := ⟨g, 17, none⟩) (by show w.heap.size ≤ g; omega) (.int .u8 (ck % 256)))
  clear r0 r1 t0 t1 P9 L9
  generalize ((w9.setCell ⟨g, 16, none⟩ (.int .u8 (ck / 256))).setCell ⟨g, 17, none⟩ (.int .u8 (ck % 256))) = w10 at *
  go_ret2
  unfold TPutN
  rw [TP.out]
  exact ⟨_, _, rfl, own_base O10 (by omega), L10⟩

set_option maxRecDepth 100000 in
set_option maxHeartbeats 2000000 in
theorem refTcpPut_no (s d : Int) (sp dp tf hd : Int) (da : Option Addr) (dn dc : Nat) (hh : -9223372036854775808 ≤ hd ∧ hd ≤ 9223372036854775807) (_ : dn ≤ 281474976710656) (hm : mayB hd dn = false) (w : World) :
    Calls Try.prog 11 #[.int .u32 s, .int .u32 d, .agg #[.int .u16 sp, .int .u16 dp, .int .u8 tf, .int .i64 hd, .slice da dn dc]] w fun e w' => e = .returned (.tuple #[.slice none 0 0, .bool false]) ∧ Below w.heap.size w w' := by
  have L0 : Below w.heap.size w (w.alloc (.cells #[.int .u16 sp, .int .u16 dp, .int .u8 tf, .int .i64 hd, .slice da dn dc] 26)) := (Below.refl _ w).alloc (Nat.le_refl _) _
  have hm2 : ¬ (20 ≤ hd ∧ hd ≤ 60 ∧ hd % 4 = 0 ∧ hd + dn ≤ 65535) := of_decide_eq_false hm
  clear hm
  by_cases h1 : hd < 20
  · have p1 : decide (hd < 20) = true := decide_eq_true h1
    go_enter Try.func11, Try.ntmps11
    go_wp2
    go_ret2
    exact ⟨rfl, L0⟩
  have p1 : decide (hd < 20) = false := decide_eq_false h1
  by_cases h2 : 60 < hd
  · have p2 : decide (60 < hd) = true := decide_eq_true h2
    go_enter Try.func11, Try.ntmps11
    go_wp2
    go_ret2
    exact ⟨rfl, L0⟩
  have p2 : decide (60 < hd) = false := decide_eq_false h2
  have ht : hd.tmod 4 = hd % 4 := Int.tmod_eq_emod_of_nonneg (by omega)
  by_cases h3 : hd % 4 = 0
  · have p3 : (hd % 4 != 0) = false := by simp [h3]
    have p4 : IntKind.i64.wrap (hd + dn) = hd + dn := IntWalk.i64_in _ (by omega)
    have p5 : decide (65535 < hd + dn) = true := decide_eq_true (by omega)
    go_enter Try.func11, Try.ntmps11
    go_wp2
    go_ret2
    exact ⟨rfl, L0⟩
  · have p3 : (hd % 4 != 0) = true := by simp [h3]
    go_enter Try.func11, Try.ntmps11
    go_wp2
    go_ret2
    exact ⟨rfl, L0⟩
end Go.Proofs.Ytclofmgnnohhpaa
