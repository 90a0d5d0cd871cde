/- 'handfastlaw05.PacketBack' returns true at every tuple, flags, data and number, and leaves what lay as it lay. -/
import Derived.Test.YtnncmcfonkhckaaDoorPkQ
import Derived.Test.YtnncmcfonkhckaaDoorPkCore
import Derived.Test.YtnncmcfonkhckaaDoorCore
namespace Go.Proofs.YtnncmcfonkhckaaDoor
open Go.RowKit Go.Shelf
open SumM

theorem kz_same (w : World) : Calls Tryd.prog 12 #[.agg #[.int .u32 0, .int .u32 0, .int .u16 0, .int .u16 0, .int .u8 0, .slice none 0 0], .agg #[.int .u32 0, .int .u32 0, .int .u16 0, .int .u16 0, .int .u8 0, .slice none 0 0]] w fun e w' => e = .returned (.bool true) ∧ Below w.heap.size w w' := by
  have h := refPkSame_any 0 0 0 0 0 none 0 0 0 0 0 0 0 none 0 0 [] [] w.heap.size w.heap.size w (Nat.le_refl _) (Nat.le_refl _) (Row.nil _ _ _ _) rfl (Row.nil _ _ _ _) rfl
  rwa [pkB_same] at h

set_option maxRecDepth 100000 in
set_option maxHeartbeats 16000000 in
theorem pkBack_walk (ts td tp tq : Int) (uf : Int) (da : Option Addr) (dn dc : Nat) (z2 : List Int) (bit : Int) (w : World) (hT : Wid w ∧ 0 < w.heap.size) (H : UNums ts td tp tq) (hf : (Lit.int .u8 uf).wf = true) (w2 : IsRow .u8 w da dn dc z2) (w3 : (Lit.int .i64 bit).wf = true) :
    Calls Tryd.prog 4 #[.agg #[.int .u32 ts, .int .u32 td, .int .u16 tp, .int .u16 tq], .int .u8 uf, .slice da dn dc, .int .i64 bit] w fun e w' => e = .returned (.bool true) ∧ Below w.heap.size w w' := by
  obtain ⟨hrd, hdl, hdn, hld, hmd⟩ := w2.row
  generalize z2.take dn = ps at *
  unfold maxLen at hmd
  have hk := wf_u8.1 hf
  have hbt := wf_i64.1 w3
  have bU := heap_alloc_new w (.cells #[.int .u32 ts, .int .u32 td, .int .u16 tp, .int .u16 tq] 26)
  have L0 := (Below.refl w.heap.size w).alloc (Nat.le_refl _) (.cells #[.int .u32 ts, .int .u32 td, .int .u16 tp, .int .u16 tq] 26)
  have PI := Lib.hid (row_in hrd)
  have HDL := Lib.hid hdl
  have HDN := Lib.hid hdn
  have HH := Lib.hid (And.intro H hk)
  have HTN : Hid (TNums tp tq uf) := Lib.hid ⟨H.h3, H.h4, hk⟩
  have RD := Lib.hid (fun W (m : Below w.heap.size w W) => (hrd.below m).more m.size)
  have TT := Lib.hid (fun W (m : Below w.heap.size w W) => And.intro (hT.1.below hT.2 m) (Nat.lt_of_lt_of_le hT.2 m.size))
  have TW := Lib.hid (fun W (m : Below w.heap.size w W) => kwakes_any W (TT.out W m).2 (TT.out W m).1)
  obtain ⟨q0, q1, q2, q3⟩ := tup_cells _ _ _ _ bU
  clear hrd hdl hdn hT w2 w3 H hk hf
  by_cases hbig : 3000 < dn
  · have p1 : decide ((3000 : Int) < (dn : Int)) = true := decide_eq_true (by omega)
    clear bU
    go_enter Tryd.func4, Tryd.ntmps4
    go_upto_region 1 with (fail)
    generalize w.alloc (.cells #[.int .u32 ts, .int .u32 td, .int .u16 tp, .int .u16 tq] 26) = W0 at *
    go_wp2_with (go_at_call 7; (with_reducible refine (TW.out _ L0).mono ?_); rintro e w3 ⟨rfl, m3⟩)
    go_ret
    exact ⟨rfl, L0.trans (m3.mono L0.size)⟩
  have p1 : decide ((3000 : Int) < (dn : Int)) = false := decide_eq_false (by omega)
  have hd65 : ps.length ≤ 65495 := by have := HDL.out; omega
  have HF := Lib.hid (mk_facts HH.out.1.h1 HH.out.1.h2 HTN.out PI.out hd65)
  have HW0 := Lib.hid (pkwhy_mk HH.out.1.h1 HH.out.1.h2 HTN.out PI.out hd65)
  have HSG := Lib.hid (tput_seg (s := ts) (d := td) (ps := ps) HTN.out (mayB_yes (hd := 20) ⟨by omega, by omega, by omega, by omega⟩))
  have HBIT := Lib.hid (fun p hp1 hp2 v hv0 k hk hv => pkwhy_bit HH.out.1.h1 HH.out.1.h2 HTN.out PI.out hd65 p hp1 hp2 v hv0 k hk hv)
  go_enter Tryd.func4, Tryd.ntmps4
  go_upto_region 1 with (fail)
  generalize w.alloc (.cells #[.int .u32 ts, .int .u32 td, .int .u16 tp, .int .u16 tq] 26) = W0 at *
  go_wp2_with (fail)
  refine (pkMake_any ts td tp tq uf da dn dc ps HH.out.1 HH.out.2 (by omega) W0 (TT.out _ L0).2 (TT.out _ L0).1 (RD.out _ L0) HDL.out HDN.out).mono ?_
  rintro e w1 ⟨A1, ln, c1, rfl, hz1, R1, hn1, hc1, hcm1, m1⟩
  have hmz : mkZ ts td tp tq uf ps = mkB ts td tp tq uf ps := by unfold mkZ; rw [if_pos (by omega)]
  rw [hmz] at hz1 R1
  rw [show decide (40 + ps.length ≤ 65535) = true from decide_eq_true (by omega)]
  have hln : ln = 40 + dn := by rw [← hz1, HF.out.1, HDL.out]
  have HLN := Lib.hid hln
  have L1 := L0.trans (m1.mono L0.size)
  have bU1 := (m1.block _ (Array.getElem?_eq_some_iff.1 bU).1).trans bU
  have BS : ∃ l, mkB ts td tp tq uf ps = l := ⟨_, rfl⟩
  obtain ⟨bs, hbs⟩ := BS
  rw [hbs] at hz1 R1 HF HW0 HBIT
  have HLE := Lib.hid hz1
  have RB := Lib.hid (fun W (m : Below w1.heap.size w1 W) => (R1.below m).more m.size)
  have hln40 : 40 ≤ ln := by omega
  have hlnb : ln ≤ 3040 := by omega
  obtain ⟨b, off, rfl, hbb, _⟩ := R1.2 (by rw [HLE.out]; omega)
  clear bU hz1 R1 hn1 hbs hmz hln m1 L0 q0 q1 q2 q3
  go_wp2_with (fail)
  refine (pkParse_yes (some ⟨b, off, none⟩) ln c1 bs HLE.out hc1 hcm1 (by omega) w1 (TT.out _ L1).2 (TT.out _ L1).1 (RB.out _ (Below.refl _ _)) HW0.out).mono ?_
  rw [HF.out.2.2.1, HF.out.2.2.2.2.1, HF.out.2.2.2.2.2.1, HF.out.2.2.2.2.2.2.1, HSG.out.1, HSG.out.2.1, HSG.out.2.2.1]
  rintro e w2 ⟨A2, c2, rfl, o2, m2⟩
  have R2 := Row.of_own o2 (in_wf8 HF.out.2.2.2.2.2.2.2.2)
  have L2 := L1.trans (m2.mono L1.size)
  have k3 := m2.alloc m2.size (.cells #[.int .u32 ts, .int .u32 td, .int .u16 tp, .int .u16 tq, .int .u8 uf, .slice A2 ln c2] 28)
  have bP := heap_alloc_new w2 (.cells #[.int .u32 ts, .int .u32 td, .int .u16 tp, .int .u16 tq, .int .u8 uf, .slice A2 ln c2] 28)
  have L3 := L2.alloc L2.size (.cells #[.int .u32 ts, .int .u32 td, .int .u16 tp, .int .u16 tq, .int .u8 uf, .slice A2 ln c2] 28)
  have RP3 := Lib.hid (R2.allocS (.cells #[.int .u32 ts, .int .u32 td, .int .u16 tp, .int .u16 tq, .int .u8 uf, .slice A2 ln c2] 28))
  have bU3 := (k3.block _ (Array.getElem?_eq_some_iff.1 bU1).1).trans bU1
  clear o2 m2 R2 L2 L1 bU1
  go_upto_region 5 with (fail)
  generalize w2.alloc (.cells #[.int .u32 ts, .int .u32 td, .int .u16 tp, .int .u16 tq, .int .u8 uf, .slice A2 ln c2] 28) = w3 at *
  generalize w2.heap.size = bp at *
  obtain ⟨q0, q1, q2, q3⟩ := tup_cells _ _ _ _ bU3
  obtain ⟨x0, x1, x2, x3, x4, x5⟩ := pk_cells _ _ _ _ _ _ _ _ bP
  have hne : ((ln : Int) != 40 + (dn : Int)) = false := by have := HLN.out; simp; omega
  have E1 : ∀ W, (Go.binOp .neq 26 (.agg #[.int .u32 ts, .int .u32 td, .int .u16 tp, .int .u16 tq]) (.agg #[.int .u32 ts, .int .u32 td, .int .u16 tp, .int .u16 tq])).run Tryd.prog W = .ok (.bool false) W := fun W => by
    have h := run_neU ts td tp tq ts td tp tq W
    rwa [eqU_same] at h
  have e2 : (uf != uf) = false := by simp
  have g1 : (40 : Int) ≤ (c1 : Int) := by omega
  have g2 : (40 : Int) ≤ (ln : Int) := by omega
  have AD : ∃ ad : Option Addr, (if c1 = 40 then some (⟨b, off, none⟩ : Addr) else some ⟨b, off + 40, none⟩) = ad := ⟨_, rfl⟩
  obtain ⟨ad, hAD⟩ := AD
  have RDD := Lib.hid (show Row .u8 w3.heap.size w3 ad ps from by
    have h := (RB.out w3 k3).dropIf 40 (c := c1 = 40) (fun h => List.eq_nil_of_length_eq_zero (by have h2 := HLE.out; simp; omega))
    rw [hAD, HF.out.2.2.2.2.2.2.2.1] at h
    exact h)
  have K1 := Lib.hid (show Calls Tryd.prog 13 #[.slice A2 ln c2, .slice (some ⟨b, off, none⟩) ln c1] w3 fun e w' => e = .returned (.bool true) ∧ w3 = w' from by
    have h := law5Same_any A2 ln c2 bs (some ⟨b, off, none⟩) ln c1 bs _ _ w3 RP3.out HLE.out (RB.out w3 k3) HLE.out
    rwa [show eqB bs bs = true from eqB_true.2 rfl] at h)
  have hsub : ((ln : Int) - 40).toNat = dn := by have := HLN.out; omega
  have hsub2 : ln - 40 = dn := by have := HLN.out; omega
  have K2 := Lib.hid (show Calls Tryd.prog 13 #[.slice ad dn (c1 - 40), .slice da dn dc] w3 fun e w' => e = .returned (.bool true) ∧ w3 = w' from by
    have h := law5Same_any ad dn (c1 - 40) ps da dn dc ps _ _ w3 RDD.out HDL.out (RD.out w3 L3) HDL.out
    rwa [show eqB ps ps = true from eqB_true.2 rfl] at h)
  go_upto_region 7 with (first
    | (go_at_call 13; (with_reducible refine K1.out.mono ?_); rintro e v1 ⟨rfl, rfl⟩)
    | (go_at_call 13; (with_reducible refine K2.out.mono ?_); rintro e v1 ⟨rfl, rfl⟩))
  clear hne E1 e2 g1 g2 hsub hsub2 hAD K1 K2 RDD q0 q1 q2 q3 x0 x1 x2 x3 x4 x5 bU3 bP RP3
  obtain ⟨i0, hi, hz0, hz1, hz2⟩ := info_parts Tryd.infoU8
  obtain ⟨N, hNN⟩ : ∃ N : Nat, 8 * ln - 8 = N := ⟨_, rfl⟩
  obtain ⟨m', q, hq1, hq2, hq3, hq4, hq⟩ := at_mod bit N (by omega) (by omega)
  have hNi : 8 * (ln : Int) - 8 = (N : Int) := by omega
  have hqp : q / 8 + 1 < ln := by omega
  have hNb : N ≤ 524280 := by omega
  have hNp : 1 ≤ N := by omega
  clear hNN
  have R4 := RB.out w3 k3
  go_upto_region 10 with (at_builtin; refine wpList_append_row _ rfl (.tmp 85) (.tmp 86) 22 rfl w3.heap.size 5 i0 (.int .u8 0) 1 Tryd.underlying22 hi hz0 hz1 hz2 rfl _ 0 [] rfl (own_built w3 w3.heap.size (Nat.le_refl _) 5 [] 0 rfl (by unfold maxLen; omega)) .u8 _ (some ⟨b, off, none⟩) ln c1 bs rfl HLE.out (R4.allocS _) (fun h => by cases h) (by unfold maxLen; omega) (by omega) (by simp) ?_; intro v5 w5 O5 g5; simp only [Nat.zero_add, List.nil_append] at O5; have M5 := ((Below.refl w3.heap.size w3).alloc (Nat.le_refl _) (.cells #[] 5)).grown g5 (by simp) (fun j hj => by cases hj; exact Nat.le_refl _); obtain ⟨g, cp, rfl, hg⟩ := own_form O5 (by omega))
  have hv1 := own_cell O5 (q / 8 + 1) (by omega)
  have hw1 := O5.frozenAt (q / 8 + 1)
  have hvb := getD_in HF.out.2.2.2.2.2.2.2.2 (by decide) (q / 8 + 1)
  go_upto_region 11 with (fail)
  have hxb := xor_u8_bit (bs[q / 8 + 1]?.getD 0) hvb.1 hvb.2 (q % 8) (by omega)
  generalize bits .xor .u8 (bs[q / 8 + 1]?.getD 0) ((2 : Int) ^ (q % 8) % 256) = V at *
  have O6 := own_store O5 (q / 8 + 1) V
  have M6 := M5.setCell (p := ⟨g, q / 8 + 1, none⟩) hg (.int .u8 V)
  have L6 := L3.trans (M6.mono L3.size)
  have C6 := own_cap O6
  have hie := in_set HF.out.2.2.2.2.2.2.2.2 (q / 8 + 1) V hxb.2
  have R6 := Row.of_own O6 (in_wf8 hie)
  have hln6 : (bs.set (q / 8 + 1) V).length = ln := by rw [List.length_set, HLE.out]
  have hy := HBIT.out (q / 8 + 1) (by omega) (by rw [← HF.out.1, HLE.out]; omega) V hxb.2 (q % 8) (by omega) hxb.1
  have hyy := pkwhy_in (bs.set (q / 8 + 1) V)
  generalize w5.setCell ⟨g, q / 8 + 1, none⟩ (.int .u8 V) = w6 at *
  clear hv1 hw1 O5 M5 g5 R4 M6 hie hvb hxb hq1 hq2 hq3 hq4 hNi hNb hNp O6 k3
  obtain ⟨y, hyd⟩ : ∃ y, pkwhy (bs.set (q / 8 + 1) V) = y := ⟨_, rfl⟩
  rw [hyd] at hy hyy
  have hq160 : (8 + (q : Int) < 160 ↔ q / 8 + 1 < 20) := by omega
  have hyn : y ≠ 0 := by
    by_cases h : q / 8 + 1 < 20
    · have := hy.1 h; omega
    · have := hy.2 (by omega); omega
  have PC := Lib.hid (fun W (m : Below w6.heap.size w6 W) => pkParse_not (some ⟨g, 0, none⟩) ln cp (bs.set (q / 8 + 1) V) hln6 C6.1 C6.2 (by omega) W (TT.out _ (L6.trans (m.mono L6.size))).2 (TT.out _ (L6.trans (m.mono L6.size))).1 ((R6.below m).more m.size) y hyd hyn)
  have t1 : decide ((0 : Int) < y) = true := decide_eq_true (by omega)
  have t2 : decide (y ≤ 9) = true := decide_eq_true (by omega)
  have hcase : (decide (8 + (q : Int) < 160) = true ∧ decide ((160 : Int) ≤ 8 + (q : Int)) = false ∧ (y == 8) = false ∧ (y == 9) = false) ∨ (decide (8 + (q : Int) < 160) = false ∧ decide ((160 : Int) ≤ 8 + (q : Int)) = true ∧ (y != 8) = false) ∨ (decide (8 + (q : Int) < 160) = false ∧ decide ((160 : Int) ≤ 8 + (q : Int)) = true ∧ (y != 8) = true ∧ (y != 9) = false) := by
    by_cases h : q / 8 + 1 < 20
    · have h2 := hy.1 h
      exact .inl ⟨decide_eq_true (by omega), decide_eq_false (by omega), by simp; omega, by simp; omega⟩
    · have h2 := hy.2 (by omega)
      rcases (show y = 8 ∨ y = 9 by omega) with h3 | h3
      · exact .inr (.inl ⟨decide_eq_false (by omega), decide_eq_true (by omega), by simp [h3]⟩)
      · exact .inr (.inr ⟨decide_eq_false (by omega), decide_eq_true (by omega), by simp [h3], by simp [h3]⟩)
  clear hy hyy hyn hyd hln6 R6 C6 hq160 hqp hq
  go_wp2_with (fail)
  refine (PC.out w6 (Below.refl _ _)).mono ?_
  rintro e w7 ⟨rfl, k7⟩
  have L7 := L6.trans (k7.mono L6.size)
  have B8 := heap_alloc_new w7 (.cells #[.int .u32 0, .int .u32 0, .int .u16 0, .int .u16 0, .int .u8 0, .slice none 0 0] 28)
  have L8 := L7.alloc L7.size (.cells #[.int .u32 0, .int .u32 0, .int .u16 0, .int .u16 0, .int .u8 0, .slice none 0 0] 28)
  clear L6 k7 PC
  go_upto_region 12 with (fail)
  generalize w7.alloc (.cells #[.int .u32 0, .int .u32 0, .int .u16 0, .int .u16 0, .int .u8 0, .slice none 0 0] 28) = w8 at *
  obtain ⟨z0, z1, z2, z3, z4, z5⟩ := pk_cells _ _ _ _ _ _ _ _ B8
  rcases hcase with ⟨c1', c2', c3', c4'⟩ | ⟨c1', c2', c3'⟩ | ⟨c1', c2', c3', c4'⟩
  all_goals
    go_wp2_with (first
      | (go_at_call 12; (with_reducible refine (kz_same w8).mono ?_); rintro e w9 ⟨rfl, k9⟩; have L9 := L8.trans (k9.mono L8.size))
      | (go_at_call 7; (with_reducible refine (TW.out _ L9).mono ?_); rintro e w10 ⟨rfl, k10⟩; have L10 := L9.trans (k10.mono L9.size)))
    go_ret
    exact ⟨rfl, L10⟩
end Go.Proofs.YtnncmcfonkhckaaDoor
