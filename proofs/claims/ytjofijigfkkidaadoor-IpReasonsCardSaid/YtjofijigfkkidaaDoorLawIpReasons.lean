/- 'handfastlaw02.IpReasons' returns true at every head and all numbers, and leaves what lay as it lay. -/
import Derived.Test.YtjofijigfkkidaaDoorIpB2
namespace Go.Proofs.YtjofijigfkkidaaDoor
open Go.RowKit
open SumM

set_option maxRecDepth 100000 in
set_option maxHeartbeats 4000000 in
theorem ipReasons_walk (sv nu fl ho pr sr ds : Int) (oa : Option Addr) (on oc : Nat) (pa : Option Addr) (pn pc : Nat) (os ps : List Int) (a1 a2 a3 : Int) (w : World) (hg : 0 < w.heap.size) (hW : Wid w) (h : IsHead w sv nu fl ho pr sr ds oa on oc pa pn pc os ps) (w1 : (Lit.int .i64 a1).wf = true) (w2 : (Lit.int .u8 a2).wf = true) (w3 : (Lit.int .u16 a3).wf = true) :
    Calls Tryd.prog 6 #[.agg #[.int .u8 sv, .int .u16 nu, .int .u16 fl, .int .u8 ho, .int .u8 pr, .int .u32 sr, .int .u32 ds, .slice oa on oc, .slice pa pn pc], .int .i64 a1, .int .u8 a2, .int .u16 a3] w fun e w' => e = .returned (.bool true) ∧ Below w.heap.size w w' := by
  obtain ⟨hN, hro, hol, hon, hoc, hrp, hpl, hpn, hpc⟩ := h
  unfold maxLen at hoc hpc
  have B1 := wf_i64.1 w1
  have B2 := wf_u8.1 w2
  have B3 := wf_u16.1 w3
  have HN := Lib.hid hN
  have HO := Lib.hid hol
  have HP := Lib.hid hpl
  have NO := Lib.hid hon
  have NP := Lib.hid hpn
  have RO := Lib.hid (fun W (m : Below w.heap.size w W) => (hro.below m).more m.size)
  have RP := Lib.hid (fun W (m : Below w.heap.size w W) => (hrp.below m).more m.size)
  have WD := Lib.hid (fun W (m : Below w.heap.size w W) => hW.below hg m)
  have GT := Lib.hid (fun W (m : Below w.heap.size w W) => Nat.lt_of_lt_of_le hg m.size)
  clear hol hpl hon hpn hN hro hrp hW w1 w2 w3
  have hH0 := heap_alloc_new w (.cells #[.int .u8 sv, .int .u16 nu, .int .u16 fl, .int .u8 ho, .int .u8 pr, .int .u32 sr, .int .u32 ds, .slice oa on oc, .slice pa pn pc] 26)
  have L0 := (Below.refl w.heap.size w).alloc (Nat.le_refl _) (.cells #[.int .u8 sv, .int .u16 nu, .int .u16 fl, .int .u8 ho, .int .u8 pr, .int .u32 sr, .int .u32 ds, .slice oa on oc, .slice pa pn pc] 26)
  have hz0 : w.heap.size < (w.alloc (.cells #[.int .u8 sv, .int .u16 nu, .int .u16 fl, .int .u8 ho, .int .u8 pr, .int .u32 sr, .int .u32 ds, .slice oa on oc, .slice pa pn pc] 26)).heap.size := by simp
  by_cases hgr : greatB on pn = true
  · have HG := Lib.hid hgr
    clear hgr
    go_enter Tryd.func6, Tryd.ntmps6
    go_wp2_with (first
      | (go_at_call 8; refine (refGreat_any sv nu fl ho pr sr ds oa on oc pa pn pc _ (by omega) (by omega)).mono ?_; rintro e w1 ⟨rfl, m1⟩; rw [HG.out]; have L1 := L0.trans (m1.mono L0.size))
      | (go_at_call 9; refine (wakes_any _ (GT.out _ L1) (WD.out _ L1)).mono ?_; rintro e w2 ⟨rfl, m2⟩))
    go_ret
    exact ⟨rfl, L1.trans (m2.mono L1.size)⟩
  have hle : on ≤ 100 ∧ pn ≤ 300 := by
    simp [greatB] at hgr
    omega
  have HG := Lib.hid (show greatB on pn = false by simpa using hgr)
  clear hgr
  by_cases hrt : rightB fl on pn = true
  rotate_left
  · have HR := Lib.hid (show rightB fl on pn = false by simpa using hrt)
    clear hrt
    go_enter Tryd.func6, Tryd.ntmps6
    go_wp2_with fail
    generalize w.alloc (.cells #[.int .u8 sv, .int .u16 nu, .int .u16 fl, .int .u8 ho, .int .u8 pr, .int .u32 sr, .int .u32 ds, .slice oa on oc, .slice pa pn pc] 26) = W0 at *
    refine (refGreat_any sv nu fl ho pr sr ds oa on oc pa pn pc _ (by omega) (by omega)).mono ?_
    rintro e w1 ⟨rfl, m1⟩
    rw [HG.out]
    have L1 := L0.trans (m1.mono L0.size)
    have hH1 := (m1.block _ hz0).trans hH0
    obtain ⟨⟨q0, q1, q2, q3, q4, q5, q6, q7, q8⟩, _⟩ := nine_cells hH1
    clear hH0 L0 m1 hz0 hH1
    go_wp2_with fail
    refine (refRight_any sv nu fl ho pr sr ds oa on oc pa pn pc _ (by omega) (by omega)).mono ?_
    rintro e w2 ⟨rfl, m2⟩
    rw [HR.out]
    have L2 := L1.trans (m2.mono L1.size)
    clear q0 q1 q2 q3 q4 q5 q6 q7 q8 m2 L1
    go_wp2_with (go_at_call 9; refine (wakes_any _ (GT.out _ L2) (WD.out _ L2)).mono ?_; rintro e w3 ⟨rfl, m3⟩)
    go_ret
    exact ⟨rfl, L2.trans (m3.mono L2.size)⟩
  have HR := Lib.hid hrt
  clear hrt
  have hon40 : on ≤ 40 := (rightB_le HR.out).1
  obtain ⟨m, j, hm1, hm2, hm3, ⟨hm4, hm5⟩, hj⟩ := at_mod a1 20 (by omega) (by omega)
  rw [show ((20 : Nat) : Int) = 20 from rfl] at hm1 hm4 hm5
  have hjz : (0 : Int) ≤ (j : Int) := by omega
  go_enter Tryd.func6, Tryd.ntmps6
  go_wp2_with fail
  generalize w.alloc (.cells #[.int .u8 sv, .int .u16 nu, .int .u16 fl, .int .u8 ho, .int .u8 pr, .int .u32 sr, .int .u32 ds, .slice oa on oc, .slice pa pn pc] 26) = W0 at *
  refine (refGreat_any sv nu fl ho pr sr ds oa on oc pa pn pc _ (by omega) (by omega)).mono ?_
  rintro e w1 ⟨rfl, m1⟩
  rw [HG.out]
  have L1 := L0.trans (m1.mono L0.size)
  have hH1 := (m1.block _ hz0).trans hH0
  have hz1 := Nat.lt_of_lt_of_le hz0 m1.size
  obtain ⟨⟨q0, q1, q2, q3, q4, q5, q6, q7, q8⟩, _⟩ := nine_cells hH1
  clear hH0 L0 m1 hz0
  go_wp2_with fail
  refine (refRight_any sv nu fl ho pr sr ds oa on oc pa pn pc _ (by omega) (by omega)).mono ?_
  rintro e w2 ⟨rfl, m2⟩
  rw [HR.out]
  have L2 := L1.trans (m2.mono L1.size)
  have hH2 := (m2.block _ hz1).trans hH1
  have hz2 := Nat.lt_of_lt_of_le hz1 m2.size
  clear q0 q1 q2 q3 q4 q5 q6 q7 q8 m2 L1 hH1 hz1
  obtain ⟨⟨q0, q1, q2, q3, q4, q5, q6, q7, q8⟩, _⟩ := nine_cells hH2
  go_wp2_with fail
  refine (put_n sv nu fl ho pr sr ds oa on oc pa pn pc os ps HN.out HR.out _ (GT.out _ L2) (WD.out _ L2) (RO.out _ L2) HO.out NO.out (RP.out _ L2) HP.out NP.out).mono ?_
  rintro e w3 ⟨A3, C3, rfl, P3, m3⟩
  have L3 := L2.trans (m3.mono L2.size)
  have hH3 := (m3.block _ hz2).trans hH2
  have hz3 := Nat.lt_of_lt_of_le hz2 m3.size
  have P3 := own_base P3 L2.size
  have PI := Lib.hid (putOf_in (sv := sv) (nu := nu) (fl := fl) (ho := ho) (pr := pr) (sr := sr) (ds := ds) (on := on) (pn := pn) (row_in (RO.out _ L3)) (row_in (RP.out _ L3)))
  have PL := Lib.hid (putOf_length os ps HN.out (rightB_le HR.out) HO.out HP.out)
  have HF := Lib.hid (putOf_flags os ps HN.out (rightB_le HR.out) HO.out a3 B3)
  obtain ⟨N, hN1, hN2, hN3⟩ : ∃ N : Nat, 20 + on + pn = N ∧ 20 + on ≤ N ∧ N ≤ 440 := ⟨_, rfl, by omega, by omega⟩
  rw [hN1] at P3 PL ⊢
  generalize hbs : putOf sv nu fl ho pr sr ds on pn os ps = bs at *
  have HBS := Lib.hid hbs
  have HN1 := Lib.hid hN1
  clear hbs hN1 q0 q1 q2 q3 q4 q5 q6 q7 q8 m3 L2 hH2 hz2
  obtain ⟨g3, rfl, hg3, hg3'⟩ := own_addr P3 (by omega)
  have c3 := own_cell P3 0 (by omega)
  have cap3 := own_cap P3
  have RB := Lib.hid (fun W (mm : Below w3.heap.size w3 W) => (Row.of_own P3 (in_wf8 PI.out)).below mm)
  have hb0 := getD_in PI.out (by decide) 0
  have CB := Lib.hid (fun W (mm : Below w3.heap.size w3 W) => (mm.cell (p := ⟨g3, 0, none⟩) hg3').trans c3)
  obtain ⟨i0, hi, hz0, hz1, hz2⟩ := info_parts Tryd.infoU8
  clear c3
  go_wp2_with fail
  refine (parse_told (bs.take j) _ j C3 (by rw [List.length_take, PL.out]; omega) (by omega) cap3.2 (by omega) w3 (GT.out _ L3) (WD.out _ L3) ((Row.of_own P3 (in_wf8 PI.out)).take j) 1 (why_few (by rw [List.length_take, PL.out]; omega))).mono ?_
  rintro e w4 ⟨s4, n4, f4, h4, p4, r4, d4, oa4, on4, oc4, pa4, pn4, pc4, rfl, m4⟩
  have SZ4 := Lib.hid (World.size_alloc w4 (.cells #[.int .u8 s4, .int .u16 n4, .int .u16 f4, .int .u8 h4, .int .u8 p4, .int .u32 r4, .int .u32 d4, .slice oa4 on4 oc4, .slice pa4 pn4 pc4] 26))
  have l4 := m4.alloc m4.size (.cells #[.int .u8 s4, .int .u16 n4, .int .u16 f4, .int .u8 h4, .int .u8 p4, .int .u32 r4, .int .u32 d4, .slice oa4 on4 oc4, .slice pa4 pn4 pc4] 26)
  have l4' := l4.alloc l4.size (.cells #[] 5)
  have b4 := m4.size
  go_wp2_with (at_builtin; refine wpList_append_row _ rfl (.tmp 51) (.tmp 52) 24 rfl (w4.heap.size + 1) 5 i0 (.int .u8 0) 1 Tryd.underlying24 hi hz0 hz1 hz2 rfl (.slice (some ⟨w4.heap.size + 1, 0, none⟩) 0 0) 0 [] rfl (own_builtAt SZ4.out (w4.heap.size + 1) (Nat.le_refl _) 5 [] 0 rfl (by unfold maxLen; omega)) .u8 w3.heap.size (some ⟨g3, 0, none⟩) N C3 bs rfl PL.out (RB.out _ l4') (fun h => by cases h) (by unfold maxLen; omega) (by omega) (by simp) ?_; intro v5 w5 S5 hgrow5; simp only [Nat.zero_add, List.nil_append] at S5; have M5 := l4'.grown hgrow5 l4'.size (fun e he => by cases he <;> exact Nat.le_succ_of_le b4); obtain ⟨g5, cp5, rfl, hg5⟩ := own_form S5 (by omega); have x5 := CB.out _ M5; have y5 := own_cell S5 0 (by omega); have z5 := S5.frozenAt 0)
  have S6 := own_store S5 0 (96 + bs[0]?.getD 0 % 16)
  have M6 := M5.setCell (p := ⟨g5, 0, none⟩) (show w3.heap.size ≤ g5 by omega) (.int .u8 (96 + bs[0]?.getD 0 % 16))
  have L6 := L3.trans (M6.mono L3.size)
  have I6 := in_set PI.out 0 (96 + bs[0]?.getD 0 % 16) (by omega)
  have cap6 := own_cap S6
  clear x5 y5 z5 S5 M5 hgrow5 l4' l4 m4
  generalize w5.setCell ⟨g5, 0, none⟩ (.int .u8 (96 + bs[0]?.getD 0 % 16)) = w6 at *
  refine (parse_told (bs.set 0 (96 + bs[0]?.getD 0 % 16)) _ N cp5 (by rw [List.length_set, PL.out]) cap6.1 cap6.2 (by omega) w6 (GT.out _ L6) (WD.out _ L6) (Row.of_own S6 (in_wf8 I6)) 2 ((why_version (by rw [PL.out]; omega) _).2 (by omega))).mono ?_
  rintro e w7 ⟨s7, n7, f7, h7, p7, r7, d7, oa7, on7, oc7, pa7, pn7, pc7, rfl, m7⟩
  have M7 := M6.trans (m7.mono M6.size)
  have SZ7 := Lib.hid (World.size_alloc w7 (.cells #[.int .u8 s7, .int .u16 n7, .int .u16 f7, .int .u8 h7, .int .u8 p7, .int .u32 r7, .int .u32 d7, .slice oa7 on7 oc7, .slice pa7 pn7 pc7] 26))
  have l7 := (M7.alloc M7.size (.cells #[.int .u8 s7, .int .u16 n7, .int .u16 f7, .int .u8 h7, .int .u8 p7, .int .u32 r7, .int .u32 d7, .slice oa7 on7 oc7, .slice pa7 pn7 pc7] 26))
  have l7' := l7.alloc l7.size (.cells #[] 5)
  have b7 := M7.size
  clear S6 L6 I6 cap6 m7 M6
  go_wp2_with (at_builtin; refine wpList_append_row _ rfl (.tmp 66) (.tmp 67) 24 rfl (w7.heap.size + 1) 5 i0 (.int .u8 0) 1 Tryd.underlying24 hi hz0 hz1 hz2 rfl (.slice (some ⟨w7.heap.size + 1, 0, none⟩) 0 0) 0 [] rfl (own_builtAt SZ7.out (w7.heap.size + 1) (Nat.le_refl _) 5 [] 0 rfl (by unfold maxLen; omega)) .u8 w3.heap.size (some ⟨g3, 0, none⟩) N C3 bs rfl PL.out (RB.out _ l7') (fun h => by cases h) (by unfold maxLen; omega) (by omega) (by simp) ?_; intro v8 w8 S8 hgrow8; simp only [Nat.zero_add, List.nil_append] at S8; have M8 := l7'.grown hgrow8 l7'.size (fun e he => by cases he <;> exact Nat.le_succ_of_le b7); obtain ⟨g8, cp8, rfl, hg8⟩ := own_form S8 (by omega); have y8 := own_cell S8 0 (by omega); have z8 := S8.frozenAt 0)
  have S9 := own_store S8 0 (64 + a2 % 16)
  have M9 := M8.setCell (p := ⟨g8, 0, none⟩) (show w3.heap.size ≤ g8 by omega) (.int .u8 (64 + a2 % 16))
  have L9 := L3.trans (M9.mono L3.size)
  have I9 := in_set PI.out 0 (64 + a2 % 16) (by omega)
  have cap9 := own_cap S9
  clear y8 z8 S8 M8 hgrow8 l7' l7 M7
  generalize w8.setCell ⟨g8, 0, none⟩ (.int .u8 (64 + a2 % 16)) = w9 at *
  have hy := why_words (bs := bs) (by rw [PL.out]; omega) (a2 % 16) (by omega)
  rw [PL.out] at hy
  have hyi := why_in (bs.set 0 (64 + a2 % 16))
  obtain ⟨Y, hY⟩ : ∃ Y, whyOf (bs.set 0 (64 + a2 % 16)) = Y := ⟨_, rfl⟩
  rw [hY] at hy hyi
  refine (parse_told (bs.set 0 (64 + a2 % 16)) _ N cp8 (by rw [List.length_set, PL.out]) cap9.1 cap9.2 (by omega) w9 (GT.out _ L9) (WD.out _ L9) (Row.of_own S9 (in_wf8 I9)) Y hY).mono ?_
  rintro e w10 ⟨s10, n10, f10, h10, p10, r10, d10, oa10, on10, oc10, pa10, pn10, pc10, rfl, m10⟩
  have M10 := M9.trans (m10.mono M9.size)
  have key : ((Y == 3) = true ∧ decide (a2 % 16 * 4 < 20) = true) ∨ ((Y == 3) = true ∧ decide (a2 % 16 * 4 < 20) = false ∧ decide ((N : Int) < a2 % 16 * 4) = true) ∨ ((Y == 3) = false ∧ decide (a2 % 16 * 4 < 20) = false ∧ decide ((N : Int) < a2 % 16 * 4) = false) := by
    simp only [beq_iff_eq, decide_eq_true_eq, decide_eq_false_iff_not, beq_eq_false_iff_ne]
    omega
  have HY := Lib.hid hY
  clear hy hY S9 L9 I9 cap9 m10 M9
  have SZ10 := Lib.hid (World.size_alloc w10 (.cells #[.int .u8 s10, .int .u16 n10, .int .u16 f10, .int .u8 h10, .int .u8 p10, .int .u32 r10, .int .u32 d10, .slice oa10 on10 oc10, .slice pa10 pn10 pc10] 26))
  have l10 := (M10.alloc M10.size (.cells #[.int .u8 s10, .int .u16 n10, .int .u16 f10, .int .u8 h10, .int .u8 p10, .int .u32 r10, .int .u32 d10, .slice oa10 on10 oc10, .slice pa10 pn10 pc10] 26))
  have l10' := l10.alloc l10.size (.cells #[] 5)
  have b10 := M10.size
  have e8 : IntKind.u8.wrap a3 = a3 % 256 := IntKind.wrap_u8 a3
  have E8 := Lib.hid e8
  clear e8 M10
  have hy6 := Lib.hid (why_put os ps (sv := sv) (nu := nu) (fl := a3) (ho := ho) (pr := pr) (sr := sr) (ds := ds) (on := on) (pn := pn) ⟨HN.out.hsv, HN.out.hnu, B3, HN.out.hho, HN.out.hpr, HN.out.hsr, HN.out.hds⟩ (rightB_le HR.out) HO.out HP.out)
  have QB := Lib.hid (fun W (mm : Below w3.heap.size w3 W) => (mm.cell (p := ⟨w.heap.size, 7, none⟩) hz3).trans (nine_cells hH3).1.2.2.2.2.2.2.2.1)
  obtain ⟨qs, hq1, hq2⟩ := HF.out
  have HQ1 := Lib.hid hq1
  have HQ2 := Lib.hid hq2
  have QI := Lib.hid (show In 255 qs by rw [hq1]; exact in_set (in_set (in_set (in_set PI.out _ _ (by omega)) _ _ (by omega)) _ _ (by omega)) _ _ (by omega))
  have QL := Lib.hid (show qs.length = N by rw [hq1]; simp [PL.out])
  obtain ⟨K, hK⟩ : ∃ K, 65535 - sumOf (qs.take (20 + on)) = K := ⟨_, rfl⟩
  have hKi : 0 ≤ K ∧ K ≤ 65535 := by
    have := cr_in (tot (words (qs.take (20 + on))))
    rw [← hK]
    unfold sumOf
    omega
  have HK := Lib.hid hK
  clear hq1 hq2 hK
  rcases key with ⟨e1, e2⟩ | ⟨e1, e2, e3⟩ | ⟨e1, e2, e3⟩
  all_goals
    go_wp2_with (at_builtin; refine wpList_append_row _ rfl (.tmp 102) (.tmp 103) 24 rfl (w10.heap.size + 1) 5 i0 (.int .u8 0) 1 Tryd.underlying24 hi hz0 hz1 hz2 rfl (.slice (some ⟨w10.heap.size + 1, 0, none⟩) 0 0) 0 [] rfl (own_builtAt SZ10.out (w10.heap.size + 1) (Nat.le_refl _) 5 [] 0 rfl (by unfold maxLen; omega)) .u8 w3.heap.size (some ⟨g3, 0, none⟩) N C3 bs rfl PL.out (RB.out _ l10') (fun h => by cases h) (by unfold maxLen; omega) (by omega) (by simp) ?_; intro v11 w11 S11 hgrow11; simp only [Nat.zero_add, List.nil_append] at S11; have M11 := l10'.grown hgrow11 l10'.size (fun e he => by cases he <;> exact Nat.le_succ_of_le b10); obtain ⟨g11, cp11, rfl, hg11⟩ := own_form S11 (by omega); have hcp := own_cap S11; have x1 := own_cell S11 6 (by omega); have y1 := S11.frozenAt 6; have S12 := own_store S11 6 (a3 / 256); have x2 := own_cell S12 7 (by omega); have y2 := S12.frozenAt 7; have S13 := own_store S12 7 (a3 % 256); have x3 := own_cell S13 10 (by omega); have y3 := S13.frozenAt 10; have S14 := own_store S13 10 0; have x4 := own_cell S14 11 (by omega); have y4 := S14.frozenAt 11; have e8 := E8.out; have q7 := QB.out _ M11)
    have S15 := own_store S14 11 0
    rw [← HQ1.out] at S15
    have M15 := (((M11.setCell (p := ⟨g11, 6, none⟩) (show w3.heap.size ≤ g11 by omega) (.int .u8 (a3 / 256))).setCell (p := ⟨g11, 7, none⟩) (show w3.heap.size ≤ g11 by omega) (.int .u8 (a3 % 256))).setCell (p := ⟨g11, 10, none⟩) (show w3.heap.size ≤ g11 by omega) (.int .u8 0)).setCell (p := ⟨g11, 11, none⟩) (show w3.heap.size ≤ g11 by omega) (.int .u8 0)
    clear x1 x2 x3 x4 y1 y2 y3 y4 S11 S12 S13 S14 M11 hgrow11 e8 q7
    generalize (((w11.setCell ⟨g11, 6, none⟩ (.int .u8 (a3 / 256))).setCell ⟨g11, 7, none⟩ (.int .u8 (a3 % 256))).setCell ⟨g11, 10, none⟩ (.int .u8 0)).setCell ⟨g11, 11, none⟩ (.int .u8 0) = w15 at *
    refine (rcheck_any _ (20 + on) cp11 (qs.take (20 + on)) (by rw [List.length_take, QL.out]; omega) (by omega) _ ((Row.of_own S15 (in_wf8 QI.out)).take _)).mono ?_
    rintro e w16 ⟨rfl, m16⟩
    rw [HK.out]
    have S16 := own_below S15 m16
    have M16 := M15.trans (m16.mono M15.size)
    clear S15 M15 m16
    have x1 := own_cell S16 10 (by omega)
    have y1 := S16.frozenAt 10
    have S17 := own_store S16 10 (K / 256)
    have x2 := own_cell S17 11 (by omega)
    have y2 := S17.frozenAt 11
    have e9 : IntKind.u8.wrap K = K % 256 := IntKind.wrap_u8 K
    go_wp2_with fail
    have S18 := own_store S17 11 (K % 256)
    rw [← HK.out, HQ2.out] at S18
    have M18 := (M16.setCell (p := ⟨g11, 10, none⟩) (show w3.heap.size ≤ g11 by omega) (.int .u8 (K / 256))).setCell (p := ⟨g11, 11, none⟩) (show w3.heap.size ≤ g11 by omega) (.int .u8 (K % 256))
    rw [HK.out] at S18
    have L18 := L3.trans (M18.mono L3.size)
    clear x1 x2 y1 y2 S16 S17 M16 e9
    generalize (w16.setCell ⟨g11, 10, none⟩ (.int .u8 (K / 256))).setCell ⟨g11, 11, none⟩ (.int .u8 (K % 256)) = w18 at *
    have fin : ∃ y, whyOf (putOf sv nu a3 ho pr sr ds on pn os ps) = y ∧ (((y == 6) = true ∧ (a3 != 0) = true ∧ (a3 != 16384) = true) ∨ ((y == 6) = false ∧ (y == 0) = true ∧ (a3 != 0) = false) ∨ ((y == 6) = false ∧ (y == 0) = true ∧ (a3 != 0) = true ∧ (a3 != 16384) = false)) := by
      refine ⟨_, rfl, ?_⟩
      rw [hy6.out]
      by_cases f0 : a3 = 0
      · subst f0; simp
      · by_cases f1 : a3 = 16384
        · subst f1; simp
        · simp [f0, f1]
    obtain ⟨y, hy, hfin⟩ := fin
    refine (parse_told _ _ N cp11 (by rw [putOf_length os ps ⟨HN.out.hsv, HN.out.hnu, B3, HN.out.hho, HN.out.hpr, HN.out.hsr, HN.out.hds⟩ (rightB_le HR.out) HO.out HP.out, HN1.out]) hcp.1 hcp.2 (by omega) _ (GT.out _ L18) (WD.out _ L18) (Row.of_own S18 (in_wf8 (putOf_in (row_in (RO.out _ L18)) (row_in (RP.out _ L18))))) y hy).mono ?_
    rintro e w19 ⟨s19, n19, f19, h19, p19, r19, d19, oa19, on19, oc19, pa19, pn19, pc19, rfl, m19⟩
    have L19 := (L18.trans (m19.mono L18.size)).alloc (L18.trans (m19.mono L18.size)).size (.cells #[.int .u8 s19, .int .u16 n19, .int .u16 f19, .int .u8 h19, .int .u8 p19, .int .u32 r19, .int .u32 d19, .slice oa19 on19 oc19, .slice pa19 pn19 pc19] 26)
    clear hy L18 M18 S18 m19
    rcases hfin with ⟨e4, e5, e6⟩ | ⟨e4, e5, e6⟩ | ⟨e4, e5, e6, e7⟩
    all_goals
      go_wp2_with (go_at_call 9; refine (wakes_any _ (GT.out _ L19) (WD.out _ L19)).mono ?_; rintro e w20 ⟨rfl, m20⟩)
      go_ret
      exact ⟨rfl, L19.trans (m20.mono L19.size)⟩
end Go.Proofs.YtjofijigfkkidaaDoor
