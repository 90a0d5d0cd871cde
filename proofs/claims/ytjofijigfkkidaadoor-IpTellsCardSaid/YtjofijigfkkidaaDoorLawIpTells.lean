/- 'handfastlaw02.IpTells' returns true at every two heads and all bytes, and leaves what lay as it lay. -/
import Derived.Test.YtjofijigfkkidaaDoorIpX
namespace Go.Proofs.YtjofijigfkkidaaDoor
open Go.RowKit
open SumM

theorem same_refl' (sv nu fl ho pr sr ds : Int) (os ps : List Int) : sameB sv nu fl ho pr sr ds os ps sv nu fl ho pr sr ds os ps = true := by simp [sameB]

set_option maxRecDepth 100000 in
set_option maxHeartbeats 16000000 in
theorem ipTells_walk (sv nu fl ho pr sr ds : Int) (oa : Option Addr) (on oc : Nat) (pa : Option Addr) (pn pc : Nat) (os ps : List Int) (sv' nu' fl' ho' pr' sr' ds' : Int) (oa' : Option Addr) (on' oc' : Nat) (pa' : Option Addr) (pn' pc' : Nat) (os' ps' : List Int) (a2 : Option Addr) (len2 cap2 : Nat) (z2 : List Int) (w : World) (hg : 0 < w.heap.size) (hW : Wid w) (h : IsHead w sv nu fl ho pr sr ds oa on oc pa pn pc os ps) (h' : IsHead w sv' nu' fl' ho' pr' sr' ds' oa' on' oc' pa' pn' pc' os' ps') (w2 : IsRow .u8 w a2 len2 cap2 z2) :
    Calls Tryd.prog 3 #[.agg #[.int .u8 sv, .int .u16 nu, .int .u16 fl, .int .u8 ho, .int .u8 pr, .int .u32 sr, .int .u32 ds, .slice oa on oc, .slice pa pn pc], .agg #[.int .u8 sv', .int .u16 nu', .int .u16 fl', .int .u8 ho', .int .u8 pr', .int .u32 sr', .int .u32 ds', .slice oa' on' oc', .slice pa' pn' pc'], .slice a2 len2 cap2] w fun e w' => e = .returned (.bool true) ∧ Below w.heap.size w w' := by
  obtain ⟨hN, hro, hol, hon, hoc, hrp, hpl, hpn, hpc⟩ := h
  obtain ⟨hN', hro', hol', hon', hoc', hrp', hpl', hpn', hpc'⟩ := h'
  obtain ⟨hrz, hzl, hnz, hlz, hmz⟩ := w2.row
  clear w2
  generalize z2.take len2 = zs at *
  unfold maxLen at hoc hpc hoc' hpc' hmz
  have HN := Lib.hid hN
  have HO := Lib.hid hol
  have HP := Lib.hid hpl
  have NO := Lib.hid hon
  have NP := Lib.hid hpn
  have HO' := Lib.hid hol'
  have HP' := Lib.hid hpl'
  have ZL := Lib.hid hzl
  have RO := Lib.hid (fun W (m : Below w.heap.size w W) => (hro.below m).more m.size)
  have RP := Lib.hid (fun W (m : Below w.heap.size w W) => (hrp.below m).more m.size)
  have RO' := Lib.hid (fun W (m : Below w.heap.size w W) => (hro'.below m).more m.size)
  have RP' := Lib.hid (fun W (m : Below w.heap.size w W) => (hrp'.below m).more m.size)
  have RZ := Lib.hid (fun W (m : Below w.heap.size w W) => (hrz.below m).more m.size)
  have WD := Lib.hid (fun W (m : Below w.heap.size w W) => hW.below hg m)
  have GT := Lib.hid (fun W (m : Below w.heap.size w W) => Nat.lt_of_lt_of_le hg m.size)
  have ZI := Lib.hid (row_in hrz)
  clear hol hpl hon hpn hN hro hrp hW hol' hpl' hon' hpn' hN' hro' hrp' hzl hnz hrz
  have hO0 := heap_alloc_new (w.alloc (.cells #[.int .u8 sv, .int .u16 nu, .int .u16 fl, .int .u8 ho, .int .u8 pr, .int .u32 sr, .int .u32 ds, .slice oa on oc, .slice pa pn pc] 26)) (.cells #[.int .u8 sv', .int .u16 nu', .int .u16 fl', .int .u8 ho', .int .u8 pr', .int .u32 sr', .int .u32 ds', .slice oa' on' oc', .slice pa' pn' pc'] 26)
  rw [World.size_alloc] at hO0
  have hH0 := (Below.heap_alloc (w.alloc (.cells #[.int .u8 sv, .int .u16 nu, .int .u16 fl, .int .u8 ho, .int .u8 pr, .int .u32 sr, .int .u32 ds, .slice oa on oc, .slice pa pn pc] 26)) (.cells #[.int .u8 sv', .int .u16 nu', .int .u16 fl', .int .u8 ho', .int .u8 pr', .int .u32 sr', .int .u32 ds', .slice oa' on' oc', .slice pa' pn' pc'] 26) w.heap.size (by simp)).trans (heap_alloc_new w (.cells #[.int .u8 sv, .int .u16 nu, .int .u16 fl, .int .u8 ho, .int .u8 pr, .int .u32 sr, .int .u32 ds, .slice oa on oc, .slice pa pn pc] 26))
  have L0 := ((Below.refl w.heap.size w).alloc (Nat.le_refl _) (.cells #[.int .u8 sv, .int .u16 nu, .int .u16 fl, .int .u8 ho, .int .u8 pr, .int .u32 sr, .int .u32 ds, .slice oa on oc, .slice pa pn pc] 26)).alloc (by simp) (.cells #[.int .u8 sv', .int .u16 nu', .int .u16 fl', .int .u8 ho', .int .u8 pr', .int .u32 sr', .int .u32 ds', .slice oa' on' oc', .slice pa' pn' pc'] 26)
  obtain ⟨⟨q00, q01, q02, q03, q04, q05, q06, q07, q08⟩, _⟩ := nine_cells hH0
  obtain ⟨⟨q10, q11, q12, q13, q14, q15, q16, q17, q18⟩, _⟩ := nine_cells hO0
  by_cases hgr : greatB on pn = true
  · have HG := Lib.hid hgr
    clear hgr
    go_enter Tryd.func3, Tryd.ntmps3
    go_wp2_with (first
      | (go_at_call 8; refine (refGreat_any sv nu fl ho pr sr ds oa on oc pa pn pc _ (by omega) (by omega)).mono ?_; rintro e w1 ⟨rfl, m1⟩; rw [HG.out]; have L1 := L0.trans (m1.mono L0.size))
      | (go_at_call 9; refine (wakes_any _ (GT.out _ L1) (WD.out _ L1)).mono ?_; rintro e w2 ⟨rfl, m2⟩))
    go_ret
    exact ⟨rfl, L1.trans (m2.mono L1.size)⟩
  have hle : on ≤ 100 ∧ pn ≤ 300 := by
    simp [greatB] at hgr
    omega
  have HG := Lib.hid (show greatB on pn = false by simpa using hgr)
  clear hgr
  by_cases hgr : greatB on' pn' = true
  · have HG' := Lib.hid hgr
    clear hgr
    go_enter Tryd.func3, Tryd.ntmps3
    go_wp2_with fail
    generalize ((w.alloc (.cells #[.int .u8 sv, .int .u16 nu, .int .u16 fl, .int .u8 ho, .int .u8 pr, .int .u32 sr, .int .u32 ds, .slice oa on oc, .slice pa pn pc] 26)).alloc (.cells #[.int .u8 sv', .int .u16 nu', .int .u16 fl', .int .u8 ho', .int .u8 pr', .int .u32 sr', .int .u32 ds', .slice oa' on' oc', .slice pa' pn' pc'] 26)) = W0 at *
    refine (refGreat_any sv nu fl ho pr sr ds oa on oc pa pn pc _ (by omega) (by omega)).mono ?_
    rintro e w1 ⟨rfl, m1⟩
    rw [HG.out]
    have L1 := L0.trans (m1.mono L0.size)
    have hO1 := (m1.block _ (Array.getElem?_eq_some_iff.1 hO0).1).trans hO0
    obtain ⟨⟨q20, q21, q22, q23, q24, q25, q26, q27, q28⟩, _⟩ := nine_cells hO1
    clear hH0 hO0 L0 m1
    go_wp2_with (first
      | (go_at_call 8; refine (refGreat_any sv' nu' fl' ho' pr' sr' ds' oa' on' oc' pa' pn' pc' _ (by omega) (by omega)).mono ?_; rintro e w2 ⟨rfl, m2⟩; rw [HG'.out]; have L2 := L1.trans (m2.mono L1.size))
      | (go_at_call 9; refine (wakes_any _ (GT.out _ L2) (WD.out _ L2)).mono ?_; rintro e w3 ⟨rfl, m3⟩))
    go_ret
    exact ⟨rfl, L2.trans (m3.mono L2.size)⟩
  have HG' := Lib.hid (show greatB on' pn' = false by simpa using hgr)
  have hle' : on' ≤ 100 ∧ pn' ≤ 300 := by
    simp [greatB] at hgr
    omega
  clear hgr
  go_enter Tryd.func3, Tryd.ntmps3
  go_wp2_with fail
  generalize ((w.alloc (.cells #[.int .u8 sv, .int .u16 nu, .int .u16 fl, .int .u8 ho, .int .u8 pr, .int .u32 sr, .int .u32 ds, .slice oa on oc, .slice pa pn pc] 26)).alloc (.cells #[.int .u8 sv', .int .u16 nu', .int .u16 fl', .int .u8 ho', .int .u8 pr', .int .u32 sr', .int .u32 ds', .slice oa' on' oc', .slice pa' pn' pc'] 26)) = W0 at *
  refine (refGreat_any sv nu fl ho pr sr ds oa on oc pa pn pc _ (by omega) (by omega)).mono ?_
  rintro e w1 ⟨rfl, m1⟩
  rw [HG.out]
  have L1 := L0.trans (m1.mono L0.size)
  have zH := (Array.getElem?_eq_some_iff.1 hH0).1
  have zO := (Array.getElem?_eq_some_iff.1 hO0).1
  have QH := Lib.hid (fun W (mm : Below W0.heap.size W0 W) => (mm.block _ zH).trans hH0)
  have QO := Lib.hid (fun W (mm : Below W0.heap.size W0 W) => (mm.block _ zO).trans hO0)
  obtain ⟨⟨q20, q21, q22, q23, q24, q25, q26, q27, q28⟩, _⟩ := nine_cells (QO.out _ m1)
  clear hH0 hO0 L0 q00 q10 q01 q11 q02 q12 q03 q13 q04 q14 q05 q15 q06 q16 q07 q17 q08 q18
  go_wp2_with fail
  refine (refGreat_any sv' nu' fl' ho' pr' sr' ds' oa' on' oc' pa' pn' pc' _ (by omega) (by omega)).mono ?_
  rintro e w2 ⟨rfl, m2⟩
  rw [HG'.out]
  have L2 := L1.trans (m2.mono L1.size)
  have M2 := m1.trans (m2.mono m1.size)
  by_cases hbl : 400 < len2
  · have hbl' : decide ((400 : Int) < (len2 : Int)) = true := decide_eq_true (by omega)
    go_wp2_with (go_at_call 9; refine (wakes_any _ (GT.out _ L2) (WD.out _ L2)).mono ?_; rintro e w3 ⟨rfl, m3⟩)
    go_ret
    exact ⟨rfl, L2.trans (m3.mono L2.size)⟩
  have hbl' : decide ((400 : Int) < (len2 : Int)) = false := decide_eq_false (by omega)
  clear m1 m2 L1 q20 q21 q22 q23 q24 q25 q26 q27 q28
  obtain ⟨⟨q30, q31, q32, q33, q34, q35, q36, q37, q38⟩, _⟩ := nine_cells (QH.out _ M2)
  go_wp2_with fail
  refine (put_as sv nu fl ho pr sr ds oa on oc pa pn pc os ps HN.out hle _ (GT.out _ L2) (WD.out _ L2) (RO.out _ L2) HO.out NO.out (RP.out _ L2) HP.out NP.out).mono ?_
  rintro e w3 ⟨A1, m1, C1, rfl, z1, R1, k3⟩
  have L3 := L2.trans (k3.mono L2.size)
  have M3 := M2.trans (k3.mono M2.size)
  clear q30 q31 q32 q33 q34 q35 q36 q37 q38 k3 L2 M2
  obtain ⟨⟨q40, q41, q42, q43, q44, q45, q46, q47, q48⟩, _⟩ := nine_cells (QH.out _ M3)
  have Z1 := Lib.hid z1
  clear z1
  go_wp2_with fail
  refine (rput_as sv nu fl ho pr sr ds oa on oc pa pn pc os ps HN.out hle _ (RO.out _ L3) HO.out NO.out (RP.out _ L3) HP.out NP.out).mono ?_
  rintro e w4 ⟨A2, m2, C2, rfl, z2, R2, k4⟩
  obtain rfl : m1 = m2 := by rw [← z2, Z1.out]
  have L4 := L3.trans (k4.mono L3.size)
  have M4 := M3.trans (k4.mono M3.size)
  have R1 := R1.step k4
  have Z2 := Lib.hid z2
  clear q40 q41 q42 q43 q44 q45 q46 q47 q48 k4 L3 M3 z2
  go_wp2_with fail
  refine (ipParse_any a2 len2 cap2 zs ZL.out hlz (by omega) (by omega) w4 (GT.out _ L4) (WD.out _ L4) (RZ.out _ L4)).mono ?_
  intro e w5 hp5
  obtain ⟨s1, n1, f1, h1, p1, r1, d1, oa1, on1, oc1, pa1, pn1, pc1, xo, xp, rfl, hx, X1, xl, X2, xm, k5⟩ := parse_as ZI.out hp5
  have hB5 := heap_alloc_new w5 (.cells #[.int .u8 s1, .int .u16 n1, .int .u16 f1, .int .u8 h1, .int .u8 p1, .int .u32 r1, .int .u32 d1, .slice oa1 on1 oc1, .slice pa1 pn1 pc1] 26)
  have l5 := k5.alloc k5.size (.cells #[.int .u8 s1, .int .u16 n1, .int .u16 f1, .int .u8 h1, .int .u8 p1, .int .u32 r1, .int .u32 d1, .slice oa1 on1 oc1, .slice pa1 pn1 pc1] 26)
  have L5 := L4.trans (l5.mono L4.size)
  have M5 := M4.trans (l5.mono M4.size)
  have R1 := R1.step l5
  have R2 := R2.step l5
  have V1 := X1.allocS (.cells #[.int .u8 s1, .int .u16 n1, .int .u16 f1, .int .u8 h1, .int .u8 p1, .int .u32 r1, .int .u32 d1, .slice oa1 on1 oc1, .slice pa1 pn1 pc1] 26)
  have V2 := X2.allocS (.cells #[.int .u8 s1, .int .u16 n1, .int .u16 f1, .int .u8 h1, .int .u8 p1, .int .u32 r1, .int .u32 d1, .slice oa1 on1 oc1, .slice pa1 pn1 pc1] 26)
  have HX := Lib.hid hx
  have XL := Lib.hid xl
  have XM := Lib.hid xm
  clear hp5 hx xl xm k5 l5 L4 M4 X1 X2
  go_wp2_with fail
  generalize w5.alloc (.cells #[.int .u8 s1, .int .u16 n1, .int .u16 f1, .int .u8 h1, .int .u8 p1, .int .u32 r1, .int .u32 d1, .slice oa1 on1 oc1, .slice pa1 pn1 pc1] 26) = w5' at *
  generalize hb1 : w5.heap.size = b1 at *
  have zX := (Array.getElem?_eq_some_iff.1 hB5).1
  clear hb1
  refine (refParse_any a2 len2 cap2 zs ZL.out hlz (by omega) (by omega) w5' (RZ.out _ L5)).mono ?_
  intro e w6 hp6
  obtain ⟨s2, n2, f2, h2, p2, r2, d2, oa2, on2, oc2, pa2, pn2, pc2, yo, yp, rfl, hy, Y1, yl, Y2, ym, k6⟩ := parse_as ZI.out hp6
  obtain rfl : s1 = s2 := HX.out.h1.trans hy.h1.symm
  obtain rfl : n1 = n2 := HX.out.h2.trans hy.h2.symm
  obtain rfl : f1 = f2 := HX.out.h3.trans hy.h3.symm
  obtain rfl : h1 = h2 := HX.out.h4.trans hy.h4.symm
  obtain rfl : p1 = p2 := HX.out.h5.trans hy.h5.symm
  obtain rfl : r1 = r2 := HX.out.h6.trans hy.h6.symm
  obtain rfl : d1 = d2 := HX.out.h7.trans hy.h7.symm
  obtain rfl : xo = yo := HX.out.h8.trans hy.h8.symm
  obtain rfl : xp = yp := HX.out.h9.trans hy.h9.symm
  obtain rfl : on1 = on2 := by rw [← yl, XL.out]
  obtain rfl : pn1 = pn2 := by rw [← ym, XM.out]
  have hB6' := heap_alloc_new w6 (.cells #[.int .u8 s1, .int .u16 n1, .int .u16 f1, .int .u8 h1, .int .u8 p1, .int .u32 r1, .int .u32 d1, .slice oa2 on1 oc2, .slice pa2 pn1 pc2] 26)
  have l6 := k6.alloc k6.size (.cells #[.int .u8 s1, .int .u16 n1, .int .u16 f1, .int .u8 h1, .int .u8 p1, .int .u32 r1, .int .u32 d1, .slice oa2 on1 oc2, .slice pa2 pn1 pc2] 26)
  have L6 := L5.trans (l6.mono L5.size)
  have M6 := M5.trans (l6.mono M5.size)
  have U1 := R1.step l6
  have U2 := R2.step l6
  have V3 := V1.step l6
  have V4 := V2.step l6
  have T1 := Y1.allocS (.cells #[.int .u8 s1, .int .u16 n1, .int .u16 f1, .int .u8 h1, .int .u8 p1, .int .u32 r1, .int .u32 d1, .slice oa2 on1 oc2, .slice pa2 pn1 pc2] 26)
  have T2 := Y2.allocS (.cells #[.int .u8 s1, .int .u16 n1, .int .u16 f1, .int .u8 h1, .int .u8 p1, .int .u32 r1, .int .u32 d1, .slice oa2 on1 oc2, .slice pa2 pn1 pc2] 26)
  have hB6 := (l6.block _ zX).trans hB5
  have YL := Lib.hid yl
  have YM := Lib.hid ym
  clear hp6 hy yl ym k6 l6 L5 M5 R1 R2 V1 V2 Y1 Y2 hB5 HX XL XM zX
  go_wp2_with fail
  generalize w6.alloc (.cells #[.int .u8 s1, .int .u16 n1, .int .u16 f1, .int .u8 h1, .int .u8 p1, .int .u32 r1, .int .u32 d1, .slice oa2 on1 oc2, .slice pa2 pn1 pc2] 26) = w7 at *
  generalize hb2 : w6.heap.size = b2 at *
  clear hb2
  obtain ⟨ST, hST⟩ : ∃ s, strOfNums (putB sv nu fl ho pr sr ds on pn os ps) = s := ⟨_, rfl⟩
  have RS := Lib.hid (fun W (m : Below w7.heap.size w7 W) => show W.cell? ⟨w.heap.size, 0, none⟩ = some (.int .u8 sv) ∧ W.cell? ⟨w.heap.size, 1, none⟩ = some (.int .u16 nu) ∧ W.cell? ⟨w.heap.size, 2, none⟩ = some (.int .u16 fl) ∧ W.cell? ⟨w.heap.size, 3, none⟩ = some (.int .u8 ho) ∧ W.cell? ⟨w.heap.size, 4, none⟩ = some (.int .u8 pr) ∧ W.cell? ⟨w.heap.size, 5, none⟩ = some (.int .u32 sr) ∧ W.cell? ⟨w.heap.size, 6, none⟩ = some (.int .u32 ds) ∧ W.cell? ⟨w.heap.size, 7, none⟩ = some (.slice oa on oc) ∧ W.cell? ⟨w.heap.size, 8, none⟩ = some (.slice pa pn pc) ∧ W.cell? ⟨w.heap.size + 1, 0, none⟩ = some (.int .u8 sv') ∧ W.cell? ⟨w.heap.size + 1, 1, none⟩ = some (.int .u16 nu') ∧ W.cell? ⟨w.heap.size + 1, 2, none⟩ = some (.int .u16 fl') ∧ W.cell? ⟨w.heap.size + 1, 3, none⟩ = some (.int .u8 ho') ∧ W.cell? ⟨w.heap.size + 1, 4, none⟩ = some (.int .u8 pr') ∧ W.cell? ⟨w.heap.size + 1, 5, none⟩ = some (.int .u32 sr') ∧ W.cell? ⟨w.heap.size + 1, 6, none⟩ = some (.int .u32 ds') ∧ W.cell? ⟨w.heap.size + 1, 7, none⟩ = some (.slice oa' on' oc') ∧ W.cell? ⟨w.heap.size + 1, 8, none⟩ = some (.slice pa' pn' pc') ∧ W.cell? ⟨b1, 0, none⟩ = some (.int .u8 s1) ∧ W.cell? ⟨b1, 1, none⟩ = some (.int .u16 n1) ∧ W.cell? ⟨b1, 2, none⟩ = some (.int .u16 f1) ∧ W.cell? ⟨b1, 3, none⟩ = some (.int .u8 h1) ∧ W.cell? ⟨b1, 4, none⟩ = some (.int .u8 p1) ∧ W.cell? ⟨b1, 5, none⟩ = some (.int .u32 r1) ∧ W.cell? ⟨b1, 6, none⟩ = some (.int .u32 d1) ∧ W.cell? ⟨b1, 7, none⟩ = some (.slice oa1 on1 oc1) ∧ W.cell? ⟨b1, 8, none⟩ = some (.slice pa1 pn1 pc1) ∧ W.cell? ⟨b2, 0, none⟩ = some (.int .u8 s1) ∧ W.cell? ⟨b2, 1, none⟩ = some (.int .u16 n1) ∧ W.cell? ⟨b2, 2, none⟩ = some (.int .u16 f1) ∧ W.cell? ⟨b2, 3, none⟩ = some (.int .u8 h1) ∧ W.cell? ⟨b2, 4, none⟩ = some (.int .u8 p1) ∧ W.cell? ⟨b2, 5, none⟩ = some (.int .u32 r1) ∧ W.cell? ⟨b2, 6, none⟩ = some (.int .u32 d1) ∧ W.cell? ⟨b2, 7, none⟩ = some (.slice oa2 on1 oc2) ∧ W.cell? ⟨b2, 8, none⟩ = some (.slice pa2 pn1 pc2) ∧ (convert 24 9 (.slice A1 m1 C1)).run Tryd.prog W = .ok (.string ST) W ∧ (convert 24 9 (.slice A2 m1 C2)).run Tryd.prog W = .ok (.string ST) W from by
    obtain ⟨⟨a0, a1, a2, a3, a4, a5, a6, a7, a8⟩, _⟩ := nine_cells (QH.out W (M6.trans (m.mono M6.size)))
    obtain ⟨⟨b0, b1, b2, b3, b4, b5, b6, b7, b8⟩, _⟩ := nine_cells (QO.out W (M6.trans (m.mono M6.size)))
    obtain ⟨⟨c0, c1, c2, c3, c4, c5, c6, c7, c8⟩, _⟩ := nine_cells ((m.block _ (Array.getElem?_eq_some_iff.1 hB6).1).trans hB6)
    obtain ⟨⟨d0, d1, d2, d3, d4, d5, d6, d7, d8⟩, _⟩ := nine_cells ((m.block _ (Array.getElem?_eq_some_iff.1 hB6').1).trans hB6')
    have e1 := (U1.below m).str m1 C1 Z1.out
    have e2 := (U2.below m).str m1 C2 Z1.out
    rw [hST] at e1 e2
    exact ⟨a0, a1, a2, a3, a4, a5, a6, a7, a8, b0, b1, b2, b3, b4, b5, b6, b7, b8, c0, c1, c2, c3, c4, c5, c6, c7, c8, d0, d1, d2, d3, d4, d5, d6, d7, d8, e1, e2⟩)
  have BX1 := Lib.hid (fun W (m : Below w7.heap.size w7 W) => V3.below m)
  have BX2 := Lib.hid (fun W (m : Below w7.heap.size w7 W) => V4.below m)
  have BY1 := Lib.hid (fun W (m : Below w7.heap.size w7 W) => T1.below m)
  have BY2 := Lib.hid (fun W (m : Below w7.heap.size w7 W) => T2.below m)
  have BL := Lib.hid (fun W (m : Below w7.heap.size w7 W) => L6.trans (m.mono L6.size))
  obtain ⟨SZ, hSZ⟩ : ∃ s, (if rightB fl on pn = true then 20 + (on : Int) + pn else 0) = s := ⟨_, rfl⟩
  have SI := Lib.hid (fun W => by
    have := ipSize_any sv nu fl ho pr sr ds oa on oc pa pn pc W (by omega) (by omega)
    rwa [hSZ] at this)
  have SR := Lib.hid (fun W => by
    have := refSize_any sv nu fl ho pr sr ds oa on oc pa pn pc W (by omega) (by omega)
    rwa [hSZ] at this)
  have nn0 := (Below.refl w7.heap.size w7).drew
  clear hST hSZ U1 U2 V3 V4 T1 T2 hB6 hB6' L6 M6
  go_region_held3 (fun W => W.cell? ⟨w.heap.size, 0, none⟩ = some (.int .u8 sv) ∧ W.cell? ⟨w.heap.size, 1, none⟩ = some (.int .u16 nu) ∧ W.cell? ⟨w.heap.size, 2, none⟩ = some (.int .u16 fl) ∧ W.cell? ⟨w.heap.size, 3, none⟩ = some (.int .u8 ho) ∧ W.cell? ⟨w.heap.size, 4, none⟩ = some (.int .u8 pr) ∧ W.cell? ⟨w.heap.size, 5, none⟩ = some (.int .u32 sr) ∧ W.cell? ⟨w.heap.size, 6, none⟩ = some (.int .u32 ds) ∧ W.cell? ⟨w.heap.size, 7, none⟩ = some (.slice oa on oc) ∧ W.cell? ⟨w.heap.size, 8, none⟩ = some (.slice pa pn pc) ∧ W.cell? ⟨w.heap.size + 1, 0, none⟩ = some (.int .u8 sv') ∧ W.cell? ⟨w.heap.size + 1, 1, none⟩ = some (.int .u16 nu') ∧ W.cell? ⟨w.heap.size + 1, 2, none⟩ = some (.int .u16 fl') ∧ W.cell? ⟨w.heap.size + 1, 3, none⟩ = some (.int .u8 ho') ∧ W.cell? ⟨w.heap.size + 1, 4, none⟩ = some (.int .u8 pr') ∧ W.cell? ⟨w.heap.size + 1, 5, none⟩ = some (.int .u32 sr') ∧ W.cell? ⟨w.heap.size + 1, 6, none⟩ = some (.int .u32 ds') ∧ W.cell? ⟨w.heap.size + 1, 7, none⟩ = some (.slice oa' on' oc') ∧ W.cell? ⟨w.heap.size + 1, 8, none⟩ = some (.slice pa' pn' pc') ∧ W.cell? ⟨b1, 0, none⟩ = some (.int .u8 s1) ∧ W.cell? ⟨b1, 1, none⟩ = some (.int .u16 n1) ∧ W.cell? ⟨b1, 2, none⟩ = some (.int .u16 f1) ∧ W.cell? ⟨b1, 3, none⟩ = some (.int .u8 h1) ∧ W.cell? ⟨b1, 4, none⟩ = some (.int .u8 p1) ∧ W.cell? ⟨b1, 5, none⟩ = some (.int .u32 r1) ∧ W.cell? ⟨b1, 6, none⟩ = some (.int .u32 d1) ∧ W.cell? ⟨b1, 7, none⟩ = some (.slice oa1 on1 oc1) ∧ W.cell? ⟨b1, 8, none⟩ = some (.slice pa1 pn1 pc1) ∧ W.cell? ⟨b2, 0, none⟩ = some (.int .u8 s1) ∧ W.cell? ⟨b2, 1, none⟩ = some (.int .u16 n1) ∧ W.cell? ⟨b2, 2, none⟩ = some (.int .u16 f1) ∧ W.cell? ⟨b2, 3, none⟩ = some (.int .u8 h1) ∧ W.cell? ⟨b2, 4, none⟩ = some (.int .u8 p1) ∧ W.cell? ⟨b2, 5, none⟩ = some (.int .u32 r1) ∧ W.cell? ⟨b2, 6, none⟩ = some (.int .u32 d1) ∧ W.cell? ⟨b2, 7, none⟩ = some (.slice oa2 on1 oc2) ∧ W.cell? ⟨b2, 8, none⟩ = some (.slice pa2 pn1 pc2) ∧ (convert 24 9 (.slice A1 m1 C1)).run Tryd.prog W = .ok (.string ST) W ∧ (convert 24 9 (.slice A2 m1 C2)).run Tryd.prog W = .ok (.string ST) W)
    (first | with_reducible exact RS.out _ nn10 | with_reducible exact RS.out _ nn9 | with_reducible exact RS.out _ nn8 | with_reducible exact RS.out _ nn7 | with_reducible exact RS.out _ nn6 | with_reducible exact RS.out _ nn5 | with_reducible exact RS.out _ nn4 | with_reducible exact RS.out _ nn3 | with_reducible exact RS.out _ nn2 | with_reducible exact RS.out _ nn1 | with_reducible exact RS.out _ nn0)
    (first
      | (go_at_call 14; (with_reducible refine (ipRight_any sv nu fl ho pr sr ds oa on oc pa pn pc _ (by omega) (by omega)).mono ?_); rintro e v1 ⟨rfl, k1⟩; have nn1 := nn0.trans (k1.mono nn0.size))
      | (go_at_call 15; (with_reducible refine (refRight_any sv nu fl ho pr sr ds oa on oc pa pn pc _ (by omega) (by omega)).mono ?_); rintro e v2 ⟨rfl, k2⟩; have nn2 := nn1.trans (k2.mono nn1.size))
      | (go_at_call 16; (with_reducible refine (SI.out _).mono ?_); rintro e v3 ⟨rfl, k3⟩; have nn3 := nn2.trans (k3.mono nn2.size))
      | (go_at_call 17; (with_reducible refine (SR.out _).mono ?_); rintro e v4 ⟨rfl, k4⟩; have nn4 := nn3.trans (k4.mono nn3.size))
      | (go_at_call 18; (with_reducible refine (refSame_any s1 n1 f1 h1 p1 r1 d1 oa1 on1 oc1 pa1 pn1 pc1 s1 n1 f1 h1 p1 r1 d1 oa2 on1 oc2 pa2 pn1 pc2 xo xp xo xp _ _ _ nn4.size nn4.size (BX1.out _ nn4) YL.out (BX2.out _ nn4) YM.out (BY1.out _ nn4) YL.out (BY2.out _ nn4) YM.out).mono ?_); rintro e v5 ⟨rfl, k5⟩; rw [same_refl']; have nn5 := nn4.trans (k5.mono nn4.size))
      | (go_at_call 19; (with_reducible refine (ipSame_any sv nu fl ho pr sr ds oa on oc pa pn pc sv' nu' fl' ho' pr' sr' ds' oa' on' oc' pa' pn' pc' os ps os' ps' _ _ _ (Nat.le_refl _) (Nat.le_refl _) (RO.out _ (BL.out _ nn5)) HO.out (RP.out _ (BL.out _ nn5)) HP.out (RO'.out _ (BL.out _ nn5)) HO'.out (RP'.out _ (BL.out _ nn5)) HP'.out).mono ?_); rintro e v6 ⟨rfl, k6⟩; have nn6 := nn5.trans (k6.mono nn5.size))
      | (go_at_call 18; (with_reducible refine (refSame_any sv nu fl ho pr sr ds oa on oc pa pn pc sv' nu' fl' ho' pr' sr' ds' oa' on' oc' pa' pn' pc' os ps os' ps' _ _ _ (Nat.le_refl _) (Nat.le_refl _) (RO.out _ (BL.out _ nn6)) HO.out (RP.out _ (BL.out _ nn6)) HP.out (RO'.out _ (BL.out _ nn6)) HO'.out (RP'.out _ (BL.out _ nn6)) HP'.out).mono ?_); rintro e v7 ⟨rfl, k7⟩; have nn7 := nn6.trans (k7.mono nn6.size))
      | (go_at_call 20; (with_reducible refine (ipOwn_any sv nu fl ho pr sr ds oa on oc pa pn pc os ps _ (RO.out _ (BL.out _ nn7)) HO.out NO.out (RP.out _ (BL.out _ nn7)) HP.out NP.out (by omega) (by omega)).mono ?_); rintro e v8 ⟨vv, rfl, qa, qc, ta, tc, rfl, Q8, T8, k8⟩; have nn8 := nn7.trans (k8.mono nn7.size))
      | (go_at_call 18; (with_reducible refine (refSame_any sv nu fl ho pr sr ds qa os.length qc ta ps.length tc sv nu fl ho pr sr ds oa on oc pa pn pc os ps os ps _ _ _ (Nat.le_refl _) (Nat.le_refl _) (Row.of_own Q8 (in_wf8 (row_in (RO.out _ (BL.out _ nn7))))) rfl (Row.of_own T8 (in_wf8 (row_in (RP.out _ (BL.out _ nn7))))) rfl (RO.out _ (BL.out _ nn8)) HO.out (RP.out _ (BL.out _ nn8)) HP.out).mono ?_); rintro e v9 ⟨rfl, k9⟩; rw [same_refl']; have nn9 := nn8.trans (k9.mono nn8.size))
      | (go_at_call 9; (with_reducible refine (wakes_any _ (GT.out _ (BL.out _ nn9)) (WD.out _ (BL.out _ nn9))).mono ?_); rintro e v10 ⟨rfl, k10⟩; have nn10 := nn9.trans (k10.mono nn9.size)))
  all_goals go_wp2
  all_goals go_ret
  all_goals exact ⟨rfl, BL.out _ nn10⟩
end Go.Proofs.YtjofijigfkkidaaDoor
