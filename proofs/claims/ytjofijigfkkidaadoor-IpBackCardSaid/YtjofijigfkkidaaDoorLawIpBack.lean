/- 'handfastlaw02.IpBack' returns true at every head and all bytes, and leaves what lay as it lay. -/
import Derived.Test.YtjofijigfkkidaaDoorLawIpByte
namespace Go.Proofs.YtjofijigfkkidaaDoor
open Go.RowKit
open SumM

theorem same_refl (sv nu fl ho pr sr ds : Int) (os ps : List Int) : sameB sv nu fl ho pr sr ds os ps sv nu fl ho pr sr ds os ps = true := by simp [sameB]

set_option maxRecDepth 100000 in
set_option maxHeartbeats 8000000 in
theorem ipBack_walk (sv nu fl ho pr sr ds : Int) (oa : Option Addr) (on oc : Nat) (pa : Option Addr) (pn pc : Nat) (os ps : List Int) (a1 : Option Addr) (len1 cap1 : Nat) (z1 : List Int) (a2 : Int) (w : World) (hg : 0 < w.heap.size) (hW : Wid w) (h : IsHead w sv nu fl ho pr sr ds oa on oc pa pn pc os ps) (w1 : IsRow .u8 w a1 len1 cap1 z1) (w2 : (Lit.int .u8 a2).wf = true) :
    Calls Tryd.prog 4 #[.agg #[.int .u8 sv, .int .u16 nu, .int .u16 fl, .int .u8 ho, .int .u8 pr, .int .u32 sr, .int .u32 ds, .slice oa on oc, .slice pa pn pc], .slice a1 len1 cap1, .int .u8 a2] w fun e w' => e = .returned (.bool true) ∧ Below w.heap.size w w' := by
  obtain ⟨hN, hro, hol, hon, hoc, hrp, hpl, hpn, hpc⟩ := h
  obtain ⟨hrz, hzl, hnz, hlz, hmz⟩ := w1.row
  have B2 := wf_u8.1 w2
  clear w1 w2
  generalize z1.take len1 = zs at *
  unfold maxLen at hoc hpc hmz
  have ZL := Lib.hid hzl
  have NZ := Lib.hid hnz
  have RZ := Lib.hid (fun W (m : Below w.heap.size w W) => (hrz.below m).more m.size)
  clear hzl hnz hrz
  have HN := Lib.hid hN
  have HO := Lib.hid hol
  have HP := Lib.hid hpl
  have NO := Lib.hid hon
  have NP := Lib.hid hpn
  have RO := Lib.hid (fun W (m : Below w.heap.size w W) => (hro.below m).more m.size)
  have RP := Lib.hid (fun W (m : Below w.heap.size w W) => (hrp.below m).more m.size)
  have WD := Lib.hid (fun W (m : Below w.heap.size w W) => hW.below hg m)
  have GT := Lib.hid (fun W (m : Below w.heap.size w W) => Nat.lt_of_lt_of_le hg m.size)
  clear hol hpl hon hpn hN hro hrp hW
  have hH0 := heap_alloc_new w (.cells #[.int .u8 sv, .int .u16 nu, .int .u16 fl, .int .u8 ho, .int .u8 pr, .int .u32 sr, .int .u32 ds, .slice oa on oc, .slice pa pn pc] 26)
  have L0 := (Below.refl w.heap.size w).alloc (Nat.le_refl _) (.cells #[.int .u8 sv, .int .u16 nu, .int .u16 fl, .int .u8 ho, .int .u8 pr, .int .u32 sr, .int .u32 ds, .slice oa on oc, .slice pa pn pc] 26)
  have hz0 : w.heap.size < (w.alloc (.cells #[.int .u8 sv, .int .u16 nu, .int .u16 fl, .int .u8 ho, .int .u8 pr, .int .u32 sr, .int .u32 ds, .slice oa on oc, .slice pa pn pc] 26)).heap.size := by simp
  by_cases hgr : greatB on pn = true
  · have HG := Lib.hid hgr
    clear hgr
    go_enter Tryd.func4, Tryd.ntmps4
    go_wp2_with (first
      | (go_at_call 8; refine (refGreat_any sv nu fl ho pr sr ds oa on oc pa pn pc _ (by omega) (by omega)).mono ?_; rintro e w1 ⟨rfl, m1⟩; rw [HG.out]; have L1 := L0.trans (m1.mono L0.size))
      | (go_at_call 9; refine (wakes_any _ (GT.out _ L1) (WD.out _ L1)).mono ?_; rintro e w2 ⟨rfl, m2⟩))
    go_ret
    exact ⟨rfl, L1.trans (m2.mono L1.size)⟩
  have hle : on ≤ 100 ∧ pn ≤ 300 := by
    simp [greatB] at hgr
    omega
  have HG := Lib.hid (show greatB on pn = false by simpa using hgr)
  clear hgr
  by_cases hbl : 400 < len1
  · have hbl' : decide ((400 : Int) < (len1 : Int)) = true := decide_eq_true (by omega)
    go_enter Tryd.func4, Tryd.ntmps4
    go_wp2_with (first
      | (go_at_call 8; refine (refGreat_any sv nu fl ho pr sr ds oa on oc pa pn pc _ (by omega) (by omega)).mono ?_; rintro e w1 ⟨rfl, m1⟩; rw [HG.out]; have L1 := L0.trans (m1.mono L0.size))
      | (go_at_call 9; refine (wakes_any _ (GT.out _ L1) (WD.out _ L1)).mono ?_; rintro e w2 ⟨rfl, m2⟩))
    go_ret
    exact ⟨rfl, L1.trans (m2.mono L1.size)⟩
  have hbl' : decide ((400 : Int) < (len1 : Int)) = false := decide_eq_false (by omega)
  have PZ := Lib.hid (fun W (L : Below w.heap.size w W) => ipParse_any a1 len1 cap1 zs ZL.out hlz (by omega) (by omega) W (GT.out _ L) (WD.out _ L) (RZ.out _ L))
  by_cases hrt : rightB fl on pn = true
  rotate_left
  · have HR := Lib.hid (show rightB fl on pn = false by simpa using hrt)
    clear hrt
    go_enter Tryd.func4, Tryd.ntmps4
    go_wp2_with fail
    generalize w.alloc (.cells #[.int .u8 sv, .int .u16 nu, .int .u16 fl, .int .u8 ho, .int .u8 pr, .int .u32 sr, .int .u32 ds, .slice oa on oc, .slice pa pn pc] 26) = W0 at *
    refine (refGreat_any sv nu fl ho pr sr ds oa on oc pa pn pc _ (by omega) (by omega)).mono ?_
    rintro e w1 ⟨rfl, m1⟩
    rw [HG.out]
    have L1 := L0.trans (m1.mono L0.size)
    have hH1 := (m1.block _ hz0).trans hH0
    have hz1 := Nat.lt_of_lt_of_le hz0 m1.size
    obtain ⟨⟨q0, q1, q2, q3, q4, q5, q6, q7, q8⟩, _⟩ := nine_cells hH1
    clear hH0 L0 m1 hz0
    go_wp2_with fail
    refine (ipPut_no sv nu fl ho pr sr ds oa on oc pa pn pc HR.out (by omega) (by omega) _).mono ?_
    rintro e w3 ⟨rfl, m3⟩
    have L3 := L1.trans (m3.mono L1.size)
    have hH3 := (m3.block _ hz1).trans hH1
    have hz3 := Nat.lt_of_lt_of_le hz1 m3.size
    clear q0 q1 q2 q3 q4 q5 q6 q7 q8 m3 L1 hH1 hz1
    obtain ⟨⟨q0, q1, q2, q3, q4, q5, q6, q7, q8⟩, _⟩ := nine_cells hH3
    go_wp2_with fail
    refine (ipRight_any sv nu fl ho pr sr ds oa on oc pa pn pc _ (by omega) (by omega)).mono ?_
    rintro e w4 ⟨rfl, m4⟩
    rw [HR.out]
    have hH4 := (m4.block _ hz3).trans hH3
    have hz4 := Nat.lt_of_lt_of_le hz3 m4.size
    clear q0 q1 q2 q3 q4 q5 q6 q7 q8
    obtain ⟨⟨q0, q1, q2, q3, q4, q5, q6, q7, q8⟩, _⟩ := nine_cells hH4
    go_wp2_with fail
    refine (ipSize_any sv nu fl ho pr sr ds oa on oc pa pn pc _ (by omega) (by omega)).mono ?_
    rintro e w5 ⟨rfl, m5⟩
    rw [if_neg (by rw [HR.out]; decide)]
    have L5 := L3.trans ((m4.trans (m5.mono m4.size)).mono L3.size)
    clear q0 q1 q2 q3 q4 q5 q6 q7 q8 hH3 hz3 hz4 hH4 m4 m5 L3
    go_wp2_with fail
    refine (PZ.out _ L5).mono ?_
    rintro e wA (⟨hy, rfl, mA⟩ | ⟨hy, vA, rfl, ba, bc, ca, cc, rfl, UA, VA, mA⟩)
    · obtain ⟨Y, hY⟩ : ∃ Y, whyOf zs = Y := ⟨_, rfl⟩
      have hYi := why_in zs
      rw [hY] at hy hYi ⊢
      have hY0 : (Y != 0) = true := by simpa using hy
      have hY6 : decide (Y ≤ 6) = true := decide_eq_true hYi.2
      have lA := mA.alloc mA.size (.cells #[.int .u8 0, .int .u16 0, .int .u16 0, .int .u8 0, .int .u8 0, .int .u32 0, .int .u32 0, .slice none 0 0, .slice none 0 0] 26)
      have LA := L5.trans (lA.mono L5.size)
      have hZA := heap_alloc_new wA (.cells #[.int .u8 0, .int .u16 0, .int .u16 0, .int .u8 0, .int .u8 0, .int .u32 0, .int .u32 0, .slice none 0 0, .slice none 0 0] 26)
      obtain ⟨⟨q0, q1, q2, q3, q4, q5, q6, q7, q8⟩, _⟩ := nine_cells hZA
      clear hY hy lA mA hYi
      go_wp2_with fail
      refine (same_zero _).mono ?_
      rintro e wB ⟨rfl, mB⟩
      have LB := LA.trans (mB.mono LA.size)
      clear q0 q1 q2 q3 q4 q5 q6 q7 q8 hZA mB LA
      go_wp2_with (go_at_call 9; refine (wakes_any _ (GT.out _ LB) (WD.out _ LB)).mono ?_; rintro e w20 ⟨rfl, m20⟩)
      go_ret
      exact ⟨rfl, LB.trans (m20.mono LB.size)⟩
    · obtain ⟨N1, N2, N3⟩ := put_parse (row_in (RZ.out _ L5)) hy
      have I1 := Lib.hid (in_wf8 (in_drop (in_take (row_in (RZ.out _ L5)) (hlOf zs)) 20))
      have I2 := Lib.hid (in_wf8 (in_drop (row_in (RZ.out _ L5)) (hlOf zs)))
      generalize segAt zs 1 % 256 = sv' at *
      generalize segAt zs 3 % 65536 = nu' at *
      generalize segAt zs 4 % 65536 = fl' at *
      generalize segAt zs 5 % 256 = ho' at *
      generalize segAt zs 6 % 256 = pr' at *
      generalize segAt zs 8 = sr' at *
      generalize segAt zs 9 = ds' at *
      generalize (zs.take (hlOf zs)).drop 20 = os' at *
      generalize zs.drop (hlOf zs) = ps' at *
      have N1 := Lib.hid N1
      have N2 := Lib.hid N2
      have N3 := Lib.hid N3
      have hXA := heap_alloc_new wA (.cells #[.int .u8 sv', .int .u16 nu', .int .u16 fl', .int .u8 ho', .int .u8 pr', .int .u32 sr', .int .u32 ds', .slice ba os'.length bc, .slice ca ps'.length cc] 26)
      have lA := (Below.refl wA.heap.size wA).alloc (Nat.le_refl _) (.cells #[.int .u8 sv', .int .u16 nu', .int .u16 fl', .int .u8 ho', .int .u8 pr', .int .u32 sr', .int .u32 ds', .slice ba os'.length bc, .slice ca ps'.length cc] 26)
      have LA := L5.trans ((mA.trans (lA.mono mA.size)).mono L5.size)
      have UB := own_below UA lA
      have VB := own_below VA lA
      obtain ⟨⟨q0, q1, q2, q3, q4, q5, q6, q7, q8⟩, _⟩ := nine_cells hXA
      have z00 : ((0 : Int) != 0) = false := by decide
      clear hy UA VA mA lA
      go_wp2_with fail
      generalize wA.alloc (.cells #[.int .u8 sv', .int .u16 nu', .int .u16 fl', .int .u8 ho', .int .u8 pr', .int .u32 sr', .int .u32 ds', .slice ba os'.length bc, .slice ca ps'.length cc] 26) = wB at *
      refine (put_n sv' nu' fl' ho' pr' sr' ds' ba os'.length bc ca ps'.length cc os' ps' N1.out N2.out wB (GT.out _ LA) (WD.out _ LA) (Row.of_own UB I1.out) rfl (own_nil UB) (Row.of_own VB I2.out) rfl (own_nil VB)).mono ?_
      rintro e wC ⟨AC, CC, rfl, PC, mC⟩
      rw [N3.out] at PC
      have LC := LA.trans (mC.mono LA.size)
      have s1 := (Row.of_own PC (in_wf8 (row_in (RZ.out _ LC)))).str (20 + os'.length + ps'.length) CC (by have := PC.1; simpa using this)
      have s2 := (RZ.out _ LC).str len1 cap1 ZL.out
      generalize strOfNums zs = ST at s1 s2
      clear q0 q1 q2 q3 q4 q5 q6 q7 q8 hXA UB VB PC LA mC
      go_wp2_with (go_at_call 9; refine (wakes_any _ (GT.out _ LC) (WD.out _ LC)).mono ?_; rintro e w20 ⟨rfl, m20⟩)
      go_ret
      exact ⟨rfl, LC.trans (m20.mono LC.size)⟩
  have HR := Lib.hid hrt
  clear hrt
  have hon40 : on ≤ 40 := (rightB_le HR.out).1
  go_enter Tryd.func4, Tryd.ntmps4
  go_wp2_with fail
  generalize w.alloc (.cells #[.int .u8 sv, .int .u16 nu, .int .u16 fl, .int .u8 ho, .int .u8 pr, .int .u32 sr, .int .u32 ds, .slice oa on oc, .slice pa pn pc] 26) = W0 at *
  refine (refGreat_any sv nu fl ho pr sr ds oa on oc pa pn pc _ (by omega) (by omega)).mono ?_
  rintro e w1 ⟨rfl, m1⟩
  rw [HG.out]
  have L1 := L0.trans (m1.mono L0.size)
  have hH1 := (m1.block _ hz0).trans hH0
  have hz1 := Nat.lt_of_lt_of_le hz0 m1.size
  obtain ⟨⟨q0, q1, q2, q3, q4, q5, q6, q7, q8⟩, _⟩ := nine_cells hH1
  clear hH0 L0 m1 hz0
  go_wp2_with fail
  refine (put_n sv nu fl ho pr sr ds oa on oc pa pn pc os ps HN.out HR.out _ (GT.out _ L1) (WD.out _ L1) (RO.out _ L1) HO.out NO.out (RP.out _ L1) HP.out NP.out).mono ?_
  rintro e w3 ⟨A3, C3, rfl, P3, m3⟩
  have L3 := L1.trans (m3.mono L1.size)
  have hH3 := (m3.block _ hz1).trans hH1
  have hz3 := Nat.lt_of_lt_of_le hz1 m3.size
  have P3 := own_base P3 L1.size
  have PI := Lib.hid (putOf_in (sv := sv) (nu := nu) (fl := fl) (ho := ho) (pr := pr) (sr := sr) (ds := ds) (on := on) (pn := pn) (row_in (RO.out _ L3)) (row_in (RP.out _ L3)))
  have PL := Lib.hid (putOf_length os ps HN.out (rightB_le HR.out) HO.out HP.out)
  have WY := why_put os ps HN.out (rightB_le HR.out) HO.out HP.out
  have PT := Lib.hid (putOf_take os ps HN.out (rightB_le HR.out) HO.out (row_in (RO.out _ L3)))
  have hfl := (of_decide_eq_true HR.out).1
  rw [if_neg (by omega)] at WY
  have PP := Lib.hid (fun (C : Nat) (g : Nat) (hC : 20 + on + pn ≤ C ∧ C ≤ 9223372036854775807) (W : World) (L : Below w.heap.size w W) (hR : Row .u8 W.heap.size W (some ⟨g, 0, none⟩) (putOf sv nu fl ho pr sr ds on pn os ps)) => parse_put sv nu fl ho pr sr ds on pn os ps HN.out HR.out HO.out HP.out (some ⟨g, 0, none⟩) _ C rfl hC.1 hC.2 W (GT.out _ L) (WD.out _ L) hR)
  obtain ⟨N, hN1, hN2, hN3⟩ : ∃ N : Nat, 20 + on + pn = N ∧ 20 + on ≤ N ∧ N ≤ 440 := ⟨_, rfl, by omega, by omega⟩
  rw [hN1] at P3 PL PP ⊢
  generalize hbs : putOf sv nu fl ho pr sr ds on pn os ps = bs at *
  have HN1 := Lib.hid hN1
  have WY := Lib.hid WY
  clear hbs hN1 q0 q1 q2 q3 q4 q5 q6 q7 q8 m3 L1 hH1 hz1 hfl
  obtain ⟨g3, rfl, hg3, hg3'⟩ := own_addr P3 (by omega)
  have cap3 := own_cap P3
  obtain ⟨⟨q0, q1, q2, q3, q4, q5, q6, q7, q8⟩, _⟩ := nine_cells hH3
  go_wp2_with fail
  refine (ipRight_any sv nu fl ho pr sr ds oa on oc pa pn pc _ (by omega) (by omega)).mono ?_
  rintro e w4 ⟨rfl, m4⟩
  rw [HR.out]
  have hH4 := (m4.block _ hz3).trans hH3
  have hz4 := Nat.lt_of_lt_of_le hz3 m4.size
  clear q0 q1 q2 q3 q4 q5 q6 q7 q8
  obtain ⟨⟨q0, q1, q2, q3, q4, q5, q6, q7, q8⟩, _⟩ := nine_cells hH4
  go_wp2_with fail
  refine (ipSize_yes sv nu fl ho pr sr ds oa on oc pa pn pc _ HR.out).mono ?_
  rintro e w5 ⟨rfl, m5⟩
  have hSN : ((N : Int) != 20 + (on : Int) + pn) = false := by have := HN1.out; simp; omega
  have hH5 := (m5.block _ hz4).trans hH4
  have M5 := m4.trans (m5.mono m4.size)
  have P5 := own_below P3 M5
  have L5 := L3.trans (M5.mono L3.size)
  have hz5 := Nat.lt_of_lt_of_le hz4 m5.size
  clear q0 q1 q2 q3 q4 q5 q6 q7 q8 hH3 hz3 hz4 hH4 P3 m4 m5 M5 L3
  go_wp2_with fail
  refine (PP.out C3 g3 cap3 w5 L5 (Row.of_own P5 (in_wf8 PI.out))).mono ?_
  rintro e w6 ⟨v6, rfl, xa, xc, ya, yc, rfl, X6, Y6, m6⟩
  rw [HO.out] at X6
  rw [HP.out] at Y6
  rw [HO.out, HP.out]
  have hX7 := heap_alloc_new w6 (.cells #[.int .u8 sv, .int .u16 nu, .int .u16 fl, .int .u8 ho, .int .u8 pr, .int .u32 sr, .int .u32 ds, .slice xa on xc, .slice ya pn yc] 26)
  have l7 := (Below.refl w6.heap.size w6).alloc (Nat.le_refl _) (.cells #[.int .u8 sv, .int .u16 nu, .int .u16 fl, .int .u8 ho, .int .u8 pr, .int .u32 sr, .int .u32 ds, .slice xa on xc, .slice ya pn yc] 26)
  have m7 := m6.trans (l7.mono m6.size)
  have X7 := own_below X6 l7
  have Y7 := own_below Y6 l7
  have P7 := own_below P5 m7
  have L7 := L5.trans (m7.mono L5.size)
  have hH7 := (m7.block _ hz5).trans hH5
  have hz7 := Nat.lt_of_lt_of_le hz5 m7.size
  clear X6 Y6 m6 l7 m7 P5 L5 hH5 hz5
  obtain ⟨⟨q0, q1, q2, q3, q4, q5, q6, q7, q8⟩, _⟩ := nine_cells hH7
  obtain ⟨⟨t0, t1, t2, t3, t4, t5, t6, t7, t8⟩, _⟩ := nine_cells hX7
  go_wp2_with fail
  generalize w6.alloc (.cells #[.int .u8 sv, .int .u16 nu, .int .u16 fl, .int .u8 ho, .int .u8 pr, .int .u32 sr, .int .u32 ds, .slice xa on xc, .slice ya pn yc] 26) = w7 at *
  refine (refSame_any sv nu fl ho pr sr ds xa on xc ya pn yc sv nu fl ho pr sr ds oa on oc pa pn pc os ps os ps _ _ _ (Nat.le_refl _) (Nat.le_refl _) (Row.of_own X7 (in_wf8 (row_in (RO.out _ L7)))) HO.out (Row.of_own Y7 (in_wf8 (row_in (RP.out _ L7)))) HP.out (RO.out _ L7) HO.out (RP.out _ L7) HP.out).mono ?_
  rintro e w8 ⟨rfl, m8⟩
  rw [same_refl]
  have P8 := own_below P7 m8
  have L8 := L7.trans (m8.mono L7.size)
  have hH8 := (m8.block _ hz7).trans hH7
  clear q0 q1 q2 q3 q4 q5 q6 q7 q8 t0 t1 t2 t3 t4 t5 t6 t7 t8 hX7 X7 Y7 P7 L7 hH7 hz7 m8
  have q7 := (nine_cells hH8).1.2.2.2.2.2.2.2.1
  go_wp2_with fail
  refine (rright_any _ (20 + on) C3 (bs.take (20 + on)) (by rw [List.length_take, PL.out]; omega) (by omega) _ ((Row.of_own P8 (in_wf8 PI.out)).take _)).mono ?_
  rintro e w9 ⟨rfl, m9⟩
  rw [PT.out]
  have P9 := own_below P8 m9
  have L9 := L8.trans (m9.mono L8.size)
  clear q7 P8 L8 hH8 m9
  obtain ⟨i0, hi, hz0, hz1, hz2⟩ := info_parts Tryd.infoU8
  have l9 := (Below.refl w9.heap.size w9).alloc (Nat.le_refl _) (.cells #[] 5)
  have R9 := Lib.hid ((Row.of_own P9 (in_wf8 PI.out)).below l9)
  have b9 := L9.size
  have I9 := Lib.hid (show In 255 (bs ++ [a2]) from fun x hx => by
    rcases List.mem_append.1 hx with h | h
    · exact PI.out x h
    · rw [List.mem_singleton] at h
      subst h
      exact B2)
  have HL9 := Lib.hid (show (bs ++ [a2]).length = N + 1 by simp [PL.out])
  have W4 := Lib.hid (why_more WY.out a2)
  go_wp2_with (first
    | (at_builtin; refine wpList_append_row _ rfl (.tmp 73) (.tmp 74) 24 rfl w9.heap.size 5 i0 (.int .u8 0) 1 Tryd.underlying24 hi hz0 hz1 hz2 rfl (.slice (some ⟨w9.heap.size, 0, none⟩) 0 0) 0 [] rfl (own_built w9 w9.heap.size (Nat.le_refl _) 5 [] 0 rfl (by unfold maxLen; omega)) .u8 w9.heap.size (some ⟨g3, 0, none⟩) N C3 bs rfl PL.out R9.out (fun h => by cases h) (by unfold maxLen; omega) (by omega) (by simp) ?_; intro v10 w10 S10 hgrow10; simp only [Nat.zero_add, List.nil_append] at S10; have M10 := l9.grown hgrow10 l9.size (fun e he => by cases he <;> exact Nat.le_refl _))
    | (at_builtin; refine wpList_append_row _ rfl (.tmp 75) (.tmp 77) 24 rfl w9.heap.size 5 i0 (.int .u8 0) 1 Tryd.underlying24 hi hz0 hz1 hz2 rfl _ _ _ rfl (S10.alloc _) .u8 _ _ 1 1 [a2] rfl rfl (Row.built .u8 w10 5 [a2] (by intro n hn; rw [List.mem_singleton] at hn; subst hn; exact wf_u8.2 B2)) (fun h => by cases h) (by unfold maxLen; omega) (by omega) (by have := M10.size; simp; omega) ?_; intro v11 w11 S11 hgrow11; rw [← List.map_append] at S11; have M11 := below_append M10 M10.size S10 hgrow11; obtain ⟨A11, C11, rfl⟩ := own_slice S11))
  have L11 := L9.trans (M11.mono L9.size)
  have cap11 := own_cap S11
  refine (parse_no (bs ++ [a2]) A11 (N + 1) C11 HL9.out cap11.1 cap11.2 (by omega) w11 (GT.out _ L11) (WD.out _ L11) (Row.of_own S11 (in_wf8 I9.out)) (by rw [W4.out]; decide)).mono ?_
  rintro e w12 ⟨rfl, m12⟩
  rw [W4.out]
  have M12 := M11.trans ((m12.alloc m12.size (.cells #[.int .u8 0, .int .u16 0, .int .u16 0, .int .u8 0, .int .u8 0, .int .u32 0, .int .u32 0, .slice none 0 0, .slice none 0 0] 26)).mono M11.size)
  have P12 := own_below P9 M12
  have L12 := L9.trans (M12.mono L9.size)
  have g12 : g3 < (w12.alloc (.cells #[.int .u8 0, .int .u16 0, .int .u16 0, .int .u8 0, .int .u8 0, .int .u32 0, .int .u32 0, .slice none 0 0, .slice none 0 0] 26)).heap.size := (P12.lt g3 rfl).2
  clear S10 S11 M10 M11 hgrow10 hgrow11 cap11 L11 m12 P9 l9
  have hn1 : (0 : Int) ≤ (N : Int) - 1 := by omega
  have hn2 : (N : Int) - 1 ≤ (C3 : Int) := by omega
  go_wp2_with fail
  generalize w12.alloc (.cells #[.int .u8 0, .int .u16 0, .int .u16 0, .int .u8 0, .int .u8 0, .int .u32 0, .int .u32 0, .slice none 0 0, .slice none 0 0] 26) = w13 at *
  have hWL := why_less WY.out
  rw [PL.out] at hWL
  obtain ⟨Y3, hY3⟩ : ∃ Y, whyOf (bs.take (N - 1)) = Y := ⟨_, rfl⟩
  rw [hY3] at hWL
  have hY4 : (Y3 == 0) = false := by simpa using hWL
  refine (parse_told (bs.take (N - 1)) _ (N - 1) C3 (by rw [List.length_take, PL.out]; omega) (by omega) cap3.2 (by omega) w13 (GT.out _ L12) (WD.out _ L12) ((Row.of_own P12 (in_wf8 PI.out)).take _) Y3 hY3).mono ?_
  rintro e w14 ⟨s4, n4, f4, h4, p4, r4, d4, oa4, on4, oc4, pa4, pn4, pc4, rfl, m14⟩
  have L14 := L12.trans ((m14.alloc m14.size (.cells #[.int .u8 s4, .int .u16 n4, .int .u16 f4, .int .u8 h4, .int .u8 p4, .int .u32 r4, .int .u32 d4, .slice oa4 on4 oc4, .slice pa4 pn4 pc4] 26)).mono L12.size)
  clear hWL hY3 P12 L12 m14 M12 g12
  go_wp2_with fail
  refine (PZ.out _ L14).mono ?_
  rintro e wA (⟨hy, rfl, mA⟩ | ⟨hy, vA, rfl, ba, bc, ca, cc, rfl, UA, VA, mA⟩)
  · obtain ⟨Y, hY⟩ : ∃ Y, whyOf zs = Y := ⟨_, rfl⟩
    have hYi := why_in zs
    rw [hY] at hy hYi ⊢
    have hY0 : (Y != 0) = true := by simpa using hy
    have hY6 : decide (Y ≤ 6) = true := decide_eq_true hYi.2
    have lA := mA.alloc mA.size (.cells #[.int .u8 0, .int .u16 0, .int .u16 0, .int .u8 0, .int .u8 0, .int .u32 0, .int .u32 0, .slice none 0 0, .slice none 0 0] 26)
    have LA := L14.trans (lA.mono L14.size)
    have hZA := heap_alloc_new wA (.cells #[.int .u8 0, .int .u16 0, .int .u16 0, .int .u8 0, .int .u8 0, .int .u32 0, .int .u32 0, .slice none 0 0, .slice none 0 0] 26)
    obtain ⟨⟨q0, q1, q2, q3, q4, q5, q6, q7, q8⟩, _⟩ := nine_cells hZA
    clear hY hy lA mA hYi
    go_wp2_with fail
    refine (same_zero _).mono ?_
    rintro e wB ⟨rfl, mB⟩
    have LB := LA.trans (mB.mono LA.size)
    clear q0 q1 q2 q3 q4 q5 q6 q7 q8 hZA mB LA
    go_wp2_with (go_at_call 9; refine (wakes_any _ (GT.out _ LB) (WD.out _ LB)).mono ?_; rintro e w20 ⟨rfl, m20⟩)
    go_ret
    exact ⟨rfl, LB.trans (m20.mono LB.size)⟩
  · obtain ⟨N1, N2, N3⟩ := put_parse (row_in (RZ.out _ L14)) hy
    have I1 := Lib.hid (in_wf8 (in_drop (in_take (row_in (RZ.out _ L14)) (hlOf zs)) 20))
    have I2 := Lib.hid (in_wf8 (in_drop (row_in (RZ.out _ L14)) (hlOf zs)))
    generalize segAt zs 1 % 256 = sv' at *
    generalize segAt zs 3 % 65536 = nu' at *
    generalize segAt zs 4 % 65536 = fl' at *
    generalize segAt zs 5 % 256 = ho' at *
    generalize segAt zs 6 % 256 = pr' at *
    generalize segAt zs 8 = sr' at *
    generalize segAt zs 9 = ds' at *
    generalize (zs.take (hlOf zs)).drop 20 = os' at *
    generalize zs.drop (hlOf zs) = ps' at *
    have N1 := Lib.hid N1
    have N2 := Lib.hid N2
    have N3 := Lib.hid N3
    have hXA := heap_alloc_new wA (.cells #[.int .u8 sv', .int .u16 nu', .int .u16 fl', .int .u8 ho', .int .u8 pr', .int .u32 sr', .int .u32 ds', .slice ba os'.length bc, .slice ca ps'.length cc] 26)
    have lA := (Below.refl wA.heap.size wA).alloc (Nat.le_refl _) (.cells #[.int .u8 sv', .int .u16 nu', .int .u16 fl', .int .u8 ho', .int .u8 pr', .int .u32 sr', .int .u32 ds', .slice ba os'.length bc, .slice ca ps'.length cc] 26)
    have LA := L14.trans ((mA.trans (lA.mono mA.size)).mono L14.size)
    have UB := own_below UA lA
    have VB := own_below VA lA
    obtain ⟨⟨q0, q1, q2, q3, q4, q5, q6, q7, q8⟩, _⟩ := nine_cells hXA
    have z00 : ((0 : Int) != 0) = false := by decide
    clear hy UA VA mA lA
    go_wp2_with fail
    generalize wA.alloc (.cells #[.int .u8 sv', .int .u16 nu', .int .u16 fl', .int .u8 ho', .int .u8 pr', .int .u32 sr', .int .u32 ds', .slice ba os'.length bc, .slice ca ps'.length cc] 26) = wB at *
    refine (put_n sv' nu' fl' ho' pr' sr' ds' ba os'.length bc ca ps'.length cc os' ps' N1.out N2.out wB (GT.out _ LA) (WD.out _ LA) (Row.of_own UB I1.out) rfl (own_nil UB) (Row.of_own VB I2.out) rfl (own_nil VB)).mono ?_
    rintro e wC ⟨AC, CC, rfl, PC, mC⟩
    rw [N3.out] at PC
    have LC := LA.trans (mC.mono LA.size)
    have s1 := (Row.of_own PC (in_wf8 (row_in (RZ.out _ LC)))).str (20 + os'.length + ps'.length) CC (by have := PC.1; simpa using this)
    have s2 := (RZ.out _ LC).str len1 cap1 ZL.out
    generalize strOfNums zs = ST at s1 s2
    clear q0 q1 q2 q3 q4 q5 q6 q7 q8 hXA UB VB PC LA mC
    go_wp2_with (go_at_call 9; refine (wakes_any _ (GT.out _ LC) (WD.out _ LC)).mono ?_; rintro e w20 ⟨rfl, m20⟩)
    go_ret
    exact ⟨rfl, LC.trans (m20.mono LC.size)⟩
end Go.Proofs.YtjofijigfkkidaaDoor
