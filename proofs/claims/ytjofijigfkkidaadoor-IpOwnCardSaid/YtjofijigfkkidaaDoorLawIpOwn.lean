/- 'handfastlaw02.IpOwn' returns true at every head, and leaves what lay as it lay. -/
import Derived.Test.YtjofijigfkkidaaDoorIpB
namespace Go.Proofs.YtjofijigfkkidaaDoor
open Go.RowKit
open SumM

theorem same_self (sv nu fl ho pr sr ds : Int) (os ps : List Int) : sameB sv nu fl ho pr sr ds os ps sv nu fl ho pr sr ds os ps = true := by simp [sameB]

set_option maxRecDepth 100000 in
set_option maxHeartbeats 4000000 in
theorem ipOwn_walk (sv nu fl ho pr sr ds : Int) (oa : Option Addr) (on oc : Nat) (pa : Option Addr) (pn pc : Nat) (os ps : List Int) (w : World) (hg : 0 < w.heap.size) (hW : Wid w) (h : IsHead w sv nu fl ho pr sr ds oa on oc pa pn pc os ps) :
    Calls Tryd.prog 7 #[.agg #[.int .u8 sv, .int .u16 nu, .int .u16 fl, .int .u8 ho, .int .u8 pr, .int .u32 sr, .int .u32 ds, .slice oa on oc, .slice pa pn pc]] w fun e w' => e = .returned (.bool true) ∧ Below w.heap.size w w' := by
  obtain ⟨hN, hro, hol, hon, hoc, hrp, hpl, hpn, hpc⟩ := h
  unfold maxLen at hoc hpc
  have HN := Lib.hid hN
  have HO := Lib.hid hol
  have HP := Lib.hid hpl
  have NO := Lib.hid hon
  have NP := Lib.hid hpn
  have RO := Lib.hid (fun W (m : Below w.heap.size w W) => (hro.below m).more m.size)
  have RP := Lib.hid (fun W (m : Below w.heap.size w W) => (hrp.below m).more m.size)
  have WD := Lib.hid (fun W (m : Below w.heap.size w W) => hW.below hg m)
  have GT := Lib.hid (fun W (m : Below w.heap.size w W) => Nat.lt_of_lt_of_le hg m.size)
  clear hol hpl hon hpn hN hro hrp hW
  have hH0 := heap_alloc_new w (.cells #[.int .u8 sv, .int .u16 nu, .int .u16 fl, .int .u8 ho, .int .u8 pr, .int .u32 sr, .int .u32 ds, .slice oa on oc, .slice pa pn pc] 26)
  have L0 := (Below.refl w.heap.size w).alloc (Nat.le_refl _) (.cells #[.int .u8 sv, .int .u16 nu, .int .u16 fl, .int .u8 ho, .int .u8 pr, .int .u32 sr, .int .u32 ds, .slice oa on oc, .slice pa pn pc] 26)
  have hz0 : w.heap.size < (w.alloc (.cells #[.int .u8 sv, .int .u16 nu, .int .u16 fl, .int .u8 ho, .int .u8 pr, .int .u32 sr, .int .u32 ds, .slice oa on oc, .slice pa pn pc] 26)).heap.size := by simp
  by_cases hgr : greatB on pn = true
  · have HG := Lib.hid hgr
    clear hgr
    go_enter Tryd.func7, Tryd.ntmps7
    go_wp2_with (first
      | (go_at_call 8; refine (refGreat_any sv nu fl ho pr sr ds oa on oc pa pn pc _ (by omega) (by omega)).mono ?_; rintro e w1 ⟨rfl, m1⟩; rw [HG.out]; have L1 := L0.trans (m1.mono L0.size))
      | (go_at_call 9; refine (wakes_any _ (GT.out _ L1) (WD.out _ L1)).mono ?_; rintro e w2 ⟨rfl, m2⟩))
    go_ret
    exact ⟨rfl, L1.trans (m2.mono L1.size)⟩
  have hle : on ≤ 100 ∧ pn ≤ 300 := by
    simp [greatB] at hgr
    omega
  have HG := Lib.hid (show greatB on pn = false by simpa using hgr)
  clear hgr
  by_cases hrt : rightB fl on pn = true
  · have HR := Lib.hid hrt
    clear hrt
    go_enter Tryd.func7, Tryd.ntmps7
    go_wp2_with fail
    generalize w.alloc (.cells #[.int .u8 sv, .int .u16 nu, .int .u16 fl, .int .u8 ho, .int .u8 pr, .int .u32 sr, .int .u32 ds, .slice oa on oc, .slice pa pn pc] 26) = W0 at *
    refine (refGreat_any sv nu fl ho pr sr ds oa on oc pa pn pc _ (by omega) (by omega)).mono ?_
    rintro e w1 ⟨rfl, m1⟩
    rw [HG.out]
    have L1 := L0.trans (m1.mono L0.size)
    have hH1 := (m1.block _ hz0).trans hH0
    have hz1 := Nat.lt_of_lt_of_le hz0 m1.size
    obtain ⟨⟨q0, q1, q2, q3, q4, q5, q6, q7, q8⟩, _⟩ := nine_cells hH1
    clear hH0 L0 m1 hz0
    go_wp2_with fail
    refine (refOwn_any sv nu fl ho pr sr ds oa on oc pa pn pc os ps _ (RO.out _ L1) HO.out NO.out (RP.out _ L1) HP.out NP.out (by omega) (by omega)).mono ?_
    rintro e w2 ⟨v2, rfl, ua, uc, ra, rc, rfl, U2, R2, m2⟩
    rw [HO.out] at U2
    rw [HP.out] at R2
    rw [HO.out, HP.out]
    clear q0 q1 q2 q3 q4 q5 q6 q7 q8
    have hB2 := heap_alloc_new w2 (.cells #[.int .u8 sv, .int .u16 nu, .int .u16 fl, .int .u8 ho, .int .u8 pr, .int .u32 sr, .int .u32 ds, .slice ua on uc, .slice ra pn rc] 26)
    have l2 := (Below.refl w2.heap.size w2).alloc (Nat.le_refl _) (.cells #[.int .u8 sv, .int .u16 nu, .int .u16 fl, .int .u8 ho, .int .u8 pr, .int .u32 sr, .int .u32 ds, .slice ua on uc, .slice ra pn rc] 26)
    have z2 : w2.heap.size < (w2.alloc (.cells #[.int .u8 sv, .int .u16 nu, .int .u16 fl, .int .u8 ho, .int .u8 pr, .int .u32 sr, .int .u32 ds, .slice ua on uc, .slice ra pn rc] 26)).heap.size := by simp
    have hH2 := (m2.block _ hz1).trans hH1
    have hH2' := (l2.block _ (Nat.lt_of_lt_of_le hz1 m2.size)).trans hH2
    obtain ⟨⟨q0, q1, q2, q3, q4, q5, q6, q7, q8⟩, _⟩ := nine_cells hH2'
    go_wp2_with fail
    generalize w2.alloc (.cells #[.int .u8 sv, .int .u16 nu, .int .u16 fl, .int .u8 ho, .int .u8 pr, .int .u32 sr, .int .u32 ds, .slice ua on uc, .slice ra pn rc] 26) = w3 at *
    generalize hb3 : w2.heap.size = b3 at *
    have HB3 := Lib.hid hb3
    have L2 := L1.trans (m2.mono L1.size)
    have L3 := L2.trans (l2.mono (by rw [← HB3.out]; exact L2.size))
    have U3 := own_base (own_below U2 (by rw [HB3.out]; exact l2)) L1.size
    have R3 := own_base (own_below R2 (by rw [HB3.out]; exact l2)) L1.size
    clear hb3 q0 q1 q2 q3 q4 q5 q6 q7 q8 U2 R2 hH2 hH1 L1 L2 m2 l2 hz1
    refine (put_n sv nu fl ho pr sr ds oa on oc pa pn pc os ps HN.out HR.out _ (GT.out _ L3) (WD.out _ L3) (RO.out _ L3) HO.out NO.out (RP.out _ L3) HP.out NP.out).mono ?_
    rintro e w4 ⟨A4, C4, rfl, P4, m4⟩
    have L4 := L3.trans (m4.mono L3.size)
    have P4 := own_base P4 L3.size
    have U4 := own_below U3 m4
    have R4 := own_below R3 m4
    have hB4 := (m4.block _ z2).trans hB2
    have hH4 := (m4.block _ (Array.getElem?_eq_some_iff.1 hH2').1).trans hH2'
    obtain ⟨⟨q0, q1, q2, q3, q4, q5, q6, q7, q8⟩, _⟩ := nine_cells hH4
    clear hB2 hH2' U3 R3 L3 m4 z2
    go_wp2_with fail
    refine (ipOwn_any sv nu fl ho pr sr ds oa on oc pa pn pc os ps _ (RO.out _ L4) HO.out NO.out (RP.out _ L4) HP.out NP.out (by omega) (by omega)).mono ?_
    rintro e w5 ⟨v5, rfl, qa, qc, ta, tc, rfl, Q5, T5, m5⟩
    rw [HO.out] at Q5
    rw [HP.out] at T5
    rw [HO.out, HP.out]
    have hX6 := heap_alloc_new w5 (.cells #[.int .u8 sv, .int .u16 nu, .int .u16 fl, .int .u8 ho, .int .u8 pr, .int .u32 sr, .int .u32 ds, .slice qa on qc, .slice ta pn tc] 26)
    have l6 := (Below.refl w5.heap.size w5).alloc (Nat.le_refl _) (.cells #[.int .u8 sv, .int .u16 nu, .int .u16 fl, .int .u8 ho, .int .u8 pr, .int .u32 sr, .int .u32 ds, .slice qa on qc, .slice ta pn tc] 26)
    have m6 := m5.trans (l6.mono m5.size)
    have Q6 := Bytes.of (own_below Q5 l6) (row_in (RO.out _ L4))
    have T6 := Bytes.of (own_below T5 l6) (row_in (RP.out _ L4))
    clear q0 q1 q2 q3 q4 q5 q6 q7 q8 Q5 T5 m5 l6
    go_wp2
    generalize w5.alloc (.cells #[.int .u8 sv, .int .u16 nu, .int .u16 fl, .int .u8 ho, .int .u8 pr, .int .u32 sr, .int .u32 ds, .slice qa on qc, .slice ta pn tc] 26) = w6 at *
    generalize w5.heap.size = b6 at *
    go_loopw [7] (fun i wr => ∃ k : Nat, k ≤ on ∧ i = .int .i64 k ∧ Below w4.heap.size w4 wr ∧ wr.heap[b6]? = some (.cells #[.int .u8 sv, .int .u16 nu, .int .u16 fl, .int .u8 ho, .int .u8 pr, .int .u32 sr, .int .u32 ds, .slice qa on qc, .slice ta pn tc] 26 (0, 0)) ∧ Bytes wr w4.heap.size (.slice qa on qc) on ∧ Bytes wr w4.heap.size (.slice ta pn tc) pn) (fun i _ => on - (intOf i).toNat)
    case atStart => exact ⟨0, by omega, rfl, m6, hX6, Q6, T6⟩
    case round =>
      obtain ⟨k, hk, rfl, mk, hX, hQ, hT⟩ := hrel
      have hN := nine_cells hX
      have x7 := hN.1.2.2.2.2.2.2.2.1
      by_cases hlt : k < on
      · have hQ' := Lib.hid hQ
        have hT' := Lib.hid hT
        have hX' := Lib.hid hX
        obtain ⟨zs, hzl, hzi, hz⟩ := hQ
        obtain ⟨g, rfl, hgb, hgl⟩ := own_addr hz (by omega)
        have hc := own_cell hz k hlt
        have hf := hz.frozenAt k
        have hv := getD_in hzi (by decide) k
        have HZ := Lib.hid hz
        clear hzl hz hX hT hN hX6 Q6 T6 m6
        go_wp2
        go_region
        go_wp2
        go_roundw
        case rel => exact ⟨k + 1, by omega, by go_num, (mk.setCell (p := ⟨g, k, none⟩) hgb _).drew, box_store HZ.out hX'.out (by decide) k _, hQ'.out.store g k _ (xor_in _ _ hv (by decide)), hT'.out.store g k _ (xor_in _ _ hv (by decide))⟩
        case measure => simp [intOf]; omega
      · obtain rfl : k = on := by omega
        clear hX6 Q6 T6 m6 hlt hN
        have x8 := (nine_cells hX).1.2.2.2.2.2.2.2.2
        go_wp2
        clear x8 x7
        go_loopw [8] (fun i wr => ∃ j : Nat, j ≤ pn ∧ i = .int .i64 j ∧ Below w4.heap.size w4 wr ∧ wr.heap[b6]? = some (.cells #[.int .u8 sv, .int .u16 nu, .int .u16 fl, .int .u8 ho, .int .u8 pr, .int .u32 sr, .int .u32 ds, .slice qa k qc, .slice ta pn tc] 26 (0, 0)) ∧ Bytes wr w4.heap.size (.slice ta pn tc) pn) (fun i _ => pn - (intOf i).toNat)
        case atStart => exact ⟨0, by omega, rfl, mk, hX, hT⟩
        case round =>
          obtain ⟨j, hj, rfl, mj, hX2, hT2⟩ := hrel
          have x8 := (nine_cells hX2).1.2.2.2.2.2.2.2.2
          by_cases hlt : j < pn
          · have hT' := Lib.hid hT2
            have hX' := Lib.hid hX2
            obtain ⟨zs, hzl, hzi, hz⟩ := hT2
            obtain ⟨g, rfl, hgb, hgl⟩ := own_addr hz (by omega)
            have hc := own_cell hz j hlt
            have hf := hz.frozenAt j
            have hv := getD_in hzi (by decide) j
            have HZ := Lib.hid hz
            clear hzl hz hX2 hX hQ hT mk
            go_wp2
            go_region
            go_wp2
            go_roundw
            case rel => exact ⟨j + 1, by omega, by go_num, (mj.setCell (p := ⟨g, j, none⟩) hgb _).drew, box_store HZ.out hX'.out (by decide) j _, hT'.out.store g j _ (xor_in _ _ hv (by decide))⟩
            case measure => simp [intOf]; omega
          · obtain rfl : j = pn := by omega
            clear hX hQ hT mk hlt
            have P5 := own_below P4 mj
            have U5 := own_below U4 mj
            have R5 := own_below R4 mj
            have L5 := L4.trans (mj.mono L4.size)
            have hB5 := (mj.block _ (Array.getElem?_eq_some_iff.1 hB4).1).trans hB4
            have hH5 := (mj.block _ (Array.getElem?_eq_some_iff.1 hH4).1).trans hH4
            clear hX2 hT2 mj P4 U4 R4 L4 hB4 hH4
            have PI := Lib.hid (putOf_in (sv := sv) (nu := nu) (fl := fl) (ho := ho) (pr := pr) (sr := sr) (ds := ds) (on := k) (pn := j) (row_in (RO.out _ L5)) (row_in (RP.out _ L5)))
            have PL := Lib.hid (putOf_length os ps HN.out (rightB_le HR.out) HO.out HP.out)
            generalize hbs : putOf sv nu fl ho pr sr ds k j os ps = bs at *
            have HBS := Lib.hid hbs
            clear hbs
            obtain ⟨i0, hi, hz0, hz1, hz2⟩ := info_parts Tryd.infoU8
            go_wp2_with (at_builtin; refine wpList_append_row _ rfl (.tmp 67) (.tmp 68) 24 rfl wr.heap.size 5 i0 (.int .u8 0) 1 Tryd.underlying24 hi hz0 hz1 hz2 rfl (.slice (some ⟨wr.heap.size, 0, none⟩) 0 0) 0 [] rfl (own_built wr wr.heap.size (Nat.le_refl _) 5 [] 0 rfl (by unfold maxLen; omega)) .u8 wr.heap.size A4 (20 + k + j) C4 bs rfl PL.out ((Row.of_own P5 (in_wf8 PI.out)).below ((Below.refl _ _).alloc (Nat.le_refl _) _)) (own_nil P5) (by unfold maxLen; omega) (by omega) (by simp) ?_; intro v7 w7 S7 hgrow7; simp only [Nat.zero_add, List.nil_append] at S7; have m7 := ((Below.refl wr.heap.size wr).alloc (Nat.le_refl _) (.cells #[] 5)).grown hgrow7 (by simp) (fun e he => by cases he <;> exact Nat.le_refl _); obtain ⟨A7, C7, rfl⟩ := own_slice S7)
            have P7 := own_below P5 m7
            have U7 := own_below U5 m7
            have R7 := own_below R5 m7
            have L7 := L5.trans (m7.mono L5.size)
            have S7 := own_base S7 L5.size
            have hB7 := (m7.block _ (Array.getElem?_eq_some_iff.1 hB5).1).trans hB5
            have hH7 := (m7.block _ (Array.getElem?_eq_some_iff.1 hH5).1).trans hH5
            clear P5 U5 R5 L5 hB5 hH5 m7 hgrow7
            have CP := own_cap P7
            refine (parse_put sv nu fl ho pr sr ds k j os ps HN.out HR.out HO.out HP.out A4 _ C4 rfl CP.1 CP.2 _ (GT.out _ L7) (WD.out _ L7) (by rw [HBS.out]; exact Row.of_own P7 (in_wf8 PI.out))).mono ?_
            rintro e w8 ⟨v8, rfl, xa, xc, ya, yc, rfl, X8, Y8, m8⟩
            clear CP
            rw [HO.out] at X8
            rw [HP.out] at Y8
            rw [HO.out, HP.out]
            have hX9 := heap_alloc_new w8 (.cells #[.int .u8 sv, .int .u16 nu, .int .u16 fl, .int .u8 ho, .int .u8 pr, .int .u32 sr, .int .u32 ds, .slice xa k xc, .slice ya j yc] 26)
            have l9 := (Below.refl w8.heap.size w8).alloc (Nat.le_refl _) (.cells #[.int .u8 sv, .int .u16 nu, .int .u16 fl, .int .u8 ho, .int .u8 pr, .int .u32 sr, .int .u32 ds, .slice xa k xc, .slice ya j yc] 26)
            have m9 := m8.trans (l9.mono m8.size)
            have Y9 := Bytes.of (own_below Y8 l9) (row_in (RP.out _ L7))
            clear X8 Y8 m8 l9
            go_wp2
            generalize w8.alloc (.cells #[.int .u8 sv, .int .u16 nu, .int .u16 fl, .int .u8 ho, .int .u8 pr, .int .u32 sr, .int .u32 ds, .slice xa k xc, .slice ya j yc] 26) = w9 at *
            generalize w8.heap.size = b9 at *
            go_loopw [12] (fun i wr => ∃ q : Nat, q ≤ j ∧ i = .int .i64 q ∧ Below w7.heap.size w7 wr ∧ wr.heap[b9]? = some (.cells #[.int .u8 sv, .int .u16 nu, .int .u16 fl, .int .u8 ho, .int .u8 pr, .int .u32 sr, .int .u32 ds, .slice xa k xc, .slice ya j yc] 26 (0, 0)) ∧ Bytes wr w7.heap.size (.slice ya j yc) j) (fun i _ => j - (intOf i).toNat)
            case atStart => exact ⟨0, by omega, rfl, m9, hX9, Y9⟩
            case round =>
              obtain ⟨q, hq, rfl, mj, hX2, hT2⟩ := hrel
              have x8 := (nine_cells hX2).1.2.2.2.2.2.2.2.2
              by_cases hlt : q < j
              · have hT' := Lib.hid hT2
                have hX' := Lib.hid hX2
                obtain ⟨zs, hzl, hzi, hz⟩ := hT2
                obtain ⟨g, rfl, hgb, hgl⟩ := own_addr hz (by omega)
                have hc := own_cell hz q hlt
                have hf := hz.frozenAt q
                have hv := getD_in hzi (by decide) q
                have HZ := Lib.hid hz
                clear hzl hz hX2 hX9 Y9 m9
                go_wp2
                go_region
                go_wp2
                go_roundw
                case rel => exact ⟨q + 1, by omega, by go_num, (mj.setCell (p := ⟨g, q, none⟩) hgb _).drew, box_store HZ.out hX'.out (by decide) q _, hT'.out.store g q _ (xor_in _ _ hv (by decide))⟩
                case measure => simp [intOf]; omega
              · obtain rfl : q = j := by omega
                have PA := own_below P7 mj
                have UA := own_below U7 mj
                have RA := own_below R7 mj
                have SA := own_below S7 mj
                have LA := L7.trans (mj.mono L7.size)
                have hBA := (mj.block _ (Array.getElem?_eq_some_iff.1 hB7).1).trans hB7
                have hHA := (mj.block _ (Array.getElem?_eq_some_iff.1 hH7).1).trans hH7
                obtain ⟨⟨q0, q1, q2, q3, q4, q5, q6, q7, q8⟩, _⟩ := nine_cells hHA
                obtain ⟨⟨t0, t1, t2, t3, t4, t5, t6, t7, t8⟩, _⟩ := nine_cells hBA
                clear hX2 hT2 mj P7 U7 R7 S7 L7 hB7 hH7 hlt hX9 Y9 m9
                go_wp2_with fail
                refine (refSame_any sv nu fl ho pr sr ds oa k oc pa q pc sv nu fl ho pr sr ds ua k uc ra q rc os ps os ps _ _ _ (Nat.le_refl _) (Nat.le_refl _) (RO.out _ LA) HO.out (RP.out _ LA) HP.out (Row.of_own UA (in_wf8 (row_in (RO.out _ LA)))) HO.out (Row.of_own RA (in_wf8 (row_in (RP.out _ LA)))) HP.out).mono ?_
                rintro e wB ⟨rfl, mB⟩
                rw [same_self]
                have LB := LA.trans (mB.mono LA.size)
                have s1 := (Row.of_own (own_below PA mB) (in_wf8 PI.out)).str (20 + k + q) C4 PL.out
                have s2 := (Row.of_own (own_below SA mB) (in_wf8 PI.out)).str (20 + k + q) C7 PL.out
                generalize strOfNums bs = ST at s1 s2
                clear q0 q1 q2 q3 q4 q5 q6 q7 q8 t0 t1 t2 t3 t4 t5 t6 t7 t8 PA UA RA SA LA hBA hHA mB
                go_wp2_with (go_at_call 9; refine (wakes_any _ (GT.out _ LB) (WD.out _ LB)).mono ?_; rintro e wC ⟨rfl, mC⟩)
                go_ret
                exact ⟨rfl, LB.trans (mC.mono LB.size)⟩
  · have HR := Lib.hid (show rightB fl on pn = false by simpa using hrt)
    clear hrt
    go_enter Tryd.func7, Tryd.ntmps7
    go_wp2_with fail
    generalize w.alloc (.cells #[.int .u8 sv, .int .u16 nu, .int .u16 fl, .int .u8 ho, .int .u8 pr, .int .u32 sr, .int .u32 ds, .slice oa on oc, .slice pa pn pc] 26) = W0 at *
    refine (refGreat_any sv nu fl ho pr sr ds oa on oc pa pn pc _ (by omega) (by omega)).mono ?_
    rintro e w1 ⟨rfl, m1⟩
    rw [HG.out]
    have L1 := L0.trans (m1.mono L0.size)
    have hH1 := (m1.block _ hz0).trans hH0
    have hz1 := Nat.lt_of_lt_of_le hz0 m1.size
    obtain ⟨⟨q0, q1, q2, q3, q4, q5, q6, q7, q8⟩, _⟩ := nine_cells hH1
    clear hH0 L0 m1 hz0
    go_wp2_with fail
    refine (refOwn_any sv nu fl ho pr sr ds oa on oc pa pn pc os ps _ (RO.out _ L1) HO.out NO.out (RP.out _ L1) HP.out NP.out (by omega) (by omega)).mono ?_
    rintro e w2 ⟨v2, rfl, ua, uc, ra, rc, rfl, U2, R2, m2⟩
    rw [HO.out] at U2
    rw [HP.out] at R2
    rw [HO.out, HP.out]
    clear q0 q1 q2 q3 q4 q5 q6 q7 q8
    have hB2 := heap_alloc_new w2 (.cells #[.int .u8 sv, .int .u16 nu, .int .u16 fl, .int .u8 ho, .int .u8 pr, .int .u32 sr, .int .u32 ds, .slice ua on uc, .slice ra pn rc] 26)
    have l2 := (Below.refl w2.heap.size w2).alloc (Nat.le_refl _) (.cells #[.int .u8 sv, .int .u16 nu, .int .u16 fl, .int .u8 ho, .int .u8 pr, .int .u32 sr, .int .u32 ds, .slice ua on uc, .slice ra pn rc] 26)
    have z2 : w2.heap.size < (w2.alloc (.cells #[.int .u8 sv, .int .u16 nu, .int .u16 fl, .int .u8 ho, .int .u8 pr, .int .u32 sr, .int .u32 ds, .slice ua on uc, .slice ra pn rc] 26)).heap.size := by simp
    have hH2 := (m2.block _ hz1).trans hH1
    have hH2' := (l2.block _ (Nat.lt_of_lt_of_le hz1 m2.size)).trans hH2
    obtain ⟨⟨q0, q1, q2, q3, q4, q5, q6, q7, q8⟩, _⟩ := nine_cells hH2'
    go_wp2_with fail
    generalize w2.alloc (.cells #[.int .u8 sv, .int .u16 nu, .int .u16 fl, .int .u8 ho, .int .u8 pr, .int .u32 sr, .int .u32 ds, .slice ua on uc, .slice ra pn rc] 26) = w3 at *
    generalize hb3 : w2.heap.size = b3 at *
    have HB3 := Lib.hid hb3
    have L2 := L1.trans (m2.mono L1.size)
    have L3 := L2.trans (l2.mono (by rw [← HB3.out]; exact L2.size))
    have U3 := own_base (own_below U2 (by rw [HB3.out]; exact l2)) L1.size
    have R3 := own_base (own_below R2 (by rw [HB3.out]; exact l2)) L1.size
    clear hb3 q0 q1 q2 q3 q4 q5 q6 q7 q8 U2 R2 hH2 hH1 L1 L2 m2 l2 hz1
    refine (ipPut_no sv nu fl ho pr sr ds oa on oc pa pn pc HR.out (by omega) (by omega) _).mono ?_
    rintro e w4 ⟨rfl, m4⟩
    have L4 := L3.trans (m4.mono L3.size)
    have U4 := own_below U3 m4
    have R4 := own_below R3 m4
    have hB4 := (m4.block _ z2).trans hB2
    have hH4 := (m4.block _ (Array.getElem?_eq_some_iff.1 hH2').1).trans hH2'
    obtain ⟨⟨q0, q1, q2, q3, q4, q5, q6, q7, q8⟩, _⟩ := nine_cells hH4
    clear hB2 hH2' U3 R3 L3 m4 z2
    go_wp2_with fail
    refine (ipOwn_any sv nu fl ho pr sr ds oa on oc pa pn pc os ps _ (RO.out _ L4) HO.out NO.out (RP.out _ L4) HP.out NP.out (by omega) (by omega)).mono ?_
    rintro e w5 ⟨v5, rfl, qa, qc, ta, tc, rfl, Q5, T5, m5⟩
    rw [HO.out] at Q5
    rw [HP.out] at T5
    rw [HO.out, HP.out]
    have hX6 := heap_alloc_new w5 (.cells #[.int .u8 sv, .int .u16 nu, .int .u16 fl, .int .u8 ho, .int .u8 pr, .int .u32 sr, .int .u32 ds, .slice qa on qc, .slice ta pn tc] 26)
    have l6 := (Below.refl w5.heap.size w5).alloc (Nat.le_refl _) (.cells #[.int .u8 sv, .int .u16 nu, .int .u16 fl, .int .u8 ho, .int .u8 pr, .int .u32 sr, .int .u32 ds, .slice qa on qc, .slice ta pn tc] 26)
    have m6 := m5.trans (l6.mono m5.size)
    have Q6 := Bytes.of (own_below Q5 l6) (row_in (RO.out _ L4))
    have T6 := Bytes.of (own_below T5 l6) (row_in (RP.out _ L4))
    clear q0 q1 q2 q3 q4 q5 q6 q7 q8 Q5 T5 m5 l6
    go_wp2
    generalize w5.alloc (.cells #[.int .u8 sv, .int .u16 nu, .int .u16 fl, .int .u8 ho, .int .u8 pr, .int .u32 sr, .int .u32 ds, .slice qa on qc, .slice ta pn tc] 26) = w6 at *
    generalize w5.heap.size = b6 at *
    go_loopw [7] (fun i wr => ∃ k : Nat, k ≤ on ∧ i = .int .i64 k ∧ Below w4.heap.size w4 wr ∧ wr.heap[b6]? = some (.cells #[.int .u8 sv, .int .u16 nu, .int .u16 fl, .int .u8 ho, .int .u8 pr, .int .u32 sr, .int .u32 ds, .slice qa on qc, .slice ta pn tc] 26 (0, 0)) ∧ Bytes wr w4.heap.size (.slice qa on qc) on ∧ Bytes wr w4.heap.size (.slice ta pn tc) pn) (fun i _ => on - (intOf i).toNat)
    case atStart => exact ⟨0, by omega, rfl, m6, hX6, Q6, T6⟩
    case round =>
      obtain ⟨k, hk, rfl, mk, hX, hQ, hT⟩ := hrel
      have hN := nine_cells hX
      have x7 := hN.1.2.2.2.2.2.2.2.1
      by_cases hlt : k < on
      · have hQ' := Lib.hid hQ
        have hT' := Lib.hid hT
        have hX' := Lib.hid hX
        obtain ⟨zs, hzl, hzi, hz⟩ := hQ
        obtain ⟨g, rfl, hgb, hgl⟩ := own_addr hz (by omega)
        have hc := own_cell hz k hlt
        have hf := hz.frozenAt k
        have hv := getD_in hzi (by decide) k
        have HZ := Lib.hid hz
        clear hzl hz hX hT hN hX6 Q6 T6 m6
        go_wp2
        go_region
        go_wp2
        go_roundw
        case rel => exact ⟨k + 1, by omega, by go_num, (mk.setCell (p := ⟨g, k, none⟩) hgb _).drew, box_store HZ.out hX'.out (by decide) k _, hQ'.out.store g k _ (xor_in _ _ hv (by decide)), hT'.out.store g k _ (xor_in _ _ hv (by decide))⟩
        case measure => simp [intOf]; omega
      · obtain rfl : k = on := by omega
        clear hX6 Q6 T6 m6 hlt hN
        have x8 := (nine_cells hX).1.2.2.2.2.2.2.2.2
        go_wp2
        clear x8 x7
        go_loopw [8] (fun i wr => ∃ j : Nat, j ≤ pn ∧ i = .int .i64 j ∧ Below w4.heap.size w4 wr ∧ wr.heap[b6]? = some (.cells #[.int .u8 sv, .int .u16 nu, .int .u16 fl, .int .u8 ho, .int .u8 pr, .int .u32 sr, .int .u32 ds, .slice qa k qc, .slice ta pn tc] 26 (0, 0)) ∧ Bytes wr w4.heap.size (.slice ta pn tc) pn) (fun i _ => pn - (intOf i).toNat)
        case atStart => exact ⟨0, by omega, rfl, mk, hX, hT⟩
        case round =>
          obtain ⟨j, hj, rfl, mj, hX2, hT2⟩ := hrel
          have x8 := (nine_cells hX2).1.2.2.2.2.2.2.2.2
          by_cases hlt : j < pn
          · have hT' := Lib.hid hT2
            have hX' := Lib.hid hX2
            obtain ⟨zs, hzl, hzi, hz⟩ := hT2
            obtain ⟨g, rfl, hgb, hgl⟩ := own_addr hz (by omega)
            have hc := own_cell hz j hlt
            have hf := hz.frozenAt j
            have hv := getD_in hzi (by decide) j
            have HZ := Lib.hid hz
            clear hzl hz hX2 hX hQ hT mk
            go_wp2
            go_region
            go_wp2
            go_roundw
            case rel => exact ⟨j + 1, by omega, by go_num, (mj.setCell (p := ⟨g, j, none⟩) hgb _).drew, box_store HZ.out hX'.out (by decide) j _, hT'.out.store g j _ (xor_in _ _ hv (by decide))⟩
            case measure => simp [intOf]; omega
          · obtain rfl : j = pn := by omega
            clear hX hQ hT mk hlt
            have U5 := own_below U4 mj
            have R5 := own_below R4 mj
            have L5 := L4.trans (mj.mono L4.size)
            have hB5 := (mj.block _ (Array.getElem?_eq_some_iff.1 hB4).1).trans hB4
            have hH5 := (mj.block _ (Array.getElem?_eq_some_iff.1 hH4).1).trans hH4
            clear hX2 hT2 mj U4 R4 L4 hB4 hH4
            obtain ⟨⟨q0, q1, q2, q3, q4, q5, q6, q7, q8⟩, _⟩ := nine_cells hH5
            obtain ⟨⟨t0, t1, t2, t3, t4, t5, t6, t7, t8⟩, _⟩ := nine_cells hB5
            go_wp2_with fail
            refine (refSame_any sv nu fl ho pr sr ds oa k oc pa j pc sv nu fl ho pr sr ds ua k uc ra j rc os ps os ps _ _ _ (Nat.le_refl _) (Nat.le_refl _) (RO.out _ L5) HO.out (RP.out _ L5) HP.out (Row.of_own U5 (in_wf8 (row_in (RO.out _ L5)))) HO.out (Row.of_own R5 (in_wf8 (row_in (RP.out _ L5)))) HP.out).mono ?_
            rintro e wB ⟨rfl, mB⟩
            rw [same_self]
            have LB := L5.trans (mB.mono L5.size)
            clear q0 q1 q2 q3 q4 q5 q6 q7 q8 t0 t1 t2 t3 t4 t5 t6 t7 t8 U5 R5 L5 hB5 mB
            go_wp2_with (go_at_call 9; refine (wakes_any _ (GT.out _ LB) (WD.out _ LB)).mono ?_; rintro e wC ⟨rfl, mC⟩)
            go_ret
            exact ⟨rfl, LB.trans (mC.mono LB.size)⟩
end Go.Proofs.YtjofijigfkkidaaDoor
