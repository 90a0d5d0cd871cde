/- 'handfastlaw02.IpByte' returns true at every head and all numbers, and leaves what lay as it lay. -/
import Derived.Test.YtjofijigfkkidaaDoorIpB2
namespace Go.Proofs.YtjofijigfkkidaaDoor
open Go.RowKit
open SumM

theorem xor_ne (x y : Int) (hx : 0 ≤ x ∧ x ≤ 255) (hy : 0 ≤ y ∧ y ≤ 255) (h : y ≠ 0) : bits .xor .u8 x y ≠ x := by
  rw [u8_xor x y hx.1 (by omega) hy.1 (by omega)]
  intro e
  have e1 : x.toNat ^^^ y.toNat = x.toNat := by omega
  have e2 : x.toNat ^^^ (x.toNat ^^^ y.toNat) = x.toNat ^^^ x.toNat := by rw [e1]
  rw [← Nat.xor_assoc, Nat.xor_self, Nat.zero_xor] at e2
  omega
theorem put_hl {sv nu fl ho pr sr ds : Int} {on pn : Nat} (os ps : List Int) (H : Nums sv nu fl ho pr sr ds) (hs : on ≤ 40 ∧ on % 4 = 0 ∧ 20 + on + pn ≤ 65535) : hlOf (putOf sv nu fl ho pr sr ds on pn os ps) = 20 + on := by
  obtain ⟨c, _, _, _, e⟩ := putOf_eq os ps H hs
  rw [e]
  exact hlOf_eq (headC_seg (pn := pn) (c / 256) (c % 256) (os ++ ps) H).1 ⟨hs.1, hs.2.1⟩
/-- Two heads of all 0 are the same. -/
theorem same_zero (w : World) : Calls Tryd.prog 18 #[.agg #[.int .u8 0, .int .u16 0, .int .u16 0, .int .u8 0, .int .u8 0, .int .u32 0, .int .u32 0, .slice none 0 0, .slice none 0 0], .agg #[.int .u8 0, .int .u16 0, .int .u16 0, .int .u8 0, .int .u8 0, .int .u32 0, .int .u32 0, .slice none 0 0, .slice none 0 0]] w fun e w' => e = .returned (.bool true) ∧ Below w.heap.size w w' := by
  have := refSame_any 0 0 0 0 0 0 0 none 0 0 none 0 0 0 0 0 0 0 0 0 none 0 0 none 0 0 [] [] [] [] _ _ w (Nat.le_refl _) (Nat.le_refl _) (Row.nil _ _ _ _) rfl (Row.nil _ _ _ _) rfl (Row.nil _ _ _ _) rfl (Row.nil _ _ _ _) rfl
  rwa [show sameB 0 0 0 0 0 0 0 [] [] 0 0 0 0 0 0 0 [] [] = true by decide] at this
/-- 'at = 1 + ((at % (n-1)) + n - 1) % (n-1)', n = 20 + on. -/
theorem at_place (a : Int) (on : Nat) (hon : on ≤ 100) : ∃ (m : Int) (j : Nat), a.tmod (20 + (on : Int) - 1) = m ∧ -1000000000 ≤ m ∧ m ≤ 1000000000 ∧ 0 ≤ m + (20 + (on : Int)) - 1 ∧ (m + (20 + (on : Int)) - 1) % (20 + (on : Int) - 1) = (j : Int) ∧ j < 19 + on := by
  obtain ⟨m, j, h1, h2, h3, ⟨h4, h5⟩, h6⟩ := at_mod a (19 + on) (by omega) (by omega)
  have e : ((19 + on : Nat) : Int) = 20 + (on : Int) - 1 := by omega
  rw [e] at h1 h4 h5
  refine ⟨m, j, h1, h2, h3, by omega, ?_, h6⟩
  rw [← h5]
  congr 1
  omega

set_option maxRecDepth 100000 in
set_option maxHeartbeats 4000000 in
theorem ipByte_walk (sv nu fl ho pr sr ds : Int) (oa : Option Addr) (on oc : Nat) (pa : Option Addr) (pn pc : Nat) (os ps : List Int) (a1 a2 : Int) (w : World) (hg : 0 < w.heap.size) (hW : Wid w) (h : IsHead w sv nu fl ho pr sr ds oa on oc pa pn pc os ps) (w1 : (Lit.int .i64 a1).wf = true) (w2 : (Lit.int .u8 a2).wf = true) :
    Calls Tryd.prog 5 #[.agg #[.int .u8 sv, .int .u16 nu, .int .u16 fl, .int .u8 ho, .int .u8 pr, .int .u32 sr, .int .u32 ds, .slice oa on oc, .slice pa pn pc], .int .i64 a1, .int .u8 a2] w fun e w' => e = .returned (.bool true) ∧ Below w.heap.size w w' := by
  obtain ⟨hN, hro, hol, hon, hoc, hrp, hpl, hpn, hpc⟩ := h
  unfold maxLen at hoc hpc
  have B1 := wf_i64.1 w1
  have B2 := wf_u8.1 w2
  have HN := Lib.hid hN
  have HO := Lib.hid hol
  have HP := Lib.hid hpl
  have NO := Lib.hid hon
  have NP := Lib.hid hpn
  have RO := Lib.hid (fun W (m : Below w.heap.size w W) => (hro.below m).more m.size)
  have RP := Lib.hid (fun W (m : Below w.heap.size w W) => (hrp.below m).more m.size)
  have WD := Lib.hid (fun W (m : Below w.heap.size w W) => hW.below hg m)
  have GT := Lib.hid (fun W (m : Below w.heap.size w W) => Nat.lt_of_lt_of_le hg m.size)
  clear hol hpl hon hpn hN hro hrp hW w1 w2
  have hH0 := heap_alloc_new w (.cells #[.int .u8 sv, .int .u16 nu, .int .u16 fl, .int .u8 ho, .int .u8 pr, .int .u32 sr, .int .u32 ds, .slice oa on oc, .slice pa pn pc] 26)
  have L0 := (Below.refl w.heap.size w).alloc (Nat.le_refl _) (.cells #[.int .u8 sv, .int .u16 nu, .int .u16 fl, .int .u8 ho, .int .u8 pr, .int .u32 sr, .int .u32 ds, .slice oa on oc, .slice pa pn pc] 26)
  have hz0 : w.heap.size < (w.alloc (.cells #[.int .u8 sv, .int .u16 nu, .int .u16 fl, .int .u8 ho, .int .u8 pr, .int .u32 sr, .int .u32 ds, .slice oa on oc, .slice pa pn pc] 26)).heap.size := by simp
  by_cases hgr : greatB on pn = true
  · have HG := Lib.hid hgr
    clear hgr
    go_enter Tryd.func5, Tryd.ntmps5
    go_wp2_with (first
      | (go_at_call 8; refine (refGreat_any sv nu fl ho pr sr ds oa on oc pa pn pc _ (by omega) (by omega)).mono ?_; rintro e w1 ⟨rfl, m1⟩; rw [HG.out]; have L1 := L0.trans (m1.mono L0.size))
      | (go_at_call 9; refine (wakes_any _ (GT.out _ L1) (WD.out _ L1)).mono ?_; rintro e w2 ⟨rfl, m2⟩))
    go_ret
    exact ⟨rfl, L1.trans (m2.mono L1.size)⟩
  have hle : on ≤ 100 ∧ pn ≤ 300 := by
    simp [greatB] at hgr
    omega
  have HG := Lib.hid (show greatB on pn = false by simpa using hgr)
  clear hgr
  by_cases hby : a2 = 0
  · subst hby
    go_enter Tryd.func5, Tryd.ntmps5
    go_wp2_with (first
      | (go_at_call 8; refine (refGreat_any sv nu fl ho pr sr ds oa on oc pa pn pc _ (by omega) (by omega)).mono ?_; rintro e w1 ⟨rfl, m1⟩; rw [HG.out]; have L1 := L0.trans (m1.mono L0.size))
      | (go_at_call 9; refine (wakes_any _ (GT.out _ L1) (WD.out _ L1)).mono ?_; rintro e w2 ⟨rfl, m2⟩))
    go_ret
    exact ⟨rfl, L1.trans (m2.mono L1.size)⟩
  have hby' : (a2 == 0) = false := by simpa using hby
  by_cases hrt : rightB fl on pn = true
  rotate_left
  · have HR := Lib.hid (show rightB fl on pn = false by simpa using hrt)
    clear hrt
    go_enter Tryd.func5, Tryd.ntmps5
    go_wp2_with fail
    generalize w.alloc (.cells #[.int .u8 sv, .int .u16 nu, .int .u16 fl, .int .u8 ho, .int .u8 pr, .int .u32 sr, .int .u32 ds, .slice oa on oc, .slice pa pn pc] 26) = W0 at *
    refine (refGreat_any sv nu fl ho pr sr ds oa on oc pa pn pc _ (by omega) (by omega)).mono ?_
    rintro e w1 ⟨rfl, m1⟩
    rw [HG.out]
    have L1 := L0.trans (m1.mono L0.size)
    have hH1 := (m1.block _ hz0).trans hH0
    have hz1 := Nat.lt_of_lt_of_le hz0 m1.size
    obtain ⟨⟨q0, q1, q2, q3, q4, q5, q6, q7, q8⟩, _⟩ := nine_cells hH1
    clear hH0 L0 m1 hz0
    go_wp2_with fail
    refine (ipPut_no sv nu fl ho pr sr ds oa on oc pa pn pc HR.out (by omega) (by omega) _).mono ?_
    rintro e w2 ⟨rfl, m2⟩
    have L2 := L1.trans (m2.mono L1.size)
    have hH2 := (m2.block _ hz1).trans hH1
    clear q0 q1 q2 q3 q4 q5 q6 q7 q8 m2 L1 hH1
    obtain ⟨⟨q0, q1, q2, q3, q4, q5, q6, q7, q8⟩, _⟩ := nine_cells hH2
    go_wp2_with fail
    refine (ipRight_any sv nu fl ho pr sr ds oa on oc pa pn pc _ (by omega) (by omega)).mono ?_
    rintro e w3 ⟨rfl, m3⟩
    rw [HR.out]
    have L3 := L2.trans (m3.mono L2.size)
    clear q0 q1 q2 q3 q4 q5 q6 q7 q8 m3 L2 hH2
    go_wp2_with (go_at_call 9; refine (wakes_any _ (GT.out _ L3) (WD.out _ L3)).mono ?_; rintro e w4 ⟨rfl, m4⟩)
    go_ret
    exact ⟨rfl, L3.trans (m4.mono L3.size)⟩
  have HR := Lib.hid hrt
  clear hrt
  have hon40 : on ≤ 40 := (rightB_le HR.out).1
  obtain ⟨m, j, hm1, hm2, hm3, hm4, hm5, hj⟩ := at_place a1 on (by omega)
  go_enter Tryd.func5, Tryd.ntmps5
  go_wp2_with fail
  generalize w.alloc (.cells #[.int .u8 sv, .int .u16 nu, .int .u16 fl, .int .u8 ho, .int .u8 pr, .int .u32 sr, .int .u32 ds, .slice oa on oc, .slice pa pn pc] 26) = W0 at *
  refine (refGreat_any sv nu fl ho pr sr ds oa on oc pa pn pc _ (by omega) (by omega)).mono ?_
  rintro e w1 ⟨rfl, m1⟩
  rw [HG.out]
  have L1 := L0.trans (m1.mono L0.size)
  have hH1 := (m1.block _ hz0).trans hH0
  have hz1 := Nat.lt_of_lt_of_le hz0 m1.size
  obtain ⟨⟨q0, q1, q2, q3, q4, q5, q6, q7, q8⟩, _⟩ := nine_cells hH1
  clear hH0 L0 m1 hz0
  go_wp2_with fail
  refine (put_n sv nu fl ho pr sr ds oa on oc pa pn pc os ps HN.out HR.out _ (GT.out _ L1) (WD.out _ L1) (RO.out _ L1) HO.out NO.out (RP.out _ L1) HP.out NP.out).mono ?_
  rintro e w3 ⟨A3, C3, rfl, P3, m3⟩
  have L3 := L1.trans (m3.mono L1.size)
  have hH3 := (m3.block _ hz1).trans hH1
  have hz3 := Nat.lt_of_lt_of_le hz1 m3.size
  have P3 := own_base P3 L1.size
  have PI := Lib.hid (putOf_in (sv := sv) (nu := nu) (fl := fl) (ho := ho) (pr := pr) (sr := sr) (ds := ds) (on := on) (pn := pn) (row_in (RO.out _ L3)) (row_in (RP.out _ L3)))
  have PL := Lib.hid (putOf_length os ps HN.out (rightB_le HR.out) HO.out HP.out)
  have WY := why_put os ps HN.out (rightB_le HR.out) HO.out HP.out
  have HHL := put_hl os ps HN.out (rightB_le HR.out)
  have hfl := (of_decide_eq_true HR.out).1
  rw [if_neg (by omega)] at WY
  obtain ⟨N, hN1, hN2, hN3⟩ : ∃ N : Nat, 20 + on + pn = N ∧ 20 + on ≤ N ∧ N ≤ 440 := ⟨_, rfl, by omega, by omega⟩
  rw [hN1] at P3 PL ⊢
  generalize hbs : putOf sv nu fl ho pr sr ds on pn os ps = bs at *
  have HN1 := Lib.hid hN1
  have WY := Lib.hid WY
  have HHL := Lib.hid HHL
  clear hbs hN1 q0 q1 q2 q3 q4 q5 q6 q7 q8 m3 L1 hH1 hz1 hfl
  obtain ⟨g3, rfl, hg3, hg3'⟩ := own_addr P3 (by omega)
  have cap3 := own_cap P3
  have RB := Lib.hid (fun W (mm : Below w3.heap.size w3 W) => (Row.of_own P3 (in_wf8 PI.out)).below mm)
  have q7 := (nine_cells hH3).1.2.2.2.2.2.2.2.1
  have l3' := (Below.refl w3.heap.size w3).alloc (Nat.le_refl _) (.cells #[] 5)
  have hv3 := getD_in PI.out (by decide) (1 + j)
  obtain ⟨i0, hi, hz0, hz1, hz2⟩ := info_parts Tryd.infoU8
  go_wp2_with (at_builtin; refine wpList_append_row _ rfl (.tmp 55) (.tmp 56) 24 rfl w3.heap.size 5 i0 (.int .u8 0) 1 Tryd.underlying24 hi hz0 hz1 hz2 rfl (.slice (some ⟨w3.heap.size, 0, none⟩) 0 0) 0 [] rfl (own_built w3 w3.heap.size (Nat.le_refl _) 5 [] 0 rfl (by unfold maxLen; omega)) .u8 w3.heap.size (some ⟨g3, 0, none⟩) N C3 bs rfl PL.out (RB.out _ l3') (fun h => by cases h) (by unfold maxLen; omega) (by omega) (by simp) ?_; intro v5 w5 S5 hgrow5; simp only [Nat.zero_add, List.nil_append] at S5; have M5 := l3'.grown hgrow5 l3'.size (fun e he => by cases he <;> exact Nat.le_refl _); obtain ⟨g5, cp5, rfl, hg5⟩ := own_form S5 (by omega); have y5 := own_cell S5 (1 + j) (by omega); have z5 := S5.frozenAt (1 + j))
  have hVi := xor_in (bs[1 + j]?.getD 0) a2 hv3 B2
  have hVn := xor_ne (bs[1 + j]?.getD 0) a2 hv3 B2 hby
  generalize hV : bits .xor .u8 (bs[1 + j]?.getD 0) a2 = V at *
  have S6 := own_store S5 (1 + j) V
  have M6 := M5.setCell (p := ⟨g5, 1 + j, none⟩) hg5 (.int .u8 V)
  have L6 := L3.trans (M6.mono L3.size)
  have I6 := in_set PI.out (1 + j) V hVi
  have cap6 := own_cap S6
  have hyd := why_byte PI.out WY.out (1 + j) (by omega) (by rw [HHL.out]; omega) V hVi hVn
  clear hV y5 z5 S5 M5 hgrow5 hVn hv3
  generalize w5.setCell ⟨g5, 1 + j, none⟩ (.int .u8 V) = w6 at *
  refine (parse_no (bs.set (1 + j) V) _ N cp5 (by rw [List.length_set, PL.out]) cap6.1 cap6.2 (by omega) w6 (GT.out _ L6) (WD.out _ L6) (Row.of_own S6 (in_wf8 I6)) hyd).mono ?_
  rintro e w7 ⟨rfl, m7⟩
  obtain ⟨Y, hY⟩ : ∃ Y, whyOf (bs.set (1 + j) V) = Y := ⟨_, rfl⟩
  rw [hY] at hyd ⊢
  have hY0 : (Y != 0) = true := by simpa using hyd
  have M7 := M6.trans (m7.mono M6.size)
  have hX7 := heap_alloc_new w7 (.cells #[.int .u8 0, .int .u16 0, .int .u16 0, .int .u8 0, .int .u8 0, .int .u32 0, .int .u32 0, .slice none 0 0, .slice none 0 0] 26)
  have SZ7 := Lib.hid (World.size_alloc w7 (.cells #[.int .u8 0, .int .u16 0, .int .u16 0, .int .u8 0, .int .u8 0, .int .u32 0, .int .u32 0, .slice none 0 0, .slice none 0 0] 26))
  have l7 := M7.alloc M7.size (.cells #[.int .u8 0, .int .u16 0, .int .u16 0, .int .u8 0, .int .u8 0, .int .u32 0, .int .u32 0, .slice none 0 0, .slice none 0 0] 26)
  have l7' := l7.alloc l7.size (.cells #[] 5)
  have b7 := M7.size
  have hb0 := getD_in PI.out (by decide) 0
  have hzi : 0 ≤ (16 + a2 % 16 * 16) % 256 ∧ (16 + a2 % 16 * 16) % 256 ≤ 255 := by omega
  have hVi2 := Lib.hid (xor_in (bs[0]?.getD 0) _ hb0 hzi)
  clear hY hyd S6 L6 I6 cap6 m7 M6 hzi
  go_wp2_with (at_builtin; refine wpList_append_row _ rfl (.tmp 72) (.tmp 73) 24 rfl (w7.heap.size + 1) 5 i0 (.int .u8 0) 1 Tryd.underlying24 hi hz0 hz1 hz2 rfl (.slice (some ⟨w7.heap.size + 1, 0, none⟩) 0 0) 0 [] rfl (own_builtAt SZ7.out (w7.heap.size + 1) (Nat.le_refl _) 5 [] 0 rfl (by unfold maxLen; omega)) .u8 w3.heap.size (some ⟨g3, 0, none⟩) N C3 bs rfl PL.out (RB.out _ l7') (fun h => by cases h) (by unfold maxLen; omega) (by omega) (by simp) ?_; intro v8 w8 S8 hgrow8; simp only [Nat.zero_add, List.nil_append] at S8; have M8 := l7'.grown hgrow8 l7'.size (fun e he => by cases he <;> exact Nat.le_succ_of_le b7); obtain ⟨g8, cp8, rfl, hg8⟩ := own_form S8 (by omega); have hX8 := grow_block hX7 SZ7.out (Nat.lt_succ_self _) hgrow8; have y8 := own_cell S8 0 (by omega); have z8 := S8.frozenAt 0)
  have hV2 := hVi2.out
  generalize bits .xor .u8 (bs[0]?.getD 0) ((16 + a2 % 16 * 16) % 256) = V2 at *
  have S9 := own_store S8 0 V2
  have M9 := M8.setCell (p := ⟨g8, 0, none⟩) (show w3.heap.size ≤ g8 by omega) (.int .u8 V2)
  have L9 := L3.trans (M9.mono L3.size)
  have I9 := in_set PI.out 0 V2 hV2
  have cap9 := own_cap S9
  have hX9 := box_store S8 hX8 (by decide) 0 (.int .u8 V2)
  clear hX7 hX8 y8 z8 S8 M8 hgrow8 l7 l7' hVi2
  generalize w8.setCell ⟨g8, 0, none⟩ (.int .u8 V2) = w9 at *
  generalize w7.heap.size = b7' at *
  have hx9 : b7' < w9.heap.size := (Array.getElem?_eq_some_iff.1 hX9).1
  have hg9 : g8 < w9.heap.size := (S9.lt g8 rfl).2
  have hc9 := own_cell S9 0 (by omega)
  rw [getD_set _ _ _ _ (by rw [PL.out]; omega), if_pos rfl] at hc9
  by_cases hq : V2 / 16 = 4
  · have hq1 : (V2 / 16 == 4) = true := by simpa using hq
    have hq2 : (V2 / 16 != 4) = false := by simpa using hq
    obtain ⟨Y2, hY2⟩ : ∃ Y, whyOf (bs.set 0 V2) = Y := ⟨_, rfl⟩
    have hY3 : (Y2 == 2) = false := by
      rw [← hY2]
      have := why_version (bs := bs) (by rw [PL.out]; omega) V2
      simp only [beq_eq_false_iff_ne, ne_eq]
      rw [this]
      simpa using hq
    refine (parse_told (bs.set 0 V2) _ N cp8 (by rw [List.length_set, PL.out]) cap9.1 cap9.2 (by omega) w9 (GT.out _ L9) (WD.out _ L9) (Row.of_own S9 (in_wf8 I9)) Y2 hY2).mono ?_
    rintro e w10 ⟨s10, n10, f10, h10, p10, r10, d10, oa10, on10, oc10, pa10, pn10, pc10, rfl, m10⟩
    have M10 := m10.alloc m10.size (.cells #[.int .u8 s10, .int .u16 n10, .int .u16 f10, .int .u8 h10, .int .u8 p10, .int .u32 r10, .int .u32 d10, .slice oa10 on10 oc10, .slice pa10 pn10 pc10] 26)
    have L10 := L9.trans (M10.mono L9.size)
    have hX10 := (M10.block _ hx9).trans hX9
    have hc10 := (M10.cell (p := ⟨g8, 0, none⟩) hg9).trans hc9
    obtain ⟨⟨q0, q1, q2, q3, q4, q5, q6, q7, q8⟩, _⟩ := nine_cells hX10
    clear hY2 S9 M9 L9 I9 cap9 hX9 hc9 m10 hq
    go_wp2_with fail
    refine (same_zero _).mono ?_
    rintro e w11 ⟨rfl, m11⟩
    have hc11 := (m11.cell (p := ⟨g8, 0, none⟩) (Nat.lt_of_lt_of_le hg9 M10.size)).trans hc10
    have L11 := L10.trans (m11.mono L10.size)
    clear q0 q1 q2 q3 q4 q5 q6 q7 q8 hX10 hc10 m11 L10 M10
    go_wp2_with (go_at_call 9; refine (wakes_any _ (GT.out _ L11) (WD.out _ L11)).mono ?_; rintro e w20 ⟨rfl, m20⟩)
    go_ret
    exact ⟨rfl, L11.trans (m20.mono L11.size)⟩
  · have hq1 : (V2 / 16 == 4) = false := by simpa using hq
    have hq2 : (V2 / 16 != 4) = true := by simpa using hq
    have hy2 := (why_version (bs := bs) (by rw [PL.out]; omega) V2).2 hq
    refine (parse_no (bs.set 0 V2) _ N cp8 (by rw [List.length_set, PL.out]) cap9.1 cap9.2 (by omega) w9 (GT.out _ L9) (WD.out _ L9) (Row.of_own S9 (in_wf8 I9)) (by rw [hy2]; decide)).mono ?_
    rintro e w10 ⟨rfl, m10⟩
    rw [hy2]
    have hZ10 := heap_alloc_new w10 (.cells #[.int .u8 0, .int .u16 0, .int .u16 0, .int .u8 0, .int .u8 0, .int .u32 0, .int .u32 0, .slice none 0 0, .slice none 0 0] 26)
    have M10 := m10.alloc m10.size (.cells #[.int .u8 0, .int .u16 0, .int .u16 0, .int .u8 0, .int .u8 0, .int .u32 0, .int .u32 0, .slice none 0 0, .slice none 0 0] 26)
    have L10 := L9.trans (M10.mono L9.size)
    have hX10 := (M10.block _ hx9).trans hX9
    have hc10 := (M10.cell (p := ⟨g8, 0, none⟩) hg9).trans hc9
    obtain ⟨⟨q0, q1, q2, q3, q4, q5, q6, q7, q8⟩, _⟩ := nine_cells hX10
    clear hy2 S9 M9 L9 I9 cap9 hX9 hc9 m10 hq
    go_wp2_with fail
    refine (same_zero _).mono ?_
    rintro e w11 ⟨rfl, m11⟩
    have hc11 := (m11.cell (p := ⟨g8, 0, none⟩) (Nat.lt_of_lt_of_le hg9 M10.size)).trans hc10
    have L11 := L10.trans (m11.mono L10.size)
    have hZ11 := (m11.block _ (Array.getElem?_eq_some_iff.1 hZ10).1).trans hZ10
    clear q0 q1 q2 q3 q4 q5 q6 q7 q8 hX10 hc10 m11 L10 M10 hZ10
    obtain ⟨⟨q0, q1, q2, q3, q4, q5, q6, q7, q8⟩, _⟩ := nine_cells hZ11
    go_wp2_with fail
    refine (same_zero _).mono ?_
    rintro e w12 ⟨rfl, m12⟩
    have L12 := L11.trans (m12.mono L11.size)
    clear q0 q1 q2 q3 q4 q5 q6 q7 q8 hc11 m12 L11 hZ11
    go_wp2_with (go_at_call 9; refine (wakes_any _ (GT.out _ L12) (WD.out _ L12)).mono ?_; rintro e w20 ⟨rfl, m20⟩)
    go_ret
    exact ⟨rfl, L12.trans (m20.mono L12.size)⟩
end Go.Proofs.YtjofijigfkkidaaDoor
