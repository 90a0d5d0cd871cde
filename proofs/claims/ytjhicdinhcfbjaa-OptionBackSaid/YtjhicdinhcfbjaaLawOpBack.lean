/- 'handfastlaw06.OptionBack' returns true at every option and all bytes, and leaves what lay as it lay. -/
import Derived.Test.YtjhicdinhcfbjaaOpW
import Derived.Test.YtjhicdinhcfbjaaOpL
namespace Go.Proofs.Ytjhicdinhcfbjaa
open Go.RowKit Go.Shelf
open SumM

theorem otY_len {bs : List Int} : (otY bs = 61 ↔ bs.length < 16) := by
  unfold otY
  split
  · rename_i h; simp [h]
  · rename_i h
    split
    · simp [h]
    · split <;> simp [h]
theorem otV_nums {bs : List Int} (hin : In 255 bs) (h : otY bs = 0) : ONums (otV bs).1 (otV bs).2.1 (otV bs).2.2.1 (otV bs).2.2.2.1 (otV bs).2.2.2.2.1 (otV bs).2.2.2.2.2 := by
  obtain ⟨_, h1, _⟩ := otY_zero h
  obtain ⟨g1, g2, g3, g4, g5, g6⟩ := optOk_iff.1 h1
  have k2 := getD_in hin (by decide) 2
  have k3 := getD_in hin (by decide) 3
  exact ⟨k2, k3, by omega, by omega, by omega, by omega⟩

set_option maxRecDepth 100000 in
set_option maxHeartbeats 16000000 in
theorem oBack_walk (kd bu cu pv ge ti : Int) (a1 : Option Addr) (len1 cap1 : Nat) (z1 : List Int) (w : World) (H : ONums kd bu cu pv ge ti) (w1 : IsRow .u8 w a1 len1 cap1 z1) :
    Calls Try.prog 4 #[.agg #[.int .u8 kd, .int .u8 bu, .int .i64 cu, .int .i64 pv, .int .i64 ge, .int .i64 ti], .slice a1 len1 cap1] w fun e w' => e = .returned (.bool true) ∧ Below w.heap.size w w' := by
  obtain ⟨hrz, hzl, _, hlz, hmz⟩ := w1.row
  generalize z1.take len1 = bs at *
  unfold maxLen at hmz
  have bO := heap_alloc_new w (.cells #[.int .u8 kd, .int .u8 bu, .int .i64 cu, .int .i64 pv, .int .i64 ge, .int .i64 ti] 23)
  have L0 := (Below.refl w.heap.size w).alloc (Nat.le_refl _) (.cells #[.int .u8 kd, .int .u8 bu, .int .i64 cu, .int .i64 pv, .int .i64 ge, .int .i64 ti] 23)
  have HI := Lib.hid (row_in hrz)
  have HL := Lib.hid hzl
  have RB := Lib.hid (fun W (m : Below w.heap.size w W) => (hrz.below m).more m.size)
  have TW := Lib.hid (fun W => owakes_any W)
  have HH := Lib.hid H
  obtain ⟨q0, q1, q2, q3, q4, q5⟩ := o_cells _ _ _ _ _ _ bO
  clear hrz hzl w1 H
  by_cases hbig : 100 < len1
  · have p1 : decide ((100 : Int) < (len1 : Int)) = true := decide_eq_true (by omega)
    clear bO
    go_enter Try.func4, Try.ntmps4
    go_upto_region 1 with (fail)
    generalize (w.alloc (.cells #[.int .u8 kd, .int .u8 bu, .int .i64 cu, .int .i64 pv, .int .i64 ge, .int .i64 ti] 23)) = W0 at *
    go_wp2_with (go_at_call 8; (with_reducible refine (TW.out _).mono ?_); rintro e w3 ⟨rfl, m3⟩)
    go_ret
    exact ⟨rfl, L0.trans (m3.mono L0.size)⟩
  have p1 : decide ((100 : Int) < (len1 : Int)) = false := decide_eq_false (by omega)
  have hcap : cap1 ≤ 9223372036854775807 := by omega
  clear hbig
  go_enter Try.func4, Try.ntmps4
  go_upto_region 1 with (fail)
  generalize (w.alloc (.cells #[.int .u8 kd, .int .u8 bu, .int .i64 cu, .int .i64 pv, .int .i64 ge, .int .i64 ti] 23)) = W0 at *
  go_wp2_with (fail)
  by_cases hok : optOk kd bu cu pv ge ti = true
  case' pos =>
    have HT := Lib.hid (otY_optB hok)
    have HB := Lib.hid (optB_in (cu := cu) (pv := pv) (ge := ge) (ti := ti) HH.out.h1 HH.out.h2)
    have KR := Lib.hid (fun W => show Calls Try.prog 17 #[.agg #[.int .u8 kd, .int .u8 bu, .int .i64 cu, .int .i64 pv, .int .i64 ge, .int .i64 ti]] W fun e w' => e = .returned (.bool true) ∧ Below W.heap.size W w' from by
      have h := oRight_any kd bu cu pv ge ti HH.out W
      rwa [hok] at h)
    refine (oPut_yes kd bu cu pv ge ti HH.out hok W0).mono ?_
    rintro e w2 ⟨A2, c2, rfl, hc2, hcm2, R2, m2⟩
    have L2 := L0.trans (m2.mono L0.size)
    have bO2 := (m2.block _ (Array.getElem?_eq_some_iff.1 bO).1).trans bO
    have RP := Lib.hid R2
    clear q0 q1 q2 q3 q4 q5 bO L0 m2 R2 hok
    obtain ⟨q0, q1, q2, q3, q4, q5⟩ := o_cells _ _ _ _ _ _ bO2
    go_wp2_with (fail)
    refine (KR.out w2).mono ?_
    rintro e w3 ⟨rfl, m3⟩
    have L3 := L2.trans (m3.mono L2.size)
    have bO3 := (m3.block _ (Array.getElem?_eq_some_iff.1 bO2).1).trans bO2
    have RP3 := Lib.hid ((RP.out.below m3).more m3.size)
    clear q0 q1 q2 q3 q4 q5 bO2 L2 m3 RP KR
    go_wp2_with (fail)
    refine (oTake_any A2 16 c2 _ rfl hc2 hcm2 w3 RP3.out).mono ?_
    unfold OTakeRet
    rw [HT.out.1, HT.out.2]
    rintro e w4 ⟨rfl, m4⟩
    have L4 := L3.trans (m4.mono L3.size)
    have bO4 := (m4.block _ (Array.getElem?_eq_some_iff.1 bO3).1).trans bO3
    have bQ := heap_alloc_new w4 (.cells #[.int .u8 kd, .int .u8 bu, .int .i64 cu, .int .i64 pv, .int .i64 ge, .int .i64 ti] 23)
    have bO5 := (Below.heap_alloc w4 (.cells #[.int .u8 kd, .int .u8 bu, .int .i64 cu, .int .i64 pv, .int .i64 ge, .int .i64 ti] 23) w.heap.size (Array.getElem?_eq_some_iff.1 bO4).1).trans bO4
    have LF := L4.alloc L4.size (.cells #[.int .u8 kd, .int .u8 bu, .int .i64 cu, .int .i64 pv, .int .i64 ge, .int .i64 ti] 23)
    clear bO3 bO4 L3 L4 m4 RP3 HB HT
    go_upto_region 8 with (fail)
    generalize w4.alloc (.cells #[.int .u8 kd, .int .u8 bu, .int .i64 cu, .int .i64 pv, .int .i64 ge, .int .i64 ti] 23) = WF at *
    generalize w4.heap.size = bq at *
    obtain ⟨q0, q1, q2, q3, q4, q5⟩ := o_cells _ _ _ _ _ _ bO5
    obtain ⟨x0, x1, x2, x3, x4, x5⟩ := o_cells _ _ _ _ _ _ bQ
    go_upto_region 10 with (fail)
    clear q0 q1 q2 q3 q4 q5 x0 x1 x2 x3 x4 x5 bQ bO5 hc2 hcm2
  case' neg =>
    have hok' : optOk kd bu cu pv ge ti = false := by simpa using hok
    have KR := Lib.hid (fun W => show Calls Try.prog 17 #[.agg #[.int .u8 kd, .int .u8 bu, .int .i64 cu, .int .i64 pv, .int .i64 ge, .int .i64 ti]] W fun e w' => e = .returned (.bool false) ∧ Below W.heap.size W w' from by
      have h := oRight_any kd bu cu pv ge ti HH.out W
      rwa [hok'] at h)
    refine (oPut_no kd bu cu pv ge ti HH.out hok' W0).mono ?_
    rintro e w2 ⟨A2, c2, rfl, m2⟩
    have L2 := L0.trans (m2.mono L0.size)
    have bO2 := (m2.block _ (Array.getElem?_eq_some_iff.1 bO).1).trans bO
    clear q0 q1 q2 q3 q4 q5 bO L0 m2 hok hok'
    obtain ⟨q0, q1, q2, q3, q4, q5⟩ := o_cells _ _ _ _ _ _ bO2
    go_wp2_with (fail)
    refine (KR.out w2).mono ?_
    rintro e WF ⟨rfl, m3⟩
    have LF := L2.trans (m3.mono L2.size)
    clear q0 q1 q2 q3 q4 q5 bO2 L2 m3 KR
    go_upto_region 10 with (fail)
  all_goals
    go_wp2_with (fail)
    refine (oTake_any a1 len1 cap1 bs HL.out hlz hcap WF (RB.out WF LF)).mono ?_
    unfold OTakeRet
    rintro e w6 ⟨rfl, m6⟩
    have L6 := LF.trans (m6.mono LF.size)
    clear LF m6
    have YL := Lib.hid (otY_len (bs := bs))
    have YC := otY_cases bs
    have YZ := Lib.hid (fun h => And.intro (otY_zero (bs := bs) h) (otV_nums HI.out h))
    have YF := Lib.hid (show otF bs = if otY bs = 0 then otV bs else (0, 0, 0, 0, 0, 0) from rfl)
    by_cases hy : otY bs = 0
    · obtain ⟨⟨g1, g2, g3⟩, g4⟩ := YZ.out hy
      have hf : otF bs = otV bs := by rw [YF.out, if_pos hy]
      rw [hf, hy]
      clear YC hf hy YZ YF YL
      obtain ⟨⟨v0, v1, v2, v3, v4, v5⟩, hv⟩ : ∃ v, otV bs = v := ⟨_, rfl⟩
      rw [hv] at g2 g3 g4
      rw [hv]
      have G3 := Lib.hid g3
      have G2 := Lib.hid g2
      have G4 := Lib.hid g4
      clear hv g1 g2 g3 g4
      have bQ := heap_alloc_new w6 (.cells #[.int .u8 v0, .int .u8 v1, .int .i64 v2, .int .i64 v3, .int .i64 v4, .int .i64 v5] 23)
      have L7 := L6.alloc L6.size (.cells #[.int .u8 v0, .int .u8 v1, .int .i64 v2, .int .i64 v3, .int .i64 v4, .int .i64 v5] 23)
      clear L6
      go_upto_region 11 with (fail)
      generalize w6.alloc (.cells #[.int .u8 v0, .int .u8 v1, .int .i64 v2, .int .i64 v3, .int .i64 v4, .int .i64 v5] 23) = W7 at *
      generalize w6.heap.size = bq at *
      obtain ⟨x0, x1, x2, x3, x4, x5⟩ := o_cells _ _ _ _ _ _ bQ
      go_wp2_with (fail)
      refine (oPut_yes v0 v1 v2 v3 v4 v5 G4.out G2.out W7).mono ?_
      rintro e w8 ⟨A8, c8, rfl, hc8, hcm8, R8, m8⟩
      have L8 := L7.trans (m8.mono L7.size)
      rw [show optB v0 v1 v2 v3 v4 v5 = bs from G3.out] at R8
      have hl16 : len1 = 16 := by
        have h1 := HL.out
        rw [← G3.out] at h1
        simpa [optB] using h1.symm
      subst hl16
      have s1 := R8.str 16 c8 HL.out
      have s2 := (RB.out w8 L8).str 16 cap1 HL.out
      have e1 : ((strOfNums bs).toList == (strOfNums bs).toList) = true := by simp
      clear x0 x1 x2 x3 x4 x5 bQ L7 m8 R8 G2 G3 G4
      generalize strOfNums bs = X at *
      go_wp2_with (go_at_call 8; (with_reducible refine (TW.out _).mono ?_); rintro e w9 ⟨rfl, m9⟩)
      go_ret
      exact ⟨rfl, L8.trans (m9.mono L8.size)⟩
    · have hf : otF bs = (0, 0, 0, 0, 0, 0) := by rw [YF.out, if_neg hy]
      rw [hf]
      obtain ⟨y, hyd⟩ : ∃ y, otY bs = y := ⟨_, rfl⟩
      have hcase : (y = 60 ∧ decide ((len1 : Int) < 16) = false) ∨ (y = 61 ∧ decide ((len1 : Int) < 16) = true) := by
        have h1 := YL.out
        have h2 := HL.out
        rw [hyd] at h1 hy YC
        rcases YC with h | h | h
        · exact absurd h hy
        · exact .inl ⟨h, decide_eq_false (fun h3 => by have := h1.2 (by omega); omega)⟩
        · exact .inr ⟨h, decide_eq_true (by have := h1.1 h; omega)⟩
      rw [hyd]
      clear hyd hy hf YC YZ YF YL
      have bQ := heap_alloc_new w6 (.cells #[.int .u8 0, .int .u8 0, .int .i64 0, .int .i64 0, .int .i64 0, .int .i64 0] 23)
      have L7 := L6.alloc L6.size (.cells #[.int .u8 0, .int .u8 0, .int .i64 0, .int .i64 0, .int .i64 0, .int .i64 0] 23)
      clear L6
      go_upto_region 11 with (fail)
      generalize w6.alloc (.cells #[.int .u8 0, .int .u8 0, .int .i64 0, .int .i64 0, .int .i64 0, .int .i64 0] 23) = W7 at *
      generalize w6.heap.size = bq at *
      obtain ⟨x0, x1, x2, x3, x4, x5⟩ := o_cells _ _ _ _ _ _ bQ
      rcases hcase with ⟨rfl, p2⟩ | ⟨rfl, p2⟩
      all_goals
        go_wp2_with (go_at_call 8; (with_reducible refine (TW.out _).mono ?_); rintro e w9 ⟨rfl, m9⟩)
        go_ret
        exact ⟨rfl, L7.trans (m9.mono L7.size)⟩
end Go.Proofs.Ytjhicdinhcfbjaa
