/- 'handfastlaw06.OptionTurned' returns true at every option, entry and numbers, and leaves what lay as it lay. -/
import Derived.Test.YtjhicdinhcfbjaaOpW
import Derived.Test.YtjhicdinhcfbjaaOpL
namespace Go.Proofs.Ytjhicdinhcfbjaa
open Go.RowKit Go.Shelf
open SumM

set_option maxRecDepth 100000 in
set_option maxHeartbeats 16000000 in
theorem oTurned_walk (kd bu cu pv ge ti : Int) (ec ep eg et : Int) (kk bk gg : Int) (w : World) (H : ONums kd bu cu pv ge ti) (HE0 : ONums 0 0 ec ep eg et) (hk0 : (Lit.int .u8 kk).wf = true) (_ : (Lit.int .i64 bk).wf = true) (hg0 : (Lit.int .i64 gg).wf = true) :
    Calls Try.prog 7 #[.agg #[.int .u8 kd, .int .u8 bu, .int .i64 cu, .int .i64 pv, .int .i64 ge, .int .i64 ti], .agg #[.int .i64 ec, .int .i64 ep, .int .i64 eg, .int .i64 et], .int .u8 kk, .int .i64 bk, .int .i64 gg] w fun e w' => e = .returned (.bool true) ∧ Below w.heap.size w w' := by
  have hk := wf_u8.1 hk0
  have hg := wf_i64.1 hg0
  have bE := heap_alloc_new (w.alloc (.cells #[.int .u8 kd, .int .u8 bu, .int .i64 cu, .int .i64 pv, .int .i64 ge, .int .i64 ti] 23)) (.cells #[.int .i64 ec, .int .i64 ep, .int .i64 eg, .int .i64 et] 25)
  have bO := (Below.heap_alloc (w.alloc (.cells #[.int .u8 kd, .int .u8 bu, .int .i64 cu, .int .i64 pv, .int .i64 ge, .int .i64 ti] 23)) (.cells #[.int .i64 ec, .int .i64 ep, .int .i64 eg, .int .i64 et] 25) w.heap.size (by simp)).trans (heap_alloc_new w (.cells #[.int .u8 kd, .int .u8 bu, .int .i64 cu, .int .i64 pv, .int .i64 ge, .int .i64 ti] 23))
  rw [World.size_alloc] at bE
  have L0 := ((Below.refl w.heap.size w).alloc (Nat.le_refl _) (.cells #[.int .u8 kd, .int .u8 bu, .int .i64 cu, .int .i64 pv, .int .i64 ge, .int .i64 ti] 23)).alloc (by simp) (.cells #[.int .i64 ec, .int .i64 ep, .int .i64 eg, .int .i64 et] 25)
  have HN : Hid (ONums kk bu cu pv gg ti) := Lib.hid ⟨hk, H.h2, H.h3, H.h4, hg, H.h6⟩
  have HH := Lib.hid (And.intro H (And.intro HE0 hk))
  have TW := Lib.hid (fun W => owakes_any W)
  obtain ⟨q0, q1, q2, q3, q4, q5⟩ := o_cells _ _ _ _ _ _ bO
  clear H HE0 hk0 hg0 hk hg
  go_enter Try.func7, Try.ntmps7
  go_upto_region 1 with (fail)
  generalize ((w.alloc (.cells #[.int .u8 kd, .int .u8 bu, .int .i64 cu, .int .i64 pv, .int .i64 ge, .int .i64 ti] 23)).alloc (.cells #[.int .i64 ec, .int .i64 ep, .int .i64 eg, .int .i64 et] 25)) = W0 at *
  go_wp2_with (fail)
  refine (oTurned_any kd bu cu pv ge ti kk gg HH.out.1 HH.out.2.2 W0).mono ?_
  rintro e w1 ⟨rfl, m1⟩
  have L1 := L0.trans (m1.mono L0.size)
  have bO1 := (m1.block _ (Array.getElem?_eq_some_iff.1 bO).1).trans bO
  have bE1 := (m1.block _ (Array.getElem?_eq_some_iff.1 bE).1).trans bE
  clear q0 q1 q2 q3 q4 q5 bO bE L0 m1
  have HOFV : ofOk kk bk ec ep eg et = true → optOk kk bk ec ep eg et = true ∧ 0 ≤ bk ∧ bk < 16 := fun h => by
    unfold ofOk at h
    simp only [Bool.and_eq_true, decide_eq_true_eq] at h
    exact ⟨h.2, h.1⟩
  have HOF := Lib.hid HOFV
  clear HOFV
  by_cases hok : optOk kk bu cu pv gg ti = true
  all_goals
    first
      | (have hy : tuY bu cu pv ti kk gg = 0 ∧ tuV bu cu pv ti kk gg = (kk, bu, cu, pv, gg, ti) := by unfold tuY tuV; rw [if_pos hok, if_pos hok]; exact ⟨rfl, rfl⟩)
      | (have hy : tuY bu cu pv ti kk gg = 2 ∧ tuV bu cu pv ti kk gg = (0, 0, 0, 0, 0, 0) := by unfold tuY tuV; rw [if_neg hok, if_neg hok]; exact ⟨rfl, rfl⟩)
    rw [hy.1, hy.2]
    clear hy
  case' pos =>
    have bT := heap_alloc_new w1 (.cells #[.int .u8 kk, .int .u8 bu, .int .i64 cu, .int .i64 pv, .int .i64 gg, .int .i64 ti] 23)
    have bO2 := (Below.heap_alloc w1 (.cells #[.int .u8 kk, .int .u8 bu, .int .i64 cu, .int .i64 pv, .int .i64 gg, .int .i64 ti] 23) w.heap.size (Array.getElem?_eq_some_iff.1 bO1).1).trans bO1
    have bE2 := (Below.heap_alloc w1 (.cells #[.int .u8 kk, .int .u8 bu, .int .i64 cu, .int .i64 pv, .int .i64 gg, .int .i64 ti] 23) (w.heap.size + 1) (Array.getElem?_eq_some_iff.1 bE1).1).trans bE1
    have L2 := L1.alloc L1.size (.cells #[.int .u8 kk, .int .u8 bu, .int .i64 cu, .int .i64 pv, .int .i64 gg, .int .i64 ti] 23)
    have KR := Lib.hid (fun W => show Calls Try.prog 17 #[.agg #[.int .u8 kk, .int .u8 bu, .int .i64 cu, .int .i64 pv, .int .i64 gg, .int .i64 ti]] W fun e w' => e = .returned (.bool true) ∧ Below W.heap.size W w' from by
      have h := oRight_any kk bu cu pv gg ti HN.out W
      rwa [show optOk kk bu cu pv gg ti = true by simpa using hok] at h)
    clear bO1 bE1 L1 hok
    go_upto_region 2 with (fail)
    generalize w1.alloc (.cells #[.int .u8 kk, .int .u8 bu, .int .i64 cu, .int .i64 pv, .int .i64 gg, .int .i64 ti] 23) = W2 at *
    generalize w1.heap.size = bt at *
    obtain ⟨q0, q1, q2, q3, q4, q5⟩ := o_cells _ _ _ _ _ _ bO2
    go_upto_region 4 with (fail)
    have bW := heap_alloc_new W2 (.cells #[.int .u8 kk, .int .u8 bu, .int .i64 cu, .int .i64 pv, .int .i64 gg, .int .i64 ti] 23)
    have bT3 := (Below.heap_alloc W2 (.cells #[.int .u8 kk, .int .u8 bu, .int .i64 cu, .int .i64 pv, .int .i64 gg, .int .i64 ti] 23) bt (Array.getElem?_eq_some_iff.1 bT).1).trans bT
    have bE3 := (Below.heap_alloc W2 (.cells #[.int .u8 kk, .int .u8 bu, .int .i64 cu, .int .i64 pv, .int .i64 gg, .int .i64 ti] 23) (w.heap.size + 1) (Array.getElem?_eq_some_iff.1 bE2).1).trans bE2
    have L3 := L2.alloc L2.size (.cells #[.int .u8 kk, .int .u8 bu, .int .i64 cu, .int .i64 pv, .int .i64 gg, .int .i64 ti] 23)
    clear q0 q1 q2 q3 q4 q5 bT bO2 bE2 L2
    generalize W2.alloc (.cells #[.int .u8 kk, .int .u8 bu, .int .i64 cu, .int .i64 pv, .int .i64 gg, .int .i64 ti] 23) = W3 at *
    generalize W2.heap.size = bw at *
    obtain ⟨y0, y1, y2, y3, y4, y5⟩ := o_cells _ _ _ _ _ _ bW
    go_wp2_with (fail)
    refine (KR.out W3).mono ?_
    rintro e w4 ⟨rfl, m4⟩
    have L4 := L3.trans (m4.mono L3.size)
    have bE4 := (m4.block _ (Array.getElem?_eq_some_iff.1 bE3).1).trans bE3
    have bT4 := (m4.block _ (Array.getElem?_eq_some_iff.1 bT3).1).trans bT3
    have bW4 := (m4.block _ (Array.getElem?_eq_some_iff.1 bW).1).trans bW
    clear y0 y1 y2 y3 y4 y5 bW bT3 bE3 L3 m4 KR
    obtain ⟨y0, y1, y2, y3, y4, y5⟩ := o_cells _ _ _ _ _ _ bW4
    obtain ⟨x0, x1, x2, x3, x4, x5⟩ := o_cells _ _ _ _ _ _ bT4
    go_upto_region 6 with (fail)
    clear x0 x1 x2 x3 x4 x5 y0 y1 y2 y3 y4 y5 bT4 bW4
  case' neg =>
    have bT := heap_alloc_new w1 (.cells #[.int .u8 0, .int .u8 0, .int .i64 0, .int .i64 0, .int .i64 0, .int .i64 0] 23)
    have bO2 := (Below.heap_alloc w1 (.cells #[.int .u8 0, .int .u8 0, .int .i64 0, .int .i64 0, .int .i64 0, .int .i64 0] 23) w.heap.size (Array.getElem?_eq_some_iff.1 bO1).1).trans bO1
    have bE2 := (Below.heap_alloc w1 (.cells #[.int .u8 0, .int .u8 0, .int .i64 0, .int .i64 0, .int .i64 0, .int .i64 0] 23) (w.heap.size + 1) (Array.getElem?_eq_some_iff.1 bE1).1).trans bE1
    have L2 := L1.alloc L1.size (.cells #[.int .u8 0, .int .u8 0, .int .i64 0, .int .i64 0, .int .i64 0, .int .i64 0] 23)
    have KR := Lib.hid (fun W => show Calls Try.prog 17 #[.agg #[.int .u8 kk, .int .u8 bu, .int .i64 cu, .int .i64 pv, .int .i64 gg, .int .i64 ti]] W fun e w' => e = .returned (.bool false) ∧ Below W.heap.size W w' from by
      have h := oRight_any kk bu cu pv gg ti HN.out W
      rwa [show optOk kk bu cu pv gg ti = false by simpa using hok] at h)
    clear bO1 bE1 L1 hok
    go_upto_region 2 with (fail)
    generalize w1.alloc (.cells #[.int .u8 0, .int .u8 0, .int .i64 0, .int .i64 0, .int .i64 0, .int .i64 0] 23) = W2 at *
    generalize w1.heap.size = bt at *
    obtain ⟨q0, q1, q2, q3, q4, q5⟩ := o_cells _ _ _ _ _ _ bO2
    go_upto_region 4 with (fail)
    have bW := heap_alloc_new W2 (.cells #[.int .u8 kk, .int .u8 bu, .int .i64 cu, .int .i64 pv, .int .i64 gg, .int .i64 ti] 23)
    have bT3 := (Below.heap_alloc W2 (.cells #[.int .u8 kk, .int .u8 bu, .int .i64 cu, .int .i64 pv, .int .i64 gg, .int .i64 ti] 23) bt (Array.getElem?_eq_some_iff.1 bT).1).trans bT
    have bE3 := (Below.heap_alloc W2 (.cells #[.int .u8 kk, .int .u8 bu, .int .i64 cu, .int .i64 pv, .int .i64 gg, .int .i64 ti] 23) (w.heap.size + 1) (Array.getElem?_eq_some_iff.1 bE2).1).trans bE2
    have L3 := L2.alloc L2.size (.cells #[.int .u8 kk, .int .u8 bu, .int .i64 cu, .int .i64 pv, .int .i64 gg, .int .i64 ti] 23)
    clear q0 q1 q2 q3 q4 q5 bT bO2 bE2 L2
    generalize W2.alloc (.cells #[.int .u8 kk, .int .u8 bu, .int .i64 cu, .int .i64 pv, .int .i64 gg, .int .i64 ti] 23) = W3 at *
    generalize W2.heap.size = bw at *
    obtain ⟨y0, y1, y2, y3, y4, y5⟩ := o_cells _ _ _ _ _ _ bW
    go_wp2_with (fail)
    refine (KR.out W3).mono ?_
    rintro e w4 ⟨rfl, m4⟩
    have L4 := L3.trans (m4.mono L3.size)
    have bE4 := (m4.block _ (Array.getElem?_eq_some_iff.1 bE3).1).trans bE3
    have bT4 := (m4.block _ (Array.getElem?_eq_some_iff.1 bT3).1).trans bT3
    have bW4 := (m4.block _ (Array.getElem?_eq_some_iff.1 bW).1).trans bW
    clear y0 y1 y2 y3 y4 y5 bW bT3 bE3 L3 m4 KR
    obtain ⟨y0, y1, y2, y3, y4, y5⟩ := o_cells _ _ _ _ _ _ bW4
    obtain ⟨x0, x1, x2, x3, x4, x5⟩ := o_cells _ _ _ _ _ _ bT4
    go_upto_region 6 with (fail)
    clear x0 x1 x2 x3 x4 x5 y0 y1 y2 y3 y4 y5 bT4 bW4
  all_goals
    obtain ⟨e0, e1, e2, e3⟩ := e_cells _ _ _ _ bE4
    go_wp2_with (fail)
    refine (oOf_any kk bk ec ep eg et HH.out.2.2 HH.out.2.1 w4).mono ?_
    rintro e w5 ⟨rfl, m5⟩
    have L5 := L4.trans (m5.mono L4.size)
    have bE5 := (m5.block _ (Array.getElem?_eq_some_iff.1 bE4).1).trans bE4
    clear e0 e1 e2 e3 bE4 L4 m5
    by_cases hof : ofOk kk bk ec ep eg et = true
    · have hy : ofY kk bk ec ep eg et = 0 ∧ ofV kk bk ec ep eg et = (kk, bk, ec, ep, eg, et) := by unfold ofY ofV; rw [if_pos hof, if_pos hof]; exact ⟨rfl, rfl⟩
      rw [hy.1, hy.2]
      obtain ⟨hp, hb1, hb2⟩ := HOF.out hof
      have KR := Lib.hid (fun W => show Calls Try.prog 17 #[.agg #[.int .u8 kk, .int .u8 bk, .int .i64 ec, .int .i64 ep, .int .i64 eg, .int .i64 et]] W fun e w' => e = .returned (.bool true) ∧ Below W.heap.size W w' from by
        have h := oRight_any kk bk ec ep eg et ⟨HH.out.2.2, ⟨hb1, by omega⟩, HH.out.2.1.h3, HH.out.2.1.h4, HH.out.2.1.h5, HH.out.2.1.h6⟩ W
        rwa [hp] at h)
      clear hy hp hof
      have bP := heap_alloc_new w5 (.cells #[.int .u8 kk, .int .u8 bk, .int .i64 ec, .int .i64 ep, .int .i64 eg, .int .i64 et] 23)
      have bE6 := (Below.heap_alloc w5 (.cells #[.int .u8 kk, .int .u8 bk, .int .i64 ec, .int .i64 ep, .int .i64 eg, .int .i64 et] 23) (w.heap.size + 1) (Array.getElem?_eq_some_iff.1 bE5).1).trans bE5
      have L6 := L5.alloc L5.size (.cells #[.int .u8 kk, .int .u8 bk, .int .i64 ec, .int .i64 ep, .int .i64 eg, .int .i64 et] 23)
      clear bE5 L5
      go_upto_region 7 with (fail)
      generalize w5.alloc (.cells #[.int .u8 kk, .int .u8 bk, .int .i64 ec, .int .i64 ep, .int .i64 eg, .int .i64 et] 23) = W6 at *
      generalize w5.heap.size = bp at *
      obtain ⟨x0, x1, x2, x3, x4, x5⟩ := o_cells _ _ _ _ _ _ bP
      go_wp2_with (fail)
      refine (KR.out W6).mono ?_
      rintro e w7 ⟨rfl, m7⟩
      have L7 := L6.trans (m7.mono L6.size)
      have bP7 := (m7.block _ (Array.getElem?_eq_some_iff.1 bP).1).trans bP
      have bE7 := (m7.block _ (Array.getElem?_eq_some_iff.1 bE6).1).trans bE6
      clear x0 x1 x2 x3 x4 x5 bP bE6 L6 m7 KR
      obtain ⟨x0, x1, x2, x3, x4, x5⟩ := o_cells _ _ _ _ _ _ bP7
      obtain ⟨e0, e1, e2, e3⟩ := e_cells _ _ _ _ bE7
      go_wp2_with (go_at_call 8; (with_reducible refine (TW.out _).mono ?_); rintro e w8 ⟨rfl, m8⟩)
      go_ret
      exact ⟨rfl, L7.trans (m8.mono L7.size)⟩
    · have hy : ofY kk bk ec ep eg et = 2 ∧ ofV kk bk ec ep eg et = (0, 0, 0, 0, 0, 0) := by unfold ofY ofV; rw [if_neg hof, if_neg hof]; exact ⟨rfl, rfl⟩
      rw [hy.1, hy.2]
      clear hy hof
      have bP := heap_alloc_new w5 (.cells #[.int .u8 0, .int .u8 0, .int .i64 0, .int .i64 0, .int .i64 0, .int .i64 0] 23)
      have L6 := L5.alloc L5.size (.cells #[.int .u8 0, .int .u8 0, .int .i64 0, .int .i64 0, .int .i64 0, .int .i64 0] 23)
      clear bE5 L5
      go_upto_region 7 with (fail)
      generalize w5.alloc (.cells #[.int .u8 0, .int .u8 0, .int .i64 0, .int .i64 0, .int .i64 0, .int .i64 0] 23) = W6 at *
      generalize w5.heap.size = bp at *
      obtain ⟨x0, x1, x2, x3, x4, x5⟩ := o_cells _ _ _ _ _ _ bP
      go_wp2_with (go_at_call 8; (with_reducible refine (TW.out _).mono ?_); rintro e w8 ⟨rfl, m8⟩)
      go_ret
      exact ⟨rfl, L6.trans (m8.mono L6.size)⟩
end Go.Proofs.Ytjhicdinhcfbjaa
