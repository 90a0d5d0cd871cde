/- The document's own Of and Turned of options. -/
import Derived.Test.YtjhicdinhcfbjaaOpD
namespace Go.Proofs.Ytjhicdinhcfbjaa
open Go.RowKit Go.Shelf
open SumM

theorem e_cells {w : World} {b : Nat} (ec ep eg et : Int) (h : w.heap[b]? = some (.cells #[.int .i64 ec, .int .i64 ep, .int .i64 eg, .int .i64 et] 25 (0, 0))) :
    w.cell? ⟨b, 0, none⟩ = some (.int .i64 ec) ∧ w.cell? ⟨b, 1, none⟩ = some (.int .i64 ep) ∧ w.cell? ⟨b, 2, none⟩ = some (.int .i64 eg) ∧ w.cell? ⟨b, 3, none⟩ = some (.int .i64 et) := by
  refine ⟨?_, ?_, ?_, ?_⟩ <;> (rw [cell_of_row _ _ _ _ _ _ h]; rfl)
def ofOk (kd bk ec ep eg et : Int) : Bool := decide (0 ≤ bk) && decide (bk < 16) && optOk kd bk ec ep eg et
def ofV (kd bk ec ep eg et : Int) : Int × Int × Int × Int × Int × Int := if ofOk kd bk ec ep eg et = true then (kd, bk, ec, ep, eg, et) else (0, 0, 0, 0, 0, 0)
def ofY (kd bk ec ep eg et : Int) : Int := if ofOk kd bk ec ep eg et = true then 0 else 2
def tuV (bu cu pv ti kk gg : Int) : Int × Int × Int × Int × Int × Int := if optOk kk bu cu pv gg ti = true then (kk, bu, cu, pv, gg, ti) else (0, 0, 0, 0, 0, 0)
def tuY (bu cu pv ti kk gg : Int) : Int := if optOk kk bu cu pv gg ti = true then 0 else 2

set_option maxRecDepth 100000 in
set_option maxHeartbeats 4000000 in
theorem refOOf_any (kd bk : Int) (ec ep eg et : Int) (w : World) :
    Calls Try.prog 14 #[.int .u8 kd, .int .i64 bk, .agg #[.int .i64 ec, .int .i64 ep, .int .i64 eg, .int .i64 et]] w fun e w' => e = .returned (.tuple #[.agg #[.int .u8 (ofV kd bk ec ep eg et).1, .int .u8 (ofV kd bk ec ep eg et).2.1, .int .i64 (ofV kd bk ec ep eg et).2.2.1, .int .i64 (ofV kd bk ec ep eg et).2.2.2.1, .int .i64 (ofV kd bk ec ep eg et).2.2.2.2.1, .int .i64 (ofV kd bk ec ep eg et).2.2.2.2.2], .int .i64 (ofY kd bk ec ep eg et)]) ∧ Below w.heap.size w w' := by
  have bR := heap_alloc_new (w.alloc (.cells #[.int .i64 ec, .int .i64 ep, .int .i64 eg, .int .i64 et] 25)) (.cells #[.int .u8 0, .int .u8 0, .int .i64 0, .int .i64 0, .int .i64 0, .int .i64 0] 23)
  have bE := (Below.heap_alloc (w.alloc (.cells #[.int .i64 ec, .int .i64 ep, .int .i64 eg, .int .i64 et] 25)) (.cells #[.int .u8 0, .int .u8 0, .int .i64 0, .int .i64 0, .int .i64 0, .int .i64 0] 23) w.heap.size (by simp)).trans (heap_alloc_new w (.cells #[.int .i64 ec, .int .i64 ep, .int .i64 eg, .int .i64 et] 25))
  rw [World.size_alloc] at bR
  have L0 := ((Below.refl w.heap.size w).alloc (Nat.le_refl _) (.cells #[.int .i64 ec, .int .i64 ep, .int .i64 eg, .int .i64 et] 25)).alloc (by simp) (.cells #[.int .u8 0, .int .u8 0, .int .i64 0, .int .i64 0, .int .i64 0, .int .i64 0] 23)
  have hle : w.heap.size ≤ w.heap.size + 1 := by omega
  by_cases hbk : 0 ≤ bk ∧ bk < 16
  rotate_left
  · have HY := Lib.hid (show ofY kd bk ec ep eg et = 2 ∧ ofV kd bk ec ep eg et = (0, 0, 0, 0, 0, 0) by
      have h : ofOk kd bk ec ep eg et = false := by
        unfold ofOk
        by_cases h1 : 0 ≤ bk
        · rw [decide_eq_false (show ¬ bk < 16 by omega)]; simp
        · rw [decide_eq_false h1]; simp
      unfold ofY ofV
      rw [h, if_neg (by simp), if_neg (by simp)]
      exact ⟨rfl, rfl⟩)
    have hc : (decide (bk < 0) = true) ∨ (decide (bk < 0) = false ∧ decide ((16 : Int) ≤ bk) = true) := by
      by_cases h1 : bk < 0
      · exact .inl (decide_eq_true h1)
      · exact .inr ⟨decide_eq_false h1, decide_eq_true (by omega)⟩
    obtain ⟨q0, q1, q2, q3, q4, q5⟩ := o_cells _ _ _ _ _ _ bR
    have f0 := o_frozen bR 0
    have f1 := o_frozen bR 1
    have f2 := o_frozen bR 2
    have f3 := o_frozen bR 3
    have f4 := o_frozen bR 4
    have f5 := o_frozen bR 5
    have HC := Lib.hid bR
    have HB := Lib.hid L0
    clear bR L0
    clear hbk bE
    rcases hc with p1 | ⟨p1, p2⟩
    all_goals
      go_enter Try.func14, Try.ntmps14
      go_upto_region 1 with (fail)
      generalize (w.alloc (.cells #[.int .i64 ec, .int .i64 ep, .int .i64 eg, .int .i64 et] 25)).alloc (.cells #[.int .u8 0, .int .u8 0, .int .i64 0, .int .i64 0, .int .i64 0, .int .i64 0] 23) = W0 at *
      go_wp2
      refine bodyPost_ret (results_o rfl _ _ (w.heap.size + 1) _ (0, 0) rfl (full_setCells HC.out [.int .u8 0, .int .u8 0, .int .i64 0, .int .i64 0, .int .i64 0, .int .i64 0] rfl) rfl) rfl ?_
      rw [HY.out.1, HY.out.2]
      exact ⟨rfl, below_setCells (w.heap.size + 1) hle [.int .u8 0, .int .u8 0, .int .i64 0, .int .i64 0, .int .i64 0, .int .i64 0] 0 w _ HB.out⟩
  have p1 : decide (bk < 0) = false := decide_eq_false (by omega)
  have p2 : decide ((16 : Int) ≤ bk) = false := decide_eq_false (by omega)
  have u1 : IntKind.u8.wrap bk = bk := IntWalk.u8_in _ (by omega)
  have HOF := Lib.hid (show ofOk kd bk ec ep eg et = optOk kd bk ec ep eg et by unfold ofOk; rw [decide_eq_true hbk.1, decide_eq_true hbk.2]; simp)
  obtain ⟨e0, e1, e2, e3⟩ := e_cells _ _ _ _ bE
  go_enter Try.func14, Try.ntmps14
  go_upto_region 1 with (fail)
  generalize (w.alloc (.cells #[.int .i64 ec, .int .i64 ep, .int .i64 eg, .int .i64 et] 25)).alloc (.cells #[.int .u8 0, .int .u8 0, .int .i64 0, .int .i64 0, .int .i64 0, .int .i64 0] 23) = W0 at *
  go_upto_region 4 with (fail)
  have bX := heap_alloc_new W0 (.cells #[.int .u8 kd, .int .u8 bk, .int .i64 ec, .int .i64 ep, .int .i64 eg, .int .i64 et] 23)
  have bR1 := (Below.heap_alloc W0 (.cells #[.int .u8 kd, .int .u8 bk, .int .i64 ec, .int .i64 ep, .int .i64 eg, .int .i64 et] 23) (w.heap.size + 1) (Array.getElem?_eq_some_iff.1 bR).1).trans bR
  have L1 := L0.alloc L0.size (.cells #[.int .u8 kd, .int .u8 bk, .int .i64 ec, .int .i64 ep, .int .i64 eg, .int .i64 et] 23)
  clear e0 e1 e2 e3 bE bR L0 u1 p1 p2 hbk
  generalize W0.alloc (.cells #[.int .u8 kd, .int .u8 bk, .int .i64 ec, .int .i64 ep, .int .i64 eg, .int .i64 et] 23) = W1 at *
  generalize W0.heap.size = bx at *
  have KR := Lib.hid (refORight_any kd bk ec ep eg et W1)
  obtain ⟨x0, x1, x2, x3, x4, x5⟩ := o_cells _ _ _ _ _ _ bX
  by_cases hok : optOk kd bk ec ep eg et = true
  · have HY := Lib.hid (show ofY kd bk ec ep eg et = 0 ∧ ofV kd bk ec ep eg et = (kd, bk, ec, ep, eg, et) by unfold ofY ofV; rw [HOF.out, if_pos hok, if_pos hok]; exact ⟨rfl, rfl⟩)
    rw [hok] at KR
    clear hok
    go_wp2_with (fail)
    refine KR.out.mono ?_
    rintro e w2 ⟨rfl, m2⟩
    have L2 := L1.trans (m2.mono L1.size)
    have bR2 := (m2.block _ (Array.getElem?_eq_some_iff.1 bR1).1).trans bR1
    have bX2 := (m2.block _ (Array.getElem?_eq_some_iff.1 bX).1).trans bX
    clear x0 x1 x2 x3 x4 x5 bX bR1 L1 m2 KR
    obtain ⟨x0, x1, x2, x3, x4, x5⟩ := o_cells _ _ _ _ _ _ bX2
    clear bX2
    obtain ⟨q0, q1, q2, q3, q4, q5⟩ := o_cells _ _ _ _ _ _ bR2
    have f0 := o_frozen bR2 0
    have f1 := o_frozen bR2 1
    have f2 := o_frozen bR2 2
    have f3 := o_frozen bR2 3
    have f4 := o_frozen bR2 4
    have f5 := o_frozen bR2 5
    have HC := Lib.hid bR2
    have HB := Lib.hid L2
    clear bR2 L2
    go_wp2
    refine bodyPost_ret (results_o rfl _ _ (w.heap.size + 1) _ (0, 0) rfl (full_setCells HC.out [.int .u8 kd, .int .u8 bk, .int .i64 ec, .int .i64 ep, .int .i64 eg, .int .i64 et] rfl) rfl) rfl ?_
    rw [HY.out.1, HY.out.2]
    exact ⟨rfl, below_setCells (w.heap.size + 1) hle [.int .u8 kd, .int .u8 bk, .int .i64 ec, .int .i64 ep, .int .i64 eg, .int .i64 et] 0 w _ HB.out⟩
  · have HY := Lib.hid (show ofY kd bk ec ep eg et = 2 ∧ ofV kd bk ec ep eg et = (0, 0, 0, 0, 0, 0) by unfold ofY ofV; rw [HOF.out, if_neg hok, if_neg hok]; exact ⟨rfl, rfl⟩)
    have hok' : optOk kd bk ec ep eg et = false := by simpa using hok
    rw [hok'] at KR
    clear hok hok'
    go_wp2_with (fail)
    refine KR.out.mono ?_
    rintro e w2 ⟨rfl, m2⟩
    have L2 := L1.trans (m2.mono L1.size)
    have bR2 := (m2.block _ (Array.getElem?_eq_some_iff.1 bR1).1).trans bR1
    clear x0 x1 x2 x3 x4 x5 bX bR1 L1 m2 KR
    obtain ⟨q0, q1, q2, q3, q4, q5⟩ := o_cells _ _ _ _ _ _ bR2
    have f0 := o_frozen bR2 0
    have f1 := o_frozen bR2 1
    have f2 := o_frozen bR2 2
    have f3 := o_frozen bR2 3
    have f4 := o_frozen bR2 4
    have f5 := o_frozen bR2 5
    have HC := Lib.hid bR2
    have HB := Lib.hid L2
    clear bR2 L2
    go_wp2
    refine bodyPost_ret (results_o rfl _ _ (w.heap.size + 1) _ (0, 0) rfl (full_setCells HC.out [.int .u8 0, .int .u8 0, .int .i64 0, .int .i64 0, .int .i64 0, .int .i64 0] rfl) rfl) rfl ?_
    rw [HY.out.1, HY.out.2]
    exact ⟨rfl, below_setCells (w.heap.size + 1) hle [.int .u8 0, .int .u8 0, .int .i64 0, .int .i64 0, .int .i64 0, .int .i64 0] 0 w _ HB.out⟩

set_option maxRecDepth 100000 in
set_option maxHeartbeats 4000000 in
theorem refOTurned_any (kd bu cu pv ge ti : Int) (kk gg : Int) (w : World) :
    Calls Try.prog 16 #[.agg #[.int .u8 kd, .int .u8 bu, .int .i64 cu, .int .i64 pv, .int .i64 ge, .int .i64 ti], .int .u8 kk, .int .i64 gg] w fun e w' => e = .returned (.tuple #[.agg #[.int .u8 (tuV bu cu pv ti kk gg).1, .int .u8 (tuV bu cu pv ti kk gg).2.1, .int .i64 (tuV bu cu pv ti kk gg).2.2.1, .int .i64 (tuV bu cu pv ti kk gg).2.2.2.1, .int .i64 (tuV bu cu pv ti kk gg).2.2.2.2.1, .int .i64 (tuV bu cu pv ti kk gg).2.2.2.2.2], .int .i64 (tuY bu cu pv ti kk gg)]) ∧ Below w.heap.size w w' := by
  have bR := heap_alloc_new (w.alloc (.cells #[.int .u8 kd, .int .u8 bu, .int .i64 cu, .int .i64 pv, .int .i64 ge, .int .i64 ti] 23)) (.cells #[.int .u8 0, .int .u8 0, .int .i64 0, .int .i64 0, .int .i64 0, .int .i64 0] 23)
  have bO := (Below.heap_alloc (w.alloc (.cells #[.int .u8 kd, .int .u8 bu, .int .i64 cu, .int .i64 pv, .int .i64 ge, .int .i64 ti] 23)) (.cells #[.int .u8 0, .int .u8 0, .int .i64 0, .int .i64 0, .int .i64 0, .int .i64 0] 23) w.heap.size (by simp)).trans (heap_alloc_new w (.cells #[.int .u8 kd, .int .u8 bu, .int .i64 cu, .int .i64 pv, .int .i64 ge, .int .i64 ti] 23))
  rw [World.size_alloc] at bR
  have L0 := ((Below.refl w.heap.size w).alloc (Nat.le_refl _) (.cells #[.int .u8 kd, .int .u8 bu, .int .i64 cu, .int .i64 pv, .int .i64 ge, .int .i64 ti] 23)).alloc (by simp) (.cells #[.int .u8 0, .int .u8 0, .int .i64 0, .int .i64 0, .int .i64 0, .int .i64 0] 23)
  have hle : w.heap.size ≤ w.heap.size + 1 := by omega
  obtain ⟨x0, x1, x2, x3, x4, x5⟩ := o_cells _ _ _ _ _ _ bO
  have g0 := o_frozen bO 0
  have g4 := o_frozen bO 4
  go_enter Try.func16, Try.ntmps16
  go_upto_region 1 with (fail)
  generalize (w.alloc (.cells #[.int .u8 kd, .int .u8 bu, .int .i64 cu, .int .i64 pv, .int .i64 ge, .int .i64 ti] 23)).alloc (.cells #[.int .u8 0, .int .u8 0, .int .i64 0, .int .i64 0, .int .i64 0, .int .i64 0] 23) = W0 at *
  go_upto_region 3 with (fail)
  have b1 : (W0.setCell ⟨w.heap.size, 0, none⟩ (.int .u8 kk)).heap[w.heap.size]? = some (.cells #[.int .u8 kk, .int .u8 bu, .int .i64 cu, .int .i64 pv, .int .i64 ge, .int .i64 ti] 23 (0, 0)) := heap_setCell_same W0 w.heap.size 0 _ _ (.int .u8 kk) bO
  have b2 : ((W0.setCell ⟨w.heap.size, 0, none⟩ (.int .u8 kk)).setCell ⟨w.heap.size, 4, none⟩ (.int .i64 gg)).heap[w.heap.size]? = some (.cells #[.int .u8 kk, .int .u8 bu, .int .i64 cu, .int .i64 pv, .int .i64 gg, .int .i64 ti] 23 (0, 0)) := heap_setCell_same _ w.heap.size 4 _ _ (.int .i64 gg) b1
  have r2 : ((W0.setCell ⟨w.heap.size, 0, none⟩ (.int .u8 kk)).setCell ⟨w.heap.size, 4, none⟩ (.int .i64 gg)).heap[w.heap.size + 1]? = some (.cells #[.int .u8 0, .int .u8 0, .int .i64 0, .int .i64 0, .int .i64 0, .int .i64 0] 23 (0, 0)) := by
    rw [heap_setCell_other _ _ _ _ (by show w.heap.size + 1 ≠ w.heap.size; omega), heap_setCell_other _ _ _ _ (by show w.heap.size + 1 ≠ w.heap.size; omega)]
    exact bR
  have L1 := (L0.setCell (p := ⟨w.heap.size, 0, none⟩) (Nat.le_refl _) (.int .u8 kk)).setCell (p := ⟨w.heap.size, 4, none⟩) (Nat.le_refl _) (.int .i64 gg)
  clear x0 x1 x2 x3 x4 x5 g0 g4 bO bR L0 b1
  generalize (W0.setCell ⟨w.heap.size, 0, none⟩ (.int .u8 kk)).setCell ⟨w.heap.size, 4, none⟩ (.int .i64 gg) = W1 at *
  have KR := Lib.hid (refORight_any kk bu cu pv gg ti W1)
  obtain ⟨x0, x1, x2, x3, x4, x5⟩ := o_cells _ _ _ _ _ _ b2
  by_cases hok : optOk kk bu cu pv gg ti = true
  · have HY := Lib.hid (show tuY bu cu pv ti kk gg = 0 ∧ tuV bu cu pv ti kk gg = (kk, bu, cu, pv, gg, ti) by unfold tuY tuV; rw [if_pos hok, if_pos hok]; exact ⟨rfl, rfl⟩)
    rw [hok] at KR
    clear hok
    go_wp2_with (fail)
    refine KR.out.mono ?_
    rintro e w2 ⟨rfl, m2⟩
    have L2 := L1.trans (m2.mono L1.size)
    have bR2 := (m2.block _ (Array.getElem?_eq_some_iff.1 r2).1).trans r2
    have bX2 := (m2.block _ (Array.getElem?_eq_some_iff.1 b2).1).trans b2
    clear x0 x1 x2 x3 x4 x5 b2 r2 L1 m2 KR
    obtain ⟨x0, x1, x2, x3, x4, x5⟩ := o_cells _ _ _ _ _ _ bX2
    clear bX2
    obtain ⟨q0, q1, q2, q3, q4, q5⟩ := o_cells _ _ _ _ _ _ bR2
    have f0 := o_frozen bR2 0
    have f1 := o_frozen bR2 1
    have f2 := o_frozen bR2 2
    have f3 := o_frozen bR2 3
    have f4 := o_frozen bR2 4
    have f5 := o_frozen bR2 5
    have HC := Lib.hid bR2
    have HB := Lib.hid L2
    clear bR2 L2
    go_wp2
    refine bodyPost_ret (results_o rfl _ _ (w.heap.size + 1) _ (0, 0) rfl (full_setCells HC.out [.int .u8 kk, .int .u8 bu, .int .i64 cu, .int .i64 pv, .int .i64 gg, .int .i64 ti] rfl) rfl) rfl ?_
    rw [HY.out.1, HY.out.2]
    exact ⟨rfl, below_setCells (w.heap.size + 1) hle [.int .u8 kk, .int .u8 bu, .int .i64 cu, .int .i64 pv, .int .i64 gg, .int .i64 ti] 0 w _ HB.out⟩
  · have HY := Lib.hid (show tuY bu cu pv ti kk gg = 2 ∧ tuV bu cu pv ti kk gg = (0, 0, 0, 0, 0, 0) by unfold tuY tuV; rw [if_neg hok, if_neg hok]; exact ⟨rfl, rfl⟩)
    have hok' : optOk kk bu cu pv gg ti = false := by simpa using hok
    rw [hok'] at KR
    clear hok hok'
    go_wp2_with (fail)
    refine KR.out.mono ?_
    rintro e w2 ⟨rfl, m2⟩
    have L2 := L1.trans (m2.mono L1.size)
    have bR2 := (m2.block _ (Array.getElem?_eq_some_iff.1 r2).1).trans r2
    clear x0 x1 x2 x3 x4 x5 b2 r2 L1 m2 KR
    obtain ⟨q0, q1, q2, q3, q4, q5⟩ := o_cells _ _ _ _ _ _ bR2
    have f0 := o_frozen bR2 0
    have f1 := o_frozen bR2 1
    have f2 := o_frozen bR2 2
    have f3 := o_frozen bR2 3
    have f4 := o_frozen bR2 4
    have f5 := o_frozen bR2 5
    have HC := Lib.hid bR2
    have HB := Lib.hid L2
    clear bR2 L2
    go_wp2
    refine bodyPost_ret (results_o rfl _ _ (w.heap.size + 1) _ (0, 0) rfl (full_setCells HC.out [.int .u8 0, .int .u8 0, .int .i64 0, .int .i64 0, .int .i64 0, .int .i64 0] rfl) rfl) rfl ?_
    rw [HY.out.1, HY.out.2]
    exact ⟨rfl, below_setCells (w.heap.size + 1) hle [.int .u8 0, .int .u8 0, .int .i64 0, .int .i64 0, .int .i64 0, .int .i64 0] 0 w _ HB.out⟩
end Go.Proofs.Ytjhicdinhcfbjaa
