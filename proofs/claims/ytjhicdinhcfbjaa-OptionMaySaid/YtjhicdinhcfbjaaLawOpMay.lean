/- 'handfastlaw06.OptionMay' returns true at every option and number, and leaves what lay as it lay. -/
import Derived.Test.YtjhicdinhcfbjaaOpW
import Derived.Test.YtjhicdinhcfbjaaOpL
namespace Go.Proofs.Ytjhicdinhcfbjaa
open Go.RowKit Go.Shelf
open SumM

theorem optOk_no {kd bu cu pv ge ti : Int} (h : kd < 1 ∨ 6 ≤ kd ∨ 16 ≤ bu ∨ cu < -1 ∨ 6 ≤ cu ∨ pv < -1 ∨ 6 ≤ pv ∨ ge < 0 ∨ 2147483648 ≤ ge ∨ ti < 0 ∨ 1099511627776 < ti) : optOk kd bu cu pv ge ti = false := by
  rw [Bool.eq_false_iff]
  intro hc
  obtain ⟨h1, h2, h3, h4, h5, h6⟩ := optOk_iff.1 hc
  omega
theorem oRight_not (kd bu cu pv ge ti : Int) (H : ONums kd bu cu pv ge ti) (h : kd < 1 ∨ 6 ≤ kd ∨ 16 ≤ bu ∨ cu < -1 ∨ 6 ≤ cu ∨ pv < -1 ∨ 6 ≤ pv ∨ ge < 0 ∨ 2147483648 ≤ ge ∨ ti < 0 ∨ 1099511627776 < ti) (w : World) :
    Calls Try.prog 17 #[.agg #[.int .u8 kd, .int .u8 bu, .int .i64 cu, .int .i64 pv, .int .i64 ge, .int .i64 ti]] w fun e w' => e = .returned (.bool false) ∧ Below w.heap.size w w' := by
  have k := oRight_any kd bu cu pv ge ti H w
  rwa [optOk_no h] at k

set_option maxRecDepth 100000 in
set_option maxHeartbeats 16000000 in
theorem oMay_walk (kd bu cu pv ge ti : Int) (n : Int) (w : World) (H : ONums kd bu cu pv ge ti) (hn0 : (Lit.int .i64 n).wf = true) :
    Calls Try.prog 6 #[.agg #[.int .u8 kd, .int .u8 bu, .int .i64 cu, .int .i64 pv, .int .i64 ge, .int .i64 ti], .int .i64 n] w fun e w' => e = .returned (.bool true) ∧ Below w.heap.size w w' := by
  have hn := wf_i64.1 hn0
  have bO := heap_alloc_new w (.cells #[.int .u8 kd, .int .u8 bu, .int .i64 cu, .int .i64 pv, .int .i64 ge, .int .i64 ti] 23)
  have L0 := (Below.refl w.heap.size w).alloc (Nat.le_refl _) (.cells #[.int .u8 kd, .int .u8 bu, .int .i64 cu, .int .i64 pv, .int .i64 ge, .int .i64 ti] 23)
  have TW := Lib.hid (fun W => owakes_any W)
  have HH := Lib.hid H
  have HN := Lib.hid hn
  have KR := Lib.hid (fun W => oRight_any kd bu cu pv ge ti H W)
  obtain ⟨q0, q1, q2, q3, q4, q5⟩ := o_cells _ _ _ _ _ _ bO
  clear H hn0 hn
  go_enter Try.func6, Try.ntmps6
  go_upto_region 1 with (fail)
  generalize (w.alloc (.cells #[.int .u8 kd, .int .u8 bu, .int .i64 cu, .int .i64 pv, .int .i64 ge, .int .i64 ti] 23)) = W0 at *
  by_cases hok : optOk kd bu cu pv ge ti = true
  case neg =>
    have hok' : optOk kd bu cu pv ge ti = false := by simpa using hok
    go_wp2_with (first
      | (go_at_call 17; (with_reducible refine (KR.out _).mono ?_); rintro e w1 ⟨rfl, m1⟩; rw [hok'])
      | (go_at_call 8; (with_reducible refine (TW.out _).mono ?_); rintro e w2 ⟨rfl, m2⟩))
    go_ret
    exact ⟨rfl, (L0.trans (m1.mono L0.size)).trans (m2.mono (Nat.le_trans L0.size m1.size))⟩
  by_cases h1 : n < 1 ∨ 100 < n
  · have hc : decide (n < 1) = true ∨ (decide (n < 1) = false ∧ decide (100 < n) = true) := by
      by_cases h : n < 1
      · exact .inl (decide_eq_true h)
      · exact .inr ⟨decide_eq_false h, decide_eq_true (by omega)⟩
    rcases hc with p1 | ⟨p1, p2⟩
    all_goals
      go_wp2_with (first
        | (go_at_call 17; (with_reducible refine (KR.out _).mono ?_); rintro e w1 ⟨rfl, m1⟩; rw [hok])
        | (go_at_call 8; (with_reducible refine (TW.out _).mono ?_); rintro e w2 ⟨rfl, m2⟩))
      go_ret
      exact ⟨rfl, (L0.trans (m1.mono L0.size)).trans (m2.mono (Nat.le_trans L0.size m1.size))⟩
  · have p1 : decide (n < 1) = false := decide_eq_false (by omega)
    have p2 : decide (100 < n) = false := decide_eq_false (by omega)
    have HNN := Lib.hid (show 1 ≤ n ∧ n ≤ 100 by omega)
    go_wp2_with (go_at_call 17; (with_reducible refine (KR.out _).mono ?_); rintro e w1 ⟨rfl, m1⟩; rw [hok])
    have bO1 := (m1.block _ (Array.getElem?_eq_some_iff.1 bO).1).trans bO
    have L1 := L0.trans (m1.mono L0.size)
    have HOK := Lib.hid (optOk_iff.1 hok)
    clear q0 q1 q2 q3 q4 q5 bO L0 m1 hok h1 KR
    go_loopw [5] (fun i wr => ∃ k : Nat, k ≤ 10 ∧ i = .int .i64 k ∧ wr.heap[w.heap.size]? = some (.cells #[.int .u8 kd, .int .u8 bu, .int .i64 cu, .int .i64 pv, .int .i64 ge, .int .i64 ti] 23 (0, 0)) ∧ Below w.heap.size w wr) (fun i _ => 10 - (intOf i).toNat)
    case atStart => exact ⟨0, by omega, rfl, bO1, L1⟩
    case round =>
      obtain ⟨k, hk, rfl, bO2, L2⟩ := hrel
      clear bO1 L1
      obtain ⟨q0, q1, q2, q3, q4, q5⟩ := o_cells _ _ _ _ _ _ bO2
      by_cases hlt : k < 10
      · have HB := Lib.hid bO2
        have HL := Lib.hid L2
        have hw8 : IntKind.u8.wrap n = n := by rw [wrap_u8]; have := HNN.out; omega
        have hw5 : IntKind.u8.wrap (5 + n) = 5 + n := by rw [wrap_u8]; have := HNN.out; omega
        have hw15 : IntKind.u8.wrap (15 + n) = 15 + n := by rw [wrap_u8]; have := HNN.out; omega
        have hq0 : wrap64 (-1 - n) = -1 - n := by unfold wrap64; have := HNN.out; omega
        have hq1 : wrap64 (5 + n) = 5 + n := by unfold wrap64; have := HNN.out; omega
        have hq2 : wrap64 (-n) = -n := by unfold wrap64; have := HNN.out; omega
        have hq3 : wrap64 (2147483647 + n) = 2147483647 + n := by unfold wrap64; have := HNN.out; omega
        have hq4 : wrap64 (1099511627776 + n) = 1099511627776 + n := by unfold wrap64; have := HNN.out; omega
        clear bO2 L2
        have hkc : k = 0 ∨ k = 1 ∨ k = 2 ∨ k = 3 ∨ k = 4 ∨ k = 5 ∨ k = 6 ∨ k = 7 ∨ k = 8 ∨ k = 9 := by omega
        rcases hkc with rfl | rfl | rfl | rfl | rfl | rfl | rfl | rfl | rfl | rfl
        all_goals
          go_upto_region 7 with (fail)
          have bX := heap_alloc_new wr (.cells #[.int .u8 kd, .int .u8 bu, .int .i64 cu, .int .i64 pv, .int .i64 ge, .int .i64 ti] 23)
          have HB3 := Lib.hid ((Below.heap_alloc wr (.cells #[.int .u8 kd, .int .u8 bu, .int .i64 cu, .int .i64 pv, .int .i64 ge, .int .i64 ti] 23) w.heap.size (Array.getElem?_eq_some_iff.1 HB.out).1).trans HB.out)
          have HL3 := Lib.hid (HL.out.alloc HL.out.size (.cells #[.int .u8 kd, .int .u8 bu, .int .i64 cu, .int .i64 pv, .int .i64 ge, .int .i64 ti] 23))
          have hbx : w.heap.size < wr.heap.size := (Array.getElem?_eq_some_iff.1 HB.out).1
          have hbs : wr.heap.size < (wr.alloc (.cells #[.int .u8 kd, .int .u8 bu, .int .i64 cu, .int .i64 pv, .int .i64 ge, .int .i64 ti] 23)).heap.size := by simp
          clear q0 q1 q2 q3 q4 q5 HB HL
          generalize wr.alloc (.cells #[.int .u8 kd, .int .u8 bu, .int .i64 cu, .int .i64 pv, .int .i64 ge, .int .i64 ti] 23) = W3 at *
          generalize wr.heap.size = bx at *
          obtain ⟨x0, x1, x2, x3, x4, x5⟩ := o_cells _ _ _ _ _ _ bX
          have f0 := o_frozen bX 0
          have f1 := o_frozen bX 1
          have f2 := o_frozen bX 2
          have f3 := o_frozen bX 3
          have f4 := o_frozen bX 4
          have f5 := o_frozen bX 5
          go_wp2_with (go_at_call 17; refine (oRight_not _ _ _ _ _ _ (by obtain ⟨g1, g2, g3, g4, g5, g6⟩ := HH.out; have gn := HNN.out; exact ⟨by omega, by omega, by omega, by omega, by omega, by omega⟩) (by have gn := HNN.out; omega) _).mono ?_; rintro e w5 ⟨rfl, m5⟩)
          go_roundw
          case measure => simp [intOf]
          case rel =>
            first
            | exact ⟨1, by omega, by go_num, (m5.block _ (by rw [World.size_setCell]; omega)).trans ((Below.heap_setCell W3 _ _ _ (by simp; omega)).trans HB3.out), (HL3.out.setCell (by simp; omega) _).trans (m5.mono (by rw [World.size_setCell]; exact HL3.out.size))⟩
            | exact ⟨2, by omega, by go_num, (m5.block _ (by rw [World.size_setCell]; omega)).trans ((Below.heap_setCell W3 _ _ _ (by simp; omega)).trans HB3.out), (HL3.out.setCell (by simp; omega) _).trans (m5.mono (by rw [World.size_setCell]; exact HL3.out.size))⟩
            | exact ⟨3, by omega, by go_num, (m5.block _ (by rw [World.size_setCell]; omega)).trans ((Below.heap_setCell W3 _ _ _ (by simp; omega)).trans HB3.out), (HL3.out.setCell (by simp; omega) _).trans (m5.mono (by rw [World.size_setCell]; exact HL3.out.size))⟩
            | exact ⟨4, by omega, by go_num, (m5.block _ (by rw [World.size_setCell]; omega)).trans ((Below.heap_setCell W3 _ _ _ (by simp; omega)).trans HB3.out), (HL3.out.setCell (by simp; omega) _).trans (m5.mono (by rw [World.size_setCell]; exact HL3.out.size))⟩
            | exact ⟨5, by omega, by go_num, (m5.block _ (by rw [World.size_setCell]; omega)).trans ((Below.heap_setCell W3 _ _ _ (by simp; omega)).trans HB3.out), (HL3.out.setCell (by simp; omega) _).trans (m5.mono (by rw [World.size_setCell]; exact HL3.out.size))⟩
            | exact ⟨6, by omega, by go_num, (m5.block _ (by rw [World.size_setCell]; omega)).trans ((Below.heap_setCell W3 _ _ _ (by simp; omega)).trans HB3.out), (HL3.out.setCell (by simp; omega) _).trans (m5.mono (by rw [World.size_setCell]; exact HL3.out.size))⟩
            | exact ⟨7, by omega, by go_num, (m5.block _ (by rw [World.size_setCell]; omega)).trans ((Below.heap_setCell W3 _ _ _ (by simp; omega)).trans HB3.out), (HL3.out.setCell (by simp; omega) _).trans (m5.mono (by rw [World.size_setCell]; exact HL3.out.size))⟩
            | exact ⟨8, by omega, by go_num, (m5.block _ (by rw [World.size_setCell]; omega)).trans ((Below.heap_setCell W3 _ _ _ (by simp; omega)).trans HB3.out), (HL3.out.setCell (by simp; omega) _).trans (m5.mono (by rw [World.size_setCell]; exact HL3.out.size))⟩
            | exact ⟨9, by omega, by go_num, (m5.block _ (by rw [World.size_setCell]; omega)).trans ((Below.heap_setCell W3 _ _ _ (by simp; omega)).trans HB3.out), (HL3.out.setCell (by simp; omega) _).trans (m5.mono (by rw [World.size_setCell]; exact HL3.out.size))⟩
            | exact ⟨10, by omega, by go_num, (m5.block _ (by rw [World.size_setCell]; omega)).trans ((Below.heap_setCell W3 _ _ _ (by simp; omega)).trans HB3.out), (HL3.out.setCell (by simp; omega) _).trans (m5.mono (by rw [World.size_setCell]; exact HL3.out.size))⟩
      · obtain rfl : k = 10 := by omega
        clear hlt
        go_wp2_with (go_at_call 8; (with_reducible refine (TW.out _).mono ?_); rintro e w2 ⟨rfl, m2⟩)
        go_ret
        exact ⟨rfl, L2.trans (m2.mono L2.size)⟩
end Go.Proofs.Ytjhicdinhcfbjaa
