/- Package option: numbersOf, Right, Of, Turned. -/
import Derived.Test.YtjhicdinhcfbjaaOpN
namespace Go.Proofs.Ytjhicdinhcfbjaa
open Go.RowKit Go.Shelf
open SumM

theorem z6_cells {w : World} {b : Nat} (h : w.heap[b]? = some (.cells #[.int .i64 0, .int .i64 0, .int .i64 0, .int .i64 0, .int .i64 0, .int .i64 0] 43 (0, 0))) :
    w.cell? ⟨b, 0, none⟩ = some (.int .i64 0) ∧ w.cell? ⟨b, 1, none⟩ = some (.int .i64 0) ∧ w.cell? ⟨b, 2, none⟩ = some (.int .i64 0) ∧ w.cell? ⟨b, 3, none⟩ = some (.int .i64 0) ∧ w.cell? ⟨b, 4, none⟩ = some (.int .i64 0) ∧ w.cell? ⟨b, 5, none⟩ = some (.int .i64 0) := by
  refine ⟨?_, ?_, ?_, ?_, ?_, ?_⟩ <;> (rw [cell_of_row _ _ _ _ _ _ h]; rfl)

set_option maxRecDepth 100000 in
set_option maxHeartbeats 4000000 in
theorem numbersOf_any (kd bu cu pv ge ti : Int) (h1 : 0 ≤ kd ∧ kd ≤ 255) (h2 : 0 ≤ bu ∧ bu ≤ 255) (w : World) :
    Calls Try.prog 20 #[.agg #[.int .u8 kd, .int .u8 bu, .int .i64 cu, .int .i64 pv, .int .i64 ge, .int .i64 ti]] w fun e w' => e = .returned (.agg #[.int .i64 kd, .int .i64 bu, .int .i64 cu, .int .i64 pv, .int .i64 ge, .int .i64 ti]) ∧ Below w.heap.size w w' := by
  have b0 := blkN (heap_alloc_new w (.cells #[.int .u8 kd, .int .u8 bu, .int .i64 cu, .int .i64 pv, .int .i64 ge, .int .i64 ti] 23)) (.cells #[.int .i64 0, .int .i64 0, .int .i64 0, .int .i64 0, .int .i64 0, .int .i64 0] 43)
  have b1 := newN (w.alloc (.cells #[.int .u8 kd, .int .u8 bu, .int .i64 cu, .int .i64 pv, .int .i64 ge, .int .i64 ti] 23)) (.cells #[.int .i64 0, .int .i64 0, .int .i64 0, .int .i64 0, .int .i64 0, .int .i64 0] 43) (w.heap.size + 1) (by simp)
  have L0 := ((Below.refl w.heap.size w).alloc (Nat.le_refl _) (.cells #[.int .u8 kd, .int .u8 bu, .int .i64 cu, .int .i64 pv, .int .i64 ge, .int .i64 ti] 23)).alloc (by simp) (.cells #[.int .i64 0, .int .i64 0, .int .i64 0, .int .i64 0, .int .i64 0, .int .i64 0] 43)
  have u1 : IntKind.i64.wrap kd = kd := IntWalk.i64_in _ (by omega)
  have u2 : IntKind.i64.wrap bu = bu := IntWalk.i64_in _ (by omega)
  obtain ⟨q0, q1, q2, q3, q4, q5⟩ := o_cells _ _ _ _ _ _ b0
  obtain ⟨r0, r1, r2, r3, r4, r5⟩ := z6_cells b1
  have f0 := o_frozen b1 0
  have f1 := o_frozen b1 1
  have f2 := o_frozen b1 2
  have f3 := o_frozen b1 3
  have f4 := o_frozen b1 4
  have f5 := o_frozen b1 5
  have HB := Lib.hid b1
  have HL := Lib.hid L0
  clear b0 b1 L0
  go_enter Try.func20, Try.ntmps20
  go_upto_region 1 with (fail)
  generalize (w.alloc (.cells #[.int .u8 kd, .int .u8 bu, .int .i64 cu, .int .i64 pv, .int .i64 ge, .int .i64 ti] 23)).alloc (.cells #[.int .i64 0, .int .i64 0, .int .i64 0, .int .i64 0, .int .i64 0, .int .i64 0] 43) = W0 at *
  go_wp2
  refine bodyPost_ret (results_cell_row rfl _ _ (w.heap.size + 1) 43 _ (0, 0) _ rfl (full_setCells HB.out [.int .i64 kd, .int .i64 bu, .int .i64 cu, .int .i64 pv, .int .i64 ge, .int .i64 ti] rfl) Try.underlying43 rfl Try.infoNum) rfl ?_
  exact ⟨rfl, below_setCells (w.heap.size + 1) (by omega) [.int .i64 kd, .int .i64 bu, .int .i64 cu, .int .i64 pv, .int .i64 ge, .int .i64 ti] 0 w _ HL.out⟩

/-- within, by six letters. -/
theorem within_any (k b c p g t : Int) (w : World) :
    Calls Try.prog 23 #[.agg #[.int .i64 k, .int .i64 b, .int .i64 c, .int .i64 p, .int .i64 g, .int .i64 t]] w fun e w' => e = .returned (.agg #[.int .u8 (ofV k b c p g t).1, .int .u8 (ofV k b c p g t).2.1, .int .i64 (ofV k b c p g t).2.2.1, .int .i64 (ofV k b c p g t).2.2.2.1, .int .i64 (ofV k b c p g t).2.2.2.2.1, .int .i64 (ofV k b c p g t).2.2.2.2.2]) ∧ Below w.heap.size w w' := by
  refine (callsIn_wide.1 (within_nv 4 (by omega) (nums k b c p g t) w)).mono ?_
  rintro e w' (⟨h, rfl, m⟩ | ⟨h, rfl, m⟩)
  · have ho := nums_ok.2 h
    unfold ofV
    rw [if_pos ho]
    exact ⟨rfl, m⟩
  · have ho : ¬ ofOk k b c p g t = true := fun h2 => h (nums_ok.1 h2)
    unfold ofV
    rw [if_neg ho]
    exact ⟨rfl, m⟩
theorem ofOk_opt {kd bu cu pv ge ti : Int} (H : 0 ≤ bu) : ofOk kd bu cu pv ge ti = optOk kd bu cu pv ge ti := by
  unfold ofOk
  by_cases h : bu < 16
  · rw [decide_eq_true H, decide_eq_true h]; simp
  · have : optOk kd bu cu pv ge ti = false := by
      rw [Bool.eq_false_iff]
      intro h2
      exact h (optOk_iff.1 h2).2.1
    rw [this]
    simp
theorem ofV_zero {k b c p g t : Int} : eqO (ofV k b c p g t).1 (ofV k b c p g t).2.1 (ofV k b c p g t).2.2.1 (ofV k b c p g t).2.2.2.1 (ofV k b c p g t).2.2.2.2.1 (ofV k b c p g t).2.2.2.2.2 0 0 0 0 0 0 = !ofOk k b c p g t := by
  unfold eqO ofV
  by_cases h : ofOk k b c p g t = true
  · rw [if_pos h, h]
    have := (optOk_iff.1 (by unfold ofOk at h; simp only [Bool.and_eq_true] at h; exact h.2 : optOk k b c p g t = true)).1
    simp
    omega
  · rw [if_neg h]
    simp at h
    simp [h]
theorem run_neqO (kd bu cu pv ge ti : Int) (kd' bu' cu' pv' ge' ti' : Int) (W : World) : (Go.binOp .neq 23 (.agg #[.int .u8 kd, .int .u8 bu, .int .i64 cu, .int .i64 pv, .int .i64 ge, .int .i64 ti]) (.agg #[.int .u8 kd', .int .u8 bu', .int .i64 cu', .int .i64 pv', .int .i64 ge', .int .i64 ti'])).run Try.prog W = .ok (.bool (!eqO kd bu cu pv ge ti kd' bu' cu' pv' ge' ti')) W := by
  have hcase : (kd = kd' ∧ bu = bu' ∧ cu = cu' ∧ pv = pv' ∧ ge = ge' ∧ ti = ti') ∨ (kd = kd' ∧ bu = bu' ∧ cu = cu' ∧ pv = pv' ∧ ge = ge' ∧ ti ≠ ti') ∨ (kd = kd' ∧ bu = bu' ∧ cu = cu' ∧ pv = pv' ∧ ge ≠ ge') ∨ (kd = kd' ∧ bu = bu' ∧ cu = cu' ∧ pv ≠ pv') ∨ (kd = kd' ∧ bu = bu' ∧ cu ≠ cu') ∨ (kd = kd' ∧ bu ≠ bu') ∨ kd ≠ kd' := by omega
  unfold eqO
  rcases hcase with ⟨rfl, rfl, rfl, rfl, rfl, rfl⟩ | ⟨rfl, rfl, rfl, rfl, rfl, e⟩ | ⟨rfl, rfl, rfl, rfl, e⟩ | ⟨rfl, rfl, rfl, e⟩ | ⟨rfl, rfl, e⟩ | ⟨rfl, e⟩ | e
  · rw [decide_eq_true ⟨rfl, rfl, rfl, rfl, rfl, rfl⟩]
    go_simp
  all_goals
    rw [decide_eq_false (by simp [e])]
    go_simp

set_option maxRecDepth 100000 in
set_option maxHeartbeats 4000000 in
theorem oRight_two (kd bu cu pv ge ti : Int) (h1 : 0 ≤ kd ∧ kd ≤ 255) (h2 : 0 ≤ bu ∧ bu ≤ 255) (w : World) :
    Calls Try.prog 17 #[.agg #[.int .u8 kd, .int .u8 bu, .int .i64 cu, .int .i64 pv, .int .i64 ge, .int .i64 ti]] w fun e w' => e = .returned (.bool (optOk kd bu cu pv ge ti)) ∧ Below w.heap.size w w' := by
  have b0 := heap_alloc_new w (.cells #[.int .u8 kd, .int .u8 bu, .int .i64 cu, .int .i64 pv, .int .i64 ge, .int .i64 ti] 23)
  have L0 := Lib.hid ((Below.refl w.heap.size w).alloc (Nat.le_refl _) (.cells #[.int .u8 kd, .int .u8 bu, .int .i64 cu, .int .i64 pv, .int .i64 ge, .int .i64 ti] 23))
  obtain ⟨q0, q1, q2, q3, q4, q5⟩ := o_cells _ _ _ _ _ _ b0
  clear b0
  go_enter Try.func17, Try.ntmps17
  go_upto_region 1 with (fail)
  generalize w.alloc (.cells #[.int .u8 kd, .int .u8 bu, .int .i64 cu, .int .i64 pv, .int .i64 ge, .int .i64 ti] 23) = W0 at *
  have K1 := Lib.hid (numbersOf_any kd bu cu pv ge ti h1 h2 W0)
  have HOK := Lib.hid (ofOk_opt (kd := kd) (cu := cu) (pv := pv) (ge := ge) (ti := ti) h2.1)
  clear h1 h2
  go_wp2_with (fail)
  refine K1.out.mono ?_
  rintro e w1 ⟨rfl, m1⟩
  have K2 := Lib.hid (within_any kd bu cu pv ge ti w1)
  have M1 := Lib.hid m1
  clear m1 q0 q1 q2 q3 q4 q5
  go_wp2_with (fail)
  refine K2.out.mono ?_
  rintro e w2 ⟨rfl, m2⟩
  have M2 := Lib.hid m2
  have hv := ofV_zero (k := kd) (b := bu) (c := cu) (p := pv) (g := ge) (t := ti)
  rw [HOK.out] at hv
  clear m2 K2 K1
  generalize ofV kd bu cu pv ge ti = q at *
  obtain ⟨v1, v2, v3, v4, v5, v6⟩ := q
  simp only at hv ⊢
  have key := fun W => run_neqO v1 v2 v3 v4 v5 v6 0 0 0 0 0 0 W
  rw [hv] at key
  simp only [Bool.not_not] at key
  clear hv
  generalize hok : optOk kd bu cu pv ge ti = ok at *
  have HK := Lib.hid hok
  clear hok
  go_wp2
  go_ret
  exact ⟨ret_bool HK.out.symm, L0.out.trans ((M1.out.mono L0.out.size).trans (M2.out.mono (Nat.le_trans L0.out.size M1.out.size)))⟩

theorem oRight_any (kd bu cu pv ge ti : Int) (H : ONums kd bu cu pv ge ti) (w : World) :
    Calls Try.prog 17 #[.agg #[.int .u8 kd, .int .u8 bu, .int .i64 cu, .int .i64 pv, .int .i64 ge, .int .i64 ti]] w fun e w' => e = .returned (.bool (optOk kd bu cu pv ge ti)) ∧ Below w.heap.size w w' := oRight_two kd bu cu pv ge ti H.h1 H.h2 w

set_option maxRecDepth 100000 in
set_option maxHeartbeats 4000000 in
theorem oTurned_any (kd bu cu pv ge ti : Int) (kk gg : Int) (H : ONums kd bu cu pv ge ti) (hk : 0 ≤ kk ∧ kk ≤ 255) (w : World) :
    Calls Try.prog 15 #[.agg #[.int .u8 kd, .int .u8 bu, .int .i64 cu, .int .i64 pv, .int .i64 ge, .int .i64 ti], .int .u8 kk, .int .i64 gg] w fun e w' => e = .returned (.tuple #[.agg #[.int .u8 (tuV bu cu pv ti kk gg).1, .int .u8 (tuV bu cu pv ti kk gg).2.1, .int .i64 (tuV bu cu pv ti kk gg).2.2.1, .int .i64 (tuV bu cu pv ti kk gg).2.2.2.1, .int .i64 (tuV bu cu pv ti kk gg).2.2.2.2.1, .int .i64 (tuV bu cu pv ti kk gg).2.2.2.2.2], .int .i64 (tuY bu cu pv ti kk gg)]) ∧ Below w.heap.size w w' := by
  have b0 := blkN (heap_alloc_new w (.cells #[.int .u8 kd, .int .u8 bu, .int .i64 cu, .int .i64 pv, .int .i64 ge, .int .i64 ti] 23)) (.cells #[.int .u8 0, .int .u8 0, .int .i64 0, .int .i64 0, .int .i64 0, .int .i64 0] 23)
  have b1 := newN (w.alloc (.cells #[.int .u8 kd, .int .u8 bu, .int .i64 cu, .int .i64 pv, .int .i64 ge, .int .i64 ti] 23)) (.cells #[.int .u8 0, .int .u8 0, .int .i64 0, .int .i64 0, .int .i64 0, .int .i64 0] 23) (w.heap.size + 1) (by simp)
  have L0 := ((Below.refl w.heap.size w).alloc (Nat.le_refl _) (.cells #[.int .u8 kd, .int .u8 bu, .int .i64 cu, .int .i64 pv, .int .i64 ge, .int .i64 ti] 23)).alloc (by simp) (.cells #[.int .u8 0, .int .u8 0, .int .i64 0, .int .i64 0, .int .i64 0, .int .i64 0] 23)
  go_enter Try.func15, Try.ntmps15
  go_wp2
  generalize (w.alloc (.cells #[.int .u8 kd, .int .u8 bu, .int .i64 cu, .int .i64 pv, .int .i64 ge, .int .i64 ti] 23)).alloc (.cells #[.int .u8 0, .int .u8 0, .int .i64 0, .int .i64 0, .int .i64 0, .int .i64 0] 23) = W0 at *
  obtain ⟨q0, q1, q2, q3, q4, q5⟩ := o_cells _ _ _ _ _ _ b0
  have f0 := o_frozen b0 0
  have f4 := o_frozen b0 4
  have B0 := Lib.hid b0
  have B1 := Lib.hid b1
  have HL := Lib.hid L0
  have H2 := Lib.hid H.h2
  have HK := Lib.hid hk
  clear b0 b1 L0 H hk
  refine wp_scope_jumps 0 (fun a' w' => Below w.heap.size w w' ∧ optOk kk bu cu pv gg ti = false ∧ w'.heap[w.heap.size + 1]? = some (.cells #[.int .u8 0, .int .u8 0, .int .i64 0, .int .i64 0, .int .i64 0, .int .i64 0] 23 (0, 0)) ∧ ∃ (u0 u1 u2 u4 u5 u8 u9 u10 u11 u12 u13 u14 u15 u16 : Value), a' = { tmps := #[u0, u1, u2, .pointer (some ⟨w.heap.size, 0, none⟩), u4, u5, .pointer (some ⟨w.heap.size + 1, 0, none⟩), .int .i64 0, u8, u9, u10, u11, u12, u13, u14, u15, u16], defers := [] }) (fun _ _ => 0) rfl ?first ?pass
  case first =>
    go_wp2_with (fail)
    have hn0 : ((W0.setCell ⟨w.heap.size, 0, none⟩ (.int .u8 kk)).setCell ⟨w.heap.size, 4, none⟩ (.int .i64 gg)).heap[w.heap.size]? = some (.cells #[.int .u8 kk, .int .u8 bu, .int .i64 cu, .int .i64 pv, .int .i64 gg, .int .i64 ti] 23 (0, 0)) := by
      have := heap_setCell_same _ w.heap.size 4 _ _ (.int .i64 gg) (heap_setCell_same W0 w.heap.size 0 _ _ (.int .u8 kk) B0.out)
      simpa using this
    have hr0 := (Below.heap_setCell (W0.setCell ⟨w.heap.size, 0, none⟩ (.int .u8 kk)) ⟨w.heap.size, 4, none⟩ (.int .i64 gg) (w.heap.size + 1) (by simp)).trans ((Below.heap_setCell W0 ⟨w.heap.size, 0, none⟩ (.int .u8 kk) (w.heap.size + 1) (by simp)).trans B1.out)
    have hl0 := (HL.out.setCell (p := ⟨w.heap.size, 0, none⟩) (Nat.le_refl _) (.int .u8 kk)).setCell (p := ⟨w.heap.size, 4, none⟩) (Nat.le_refl _) (.int .i64 gg)
    clear q0 q1 q2 q3 q4 q5 f0 f4
    generalize (W0.setCell ⟨w.heap.size, 0, none⟩ (.int .u8 kk)).setCell ⟨w.heap.size, 4, none⟩ (.int .i64 gg) = W1 at *
    refine (oRight_two kk bu cu pv gg ti HK.out H2.out W1).mono ?_
    rintro e w1 ⟨rfl, m1⟩
    have D1 := (m1.block _ (Array.getElem?_eq_some_iff.1 hn0).1).trans hn0
    have R1 := (m1.block _ (Array.getElem?_eq_some_iff.1 hr0).1).trans hr0
    have LL := hl0.trans (m1.mono hl0.size)
    clear hn0 hr0 hl0 m1
    by_cases hok : optOk kk bu cu pv gg ti = true
    · have HOK := Lib.hid hok
      rw [hok]
      obtain ⟨q0, q1, q2, q3, q4, q5⟩ := o_cells _ _ _ _ _ _ D1
      obtain ⟨r0, r1, r2, r3, r4, r5⟩ := o_cells _ _ _ _ _ _ R1
      have g0 := o_frozen R1 0
      have g1 := o_frozen R1 1
      have g2 := o_frozen R1 2
      have g3 := o_frozen R1 3
      have g4 := o_frozen R1 4
      have g5 := o_frozen R1 5
      have HR := Lib.hid R1
      have HLL := Lib.hid LL
      clear hok D1 R1 LL
      go_wp2
      simp only [Exit.jump]
      refine bodyPost_ret (results_o rfl _ _ (w.heap.size + 1) _ (0, 0) rfl (full_setCells HR.out [.int .u8 kk, .int .u8 bu, .int .i64 cu, .int .i64 pv, .int .i64 gg, .int .i64 ti] rfl) rfl) rfl ?_
      refine ⟨?_, below_setCells (w.heap.size + 1) (by omega) [.int .u8 kk, .int .u8 bu, .int .i64 cu, .int .i64 pv, .int .i64 gg, .int .i64 ti] 0 w _ HLL.out⟩
      unfold tuV tuY
      rw [if_pos HOK.out, if_pos HOK.out]
      rfl
    · simp at hok
      have HOK := Lib.hid hok
      have HR := Lib.hid R1
      have HLL := Lib.hid LL
      rw [hok]
      clear hok D1 R1 LL
      go_wp2
      go_step3
      exact ⟨rfl, HLL.out, HOK.out, HR.out, _, _, _, _, _, _, _, _, _, _, _, _, _, _, rfl⟩
  case pass =>
    rintro a' w' ⟨LL, hno, hr, u0, u1, u2, u4, u5, u8, u9, u10, u11, u12, u13, u14, u15, u16, rfl⟩
    obtain ⟨r0, r1, r2, r3, r4, r5⟩ := o_cells _ _ _ _ _ _ hr
    have g0 := o_frozen hr 0
    have g1 := o_frozen hr 1
    have g2 := o_frozen hr 2
    have g3 := o_frozen hr 3
    have g4 := o_frozen hr 4
    have g5 := o_frozen hr 5
    have HR := Lib.hid hr
    have HLL := Lib.hid LL
    have HN := Lib.hid hno
    clear hr LL hno q0 q1 q2 q3 q4 q5 f0 f4
    go_wp2
    simp only [Exit.jump]
    refine bodyPost_ret (results_o rfl _ _ (w.heap.size + 1) _ (0, 0) rfl (full_setCells HR.out [.int .u8 0, .int .u8 0, .int .i64 0, .int .i64 0, .int .i64 0, .int .i64 0] rfl) rfl) rfl ?_
    refine ⟨?_, below_setCells (w.heap.size + 1) (by omega) [.int .u8 0, .int .u8 0, .int .i64 0, .int .i64 0, .int .i64 0, .int .i64 0] 0 w _ HLL.out⟩
    unfold tuV tuY
    rw [if_neg (by rw [HN.out]; simp), if_neg (by rw [HN.out]; simp)]
    rfl

set_option maxRecDepth 100000 in
set_option maxHeartbeats 4000000 in
theorem oOf_any (kd bk : Int) (ec ep eg et : Int) (hk : 0 ≤ kd ∧ kd ≤ 255) (H : ONums 0 0 ec ep eg et) (w : World) :
    Calls Try.prog 13 #[.int .u8 kd, .int .i64 bk, .agg #[.int .i64 ec, .int .i64 ep, .int .i64 eg, .int .i64 et]] w fun e w' => e = .returned (.tuple #[.agg #[.int .u8 (ofV kd bk ec ep eg et).1, .int .u8 (ofV kd bk ec ep eg et).2.1, .int .i64 (ofV kd bk ec ep eg et).2.2.1, .int .i64 (ofV kd bk ec ep eg et).2.2.2.1, .int .i64 (ofV kd bk ec ep eg et).2.2.2.2.1, .int .i64 (ofV kd bk ec ep eg et).2.2.2.2.2], .int .i64 (ofY kd bk ec ep eg et)]) ∧ Below w.heap.size w w' := by
  have _hH := H.h1
  have b0 := blkN (heap_alloc_new w (.cells #[.int .i64 ec, .int .i64 ep, .int .i64 eg, .int .i64 et] 25)) (.cells #[.int .u8 0, .int .u8 0, .int .i64 0, .int .i64 0, .int .i64 0, .int .i64 0] 23)
  have b1 := newN (w.alloc (.cells #[.int .i64 ec, .int .i64 ep, .int .i64 eg, .int .i64 et] 25)) (.cells #[.int .u8 0, .int .u8 0, .int .i64 0, .int .i64 0, .int .i64 0, .int .i64 0] 23) (w.heap.size + 1) (by simp)
  have L0 := ((Below.refl w.heap.size w).alloc (Nat.le_refl _) (.cells #[.int .i64 ec, .int .i64 ep, .int .i64 eg, .int .i64 et] 25)).alloc (by simp) (.cells #[.int .u8 0, .int .u8 0, .int .i64 0, .int .i64 0, .int .i64 0, .int .i64 0] 23)
  have u1 : IntKind.i64.wrap kd = kd := IntWalk.i64_in _ (by omega)
  go_enter Try.func13, Try.ntmps13
  go_wp2
  generalize (w.alloc (.cells #[.int .i64 ec, .int .i64 ep, .int .i64 eg, .int .i64 et] 25)).alloc (.cells #[.int .u8 0, .int .u8 0, .int .i64 0, .int .i64 0, .int .i64 0, .int .i64 0] 23) = W0 at *
  obtain ⟨q0, q1, q2, q3⟩ := e_cells _ _ _ _ b0
  have B1 := Lib.hid b1
  have HL := Lib.hid L0
  clear b0 b1 L0 H _hH
  refine wp_scope_jumps 0 (fun a' w' => Below w.heap.size w w' ∧ ofOk kd bk ec ep eg et = false ∧ w'.heap[w.heap.size + 1]? = some (.cells #[.int .u8 0, .int .u8 0, .int .i64 0, .int .i64 0, .int .i64 0, .int .i64 0] 23 (0, 0)) ∧ ∃ (u0 u1 u2 u3 u4 u5 u8 u9 u10 u11 u12 u13 u14 u15 u16 u17 u18 u19 : Value), a' = { tmps := #[u0, u1, u2, u3, u4, u5, .pointer (some ⟨w.heap.size + 1, 0, none⟩), .int .i64 0, u8, u9, u10, u11, u12, u13, u14, u15, u16, u17, u18, u19], defers := [] }) (fun _ _ => 0) rfl ?first ?pass
  case first =>
    go_wp2_with (fail)
    refine (within_any kd bk ec ep eg et W0).mono ?_
    rintro e w1 ⟨rfl, m1⟩
    have R1 := Lib.hid ((m1.block _ (Array.getElem?_eq_some_iff.1 B1.out).1).trans B1.out)
    have LL := Lib.hid (HL.out.trans (m1.mono HL.out.size))
    have hv := ofV_zero (k := kd) (b := bk) (c := ec) (p := ep) (g := eg) (t := et)
    clear m1 q0 q1 q2 q3
    have HQ := Lib.hid (show ∃ q, q = ofV kd bk ec ep eg et from ⟨_, rfl⟩)
    generalize hq : ofV kd bk ec ep eg et = q at *
    obtain ⟨v1, v2, v3, v4, v5, v6⟩ := q
    have HE := Lib.hid hq
    simp only at hv ⊢
    have key := fun W => run_eqO v1 v2 v3 v4 v5 v6 0 0 0 0 0 0 W
    rw [hv] at key
    clear hv hq HQ
    have bO := heap_alloc_new w1 (.cells #[.int .u8 v1, .int .u8 v2, .int .i64 v3, .int .i64 v4, .int .i64 v5, .int .i64 v6] 23)
    have R2 := blkN R1.out (.cells #[.int .u8 v1, .int .u8 v2, .int .i64 v3, .int .i64 v4, .int .i64 v5, .int .i64 v6] 23)
    have L2 := LL.out.alloc LL.out.size (.cells #[.int .u8 v1, .int .u8 v2, .int .i64 v3, .int .i64 v4, .int .i64 v5, .int .i64 v6] 23)
    by_cases hok : ofOk kd bk ec ep eg et = true
    · have HOK := Lib.hid hok
      rw [hok] at key
      simp only [Bool.not_true] at key
      clear hok
      go_upto_region 2 with (fail)
      generalize hsz : w1.heap.size = ob at *
      generalize w1.alloc (.cells #[.int .u8 v1, .int .u8 v2, .int .i64 v3, .int .i64 v4, .int .i64 v5, .int .i64 v6] 23) = W1 at *
      obtain ⟨q0, q1, q2, q3, q4, q5⟩ := o_cells _ _ _ _ _ _ bO
      obtain ⟨r0, r1, r2, r3, r4, r5⟩ := o_cells _ _ _ _ _ _ R2
      have g0 := o_frozen R2 0
      have g1 := o_frozen R2 1
      have g2 := o_frozen R2 2
      have g3 := o_frozen R2 3
      have g4 := o_frozen R2 4
      have g5 := o_frozen R2 5
      have HR := Lib.hid R2
      have HLL := Lib.hid L2
      clear R2 L2 bO hsz
      go_wp2
      simp only [Exit.jump]
      refine bodyPost_ret (results_o rfl _ _ (w.heap.size + 1) _ (0, 0) rfl (full_setCells HR.out [.int .u8 v1, .int .u8 v2, .int .i64 v3, .int .i64 v4, .int .i64 v5, .int .i64 v6] rfl) rfl) rfl ?_
      refine ⟨?_, below_setCells (w.heap.size + 1) (by omega) [.int .u8 v1, .int .u8 v2, .int .i64 v3, .int .i64 v4, .int .i64 v5, .int .i64 v6] 0 w _ HLL.out⟩
      unfold ofY
      rw [HE.out, if_pos HOK.out]
      rfl
    · simp at hok
      have HOK := Lib.hid hok
      rw [hok] at key
      simp only [Bool.not_false] at key
      clear hok
      go_upto_region 2 with (fail)
      generalize hsz : w1.heap.size = ob at *
      generalize w1.alloc (.cells #[.int .u8 v1, .int .u8 v2, .int .i64 v3, .int .i64 v4, .int .i64 v5, .int .i64 v6] 23) = W1 at *
      obtain ⟨q0, q1, q2, q3, q4, q5⟩ := o_cells _ _ _ _ _ _ bO
      have HR := Lib.hid R2
      have HLL := Lib.hid L2
      clear R2 L2 bO hsz
      go_wp2
      go_step3
      exact ⟨rfl, HLL.out, HOK.out, HR.out, _, _, _, _, _, _, _, _, _, _, _, _, _, _, _, _, _, _, rfl⟩
  case pass =>
    rintro a' w' ⟨LL, hno, hr, u0, u1, u2, u3, u4, u5, u8, u9, u10, u11, u12, u13, u14, u15, u16, u17, u18, u19, rfl⟩
    obtain ⟨r0, r1, r2, r3, r4, r5⟩ := o_cells _ _ _ _ _ _ hr
    have g0 := o_frozen hr 0
    have g1 := o_frozen hr 1
    have g2 := o_frozen hr 2
    have g3 := o_frozen hr 3
    have g4 := o_frozen hr 4
    have g5 := o_frozen hr 5
    have HR := Lib.hid hr
    have HLL := Lib.hid LL
    have HN := Lib.hid hno
    clear hr LL hno q0 q1 q2 q3
    go_wp2
    simp only [Exit.jump]
    refine bodyPost_ret (results_o rfl _ _ (w.heap.size + 1) _ (0, 0) rfl (full_setCells HR.out [.int .u8 0, .int .u8 0, .int .i64 0, .int .i64 0, .int .i64 0, .int .i64 0] rfl) rfl) rfl ?_
    refine ⟨?_, below_setCells (w.heap.size + 1) (by omega) [.int .u8 0, .int .u8 0, .int .i64 0, .int .i64 0, .int .i64 0, .int .i64 0] 0 w _ HLL.out⟩
    unfold ofV ofY
    rw [if_neg (by rw [HN.out]; simp), if_neg (by rw [HN.out]; simp)]
    rfl
end Go.Proofs.Ytjhicdinhcfbjaa
