/- Package option: numbersOf, Right, Of, Turned. -/
import Derived.Test.YthenbpnlmpeafaaDoorOpN
namespace Go.Proofs.YthenbpnlmpeafaaDoor
open Go.RowKit Go.Shelf
open SumM

theorem z6_cells {w : World} {b : Nat} (h : w.heap[b]? = some (.cells #[.int .i64 0, .int .i64 0, .int .i64 0, .int .i64 0, .int .i64 0, .int .i64 0] 98 (0, 0))) :
    w.cell? ⟨b, 0, none⟩ = some (.int .i64 0) ∧ w.cell? ⟨b, 1, none⟩ = some (.int .i64 0) ∧ w.cell? ⟨b, 2, none⟩ = some (.int .i64 0) ∧ w.cell? ⟨b, 3, none⟩ = some (.int .i64 0) ∧ w.cell? ⟨b, 4, none⟩ = some (.int .i64 0) ∧ w.cell? ⟨b, 5, none⟩ = some (.int .i64 0) := by
  refine ⟨?_, ?_, ?_, ?_, ?_, ?_⟩ <;> (rw [cell_of_row _ _ _ _ _ _ h]; rfl)

set_option maxRecDepth 100000 in
set_option maxHeartbeats 4000000 in
theorem numbersOf_any (kd bu cu pv ge ti : Int) (h1 : 0 ≤ kd ∧ kd ≤ 255) (h2 : 0 ≤ bu ∧ bu ≤ 255) (w : World) :
    Calls Tryd.prog 64 #[.agg #[.int .u8 kd, .int .u8 bu, .int .i64 cu, .int .i64 pv, .int .i64 ge, .int .i64 ti]] w fun e w' => e = .returned (.agg #[.int .i64 kd, .int .i64 bu, .int .i64 cu, .int .i64 pv, .int .i64 ge, .int .i64 ti]) ∧ Below w.heap.size w w' := by
  have b0 := blkN (heap_alloc_new w (.cells #[.int .u8 kd, .int .u8 bu, .int .i64 cu, .int .i64 pv, .int .i64 ge, .int .i64 ti] 26)) (.cells #[.int .i64 0, .int .i64 0, .int .i64 0, .int .i64 0, .int .i64 0, .int .i64 0] 98)
  have b1 := newN (w.alloc (.cells #[.int .u8 kd, .int .u8 bu, .int .i64 cu, .int .i64 pv, .int .i64 ge, .int .i64 ti] 26)) (.cells #[.int .i64 0, .int .i64 0, .int .i64 0, .int .i64 0, .int .i64 0, .int .i64 0] 98) (w.heap.size + 1) (by simp)
  have L0 := ((Below.refl w.heap.size w).alloc (Nat.le_refl _) (.cells #[.int .u8 kd, .int .u8 bu, .int .i64 cu, .int .i64 pv, .int .i64 ge, .int .i64 ti] 26)).alloc (by simp) (.cells #[.int .i64 0, .int .i64 0, .int .i64 0, .int .i64 0, .int .i64 0, .int .i64 0] 98)
  have u1 : IntKind.i64.wrap kd = kd := IntWalk.i64_in _ (by omega)
  have u2 : IntKind.i64.wrap bu = bu := IntWalk.i64_in _ (by omega)
  obtain ⟨q0, q1, q2, q3, q4, q5⟩ := o_cells _ _ _ _ _ _ b0
  obtain ⟨r0, r1, r2, r3, r4, r5⟩ := z6_cells b1
  have f0 := o_frozen b1 0
  have f1 := o_frozen b1 1
  have f2 := o_frozen b1 2
  have f3 := o_frozen b1 3
  have f4 := o_frozen b1 4
  have f5 := o_frozen b1 5
  have HB := Lib.hid b1
  have HL := Lib.hid L0
  clear b0 b1 L0
  go_enter Tryd.func64, Tryd.ntmps64
  go_upto_region 1 with (fail)
  generalize (w.alloc (.cells #[.int .u8 kd, .int .u8 bu, .int .i64 cu, .int .i64 pv, .int .i64 ge, .int .i64 ti] 26)).alloc (.cells #[.int .i64 0, .int .i64 0, .int .i64 0, .int .i64 0, .int .i64 0, .int .i64 0] 98) = W0 at *
  go_wp2
  refine bodyPost_ret (results_cell_row rfl _ _ (w.heap.size + 1) 98 _ (0, 0) _ rfl (full_setCells HB.out [.int .i64 kd, .int .i64 bu, .int .i64 cu, .int .i64 pv, .int .i64 ge, .int .i64 ti] rfl) Tryd.underlying98 rfl Tryd.infoNum) rfl ?_
  exact ⟨rfl, below_setCells (w.heap.size + 1) (by omega) [.int .i64 kd, .int .i64 bu, .int .i64 cu, .int .i64 pv, .int .i64 ge, .int .i64 ti] 0 w _ HL.out⟩

/-- within, by six letters. -/
theorem within_any (k b c p g t : Int) (w : World) :
    Calls Tryd.prog 72 #[.agg #[.int .i64 k, .int .i64 b, .int .i64 c, .int .i64 p, .int .i64 g, .int .i64 t]] w fun e w' => e = .returned (.agg #[.int .u8 (ofV k b c p g t).1, .int .u8 (ofV k b c p g t).2.1, .int .i64 (ofV k b c p g t).2.2.1, .int .i64 (ofV k b c p g t).2.2.2.1, .int .i64 (ofV k b c p g t).2.2.2.2.1, .int .i64 (ofV k b c p g t).2.2.2.2.2]) ∧ Below w.heap.size w w' := by
  refine (callsIn_wide.1 (within_nv 4 (by omega) (nums k b c p g t) w)).mono ?_
  rintro e w' (⟨h, rfl, m⟩ | ⟨h, rfl, m⟩)
  · have ho := nums_ok.2 h
    unfold ofV
    rw [if_pos ho]
    exact ⟨rfl, m⟩
  · have ho : ¬ ofOk k b c p g t = true := fun h2 => h (nums_ok.1 h2)
    unfold ofV
    rw [if_neg ho]
    exact ⟨rfl, m⟩
theorem ofOk_opt {kd bu cu pv ge ti : Int} (H : 0 ≤ bu) : ofOk kd bu cu pv ge ti = optOk kd bu cu pv ge ti := by
  unfold ofOk
  by_cases h : bu < 16
  · rw [decide_eq_true H, decide_eq_true h]; simp
  · have : optOk kd bu cu pv ge ti = false := by
      rw [Bool.eq_false_iff]
      intro h2
      exact h (optOk_iff.1 h2).2.1
    rw [this]
    simp
theorem ofV_zero {k b c p g t : Int} : eqO (ofV k b c p g t).1 (ofV k b c p g t).2.1 (ofV k b c p g t).2.2.1 (ofV k b c p g t).2.2.2.1 (ofV k b c p g t).2.2.2.2.1 (ofV k b c p g t).2.2.2.2.2 0 0 0 0 0 0 = !ofOk k b c p g t := by
  unfold eqO ofV
  by_cases h : ofOk k b c p g t = true
  · rw [if_pos h, h]
    have := (optOk_iff.1 (by unfold ofOk at h; simp only [Bool.and_eq_true] at h; exact h.2 : optOk k b c p g t = true)).1
    simp
    omega
  · rw [if_neg h]
    simp at h
    simp [h]
theorem run_neqO (kd bu cu pv ge ti : Int) (kd' bu' cu' pv' ge' ti' : Int) (W : World) : (Go.binOp .neq 26 (.agg #[.int .u8 kd, .int .u8 bu, .int .i64 cu, .int .i64 pv, .int .i64 ge, .int .i64 ti]) (.agg #[.int .u8 kd', .int .u8 bu', .int .i64 cu', .int .i64 pv', .int .i64 ge', .int .i64 ti'])).run Tryd.prog W = .ok (.bool (!eqO kd bu cu pv ge ti kd' bu' cu' pv' ge' ti')) W := by
  have hcase : (kd = kd' ∧ bu = bu' ∧ cu = cu' ∧ pv = pv' ∧ ge = ge' ∧ ti = ti') ∨ (kd = kd' ∧ bu = bu' ∧ cu = cu' ∧ pv = pv' ∧ ge = ge' ∧ ti ≠ ti') ∨ (kd = kd' ∧ bu = bu' ∧ cu = cu' ∧ pv = pv' ∧ ge ≠ ge') ∨ (kd = kd' ∧ bu = bu' ∧ cu = cu' ∧ pv ≠ pv') ∨ (kd = kd' ∧ bu = bu' ∧ cu ≠ cu') ∨ (kd = kd' ∧ bu ≠ bu') ∨ kd ≠ kd' := by omega
  unfold eqO
  rcases hcase with ⟨rfl, rfl, rfl, rfl, rfl, rfl⟩ | ⟨rfl, rfl, rfl, rfl, rfl, e⟩ | ⟨rfl, rfl, rfl, rfl, e⟩ | ⟨rfl, rfl, rfl, e⟩ | ⟨rfl, rfl, e⟩ | ⟨rfl, e⟩ | e
  · rw [decide_eq_true ⟨rfl, rfl, rfl, rfl, rfl, rfl⟩]
    go_simp
  all_goals
    rw [decide_eq_false (by simp [e])]
    go_simp

set_option maxRecDepth 100000 in
set_option maxHeartbeats 4000000 in
theorem oRight_two (kd bu cu pv ge ti : Int) (h1 : 0 ≤ kd ∧ kd ≤ 255) (h2 : 0 ≤ bu ∧ bu ≤ 255) (w : World) :
    Calls Tryd.prog 65 #[.agg #[.int .u8 kd, .int .u8 bu, .int .i64 cu, .int .i64 pv, .int .i64 ge, .int .i64 ti]] w fun e w' => e = .returned (.bool (optOk kd bu cu pv ge ti)) ∧ Below w.heap.size w w' := by
  have b0 := heap_alloc_new w (.cells #[.int .u8 kd, .int .u8 bu, .int .i64 cu, .int .i64 pv, .int .i64 ge, .int .i64 ti] 26)
  have L0 := Lib.hid ((Below.refl w.heap.size w).alloc (Nat.le_refl _) (.cells #[.int .u8 kd, .int .u8 bu, .int .i64 cu, .int .i64 pv, .int .i64 ge, .int .i64 ti] 26))
  obtain ⟨q0, q1, q2, q3, q4, q5⟩ := o_cells _ _ _ _ _ _ b0
  clear b0
  go_enter Tryd.func65, Tryd.ntmps65
  go_upto_region 1 with (fail)
  generalize w.alloc (.cells #[.int .u8 kd, .int .u8 bu, .int .i64 cu, .int .i64 pv, .int .i64 ge, .int .i64 ti] 26) = W0 at *
  have K1 := Lib.hid (numbersOf_any kd bu cu pv ge ti h1 h2 W0)
  have HOK := Lib.hid (ofOk_opt (kd := kd) (cu := cu) (pv := pv) (ge := ge) (ti := ti) h2.1)
  clear h1 h2
  go_wp2_with (fail)
  refine K1.out.mono ?_
  rintro e w1 ⟨rfl, m1⟩
  have K2 := Lib.hid (within_any kd bu cu pv ge ti w1)
  have M1 := Lib.hid m1
  clear m1 q0 q1 q2 q3 q4 q5
  go_wp2_with (fail)
  refine K2.out.mono ?_
  rintro e w2 ⟨rfl, m2⟩
  have M2 := Lib.hid m2
  have hv := ofV_zero (k := kd) (b := bu) (c := cu) (p := pv) (g := ge) (t := ti)
  rw [HOK.out] at hv
  clear m2 K2 K1
  generalize ofV kd bu cu pv ge ti = q at *
  obtain ⟨v1, v2, v3, v4, v5, v6⟩ := q
  simp only at hv ⊢
  have key := fun W => run_neqO v1 v2 v3 v4 v5 v6 0 0 0 0 0 0 W
  rw [hv] at key
  simp only [Bool.not_not] at key
  clear hv
  generalize hok : optOk kd bu cu pv ge ti = ok at *
  have HK := Lib.hid hok
  clear hok
  go_wp2
  go_ret
  exact ⟨ret_bool HK.out.symm, L0.out.trans ((M1.out.mono L0.out.size).trans (M2.out.mono (Nat.le_trans L0.out.size M1.out.size)))⟩

theorem oRight_any (kd bu cu pv ge ti : Int) (H : ONums kd bu cu pv ge ti) (w : World) :
    Calls Tryd.prog 65 #[.agg #[.int .u8 kd, .int .u8 bu, .int .i64 cu, .int .i64 pv, .int .i64 ge, .int .i64 ti]] w fun e w' => e = .returned (.bool (optOk kd bu cu pv ge ti)) ∧ Below w.heap.size w w' := oRight_two kd bu cu pv ge ti H.h1 H.h2 w

end Go.Proofs.YthenbpnlmpeafaaDoor
