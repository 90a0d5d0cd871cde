/- The equality of two options; an option's bytes with one of them changed. -/
import Derived.Test.YthenbpnlmpeafaaDoorOpE
namespace Go.Proofs.YthenbpnlmpeafaaDoor
open Go.RowKit Go.Shelf
open SumM

/-- Whether two options are the same. -/
def eqO (kd bu cu pv ge ti kd' bu' cu' pv' ge' ti' : Int) : Bool := decide (kd = kd' ∧ bu = bu' ∧ cu = cu' ∧ pv = pv' ∧ ge = ge' ∧ ti = ti')

set_option maxRecDepth 100000 in
set_option maxHeartbeats 1000000 in
theorem run_eqO (kd bu cu pv ge ti : Int) (kd' bu' cu' pv' ge' ti' : Int) (W : World) : (Go.binOp .eql 26 (.agg #[.int .u8 kd, .int .u8 bu, .int .i64 cu, .int .i64 pv, .int .i64 ge, .int .i64 ti]) (.agg #[.int .u8 kd', .int .u8 bu', .int .i64 cu', .int .i64 pv', .int .i64 ge', .int .i64 ti'])).run Tryd.prog W = .ok (.bool (eqO kd bu cu pv ge ti kd' bu' cu' pv' ge' ti')) W := by
  have hcase : (kd = kd' ∧ bu = bu' ∧ cu = cu' ∧ pv = pv' ∧ ge = ge' ∧ ti = ti') ∨ (kd = kd' ∧ bu = bu' ∧ cu = cu' ∧ pv = pv' ∧ ge = ge' ∧ ti ≠ ti') ∨ (kd = kd' ∧ bu = bu' ∧ cu = cu' ∧ pv = pv' ∧ ge ≠ ge') ∨ (kd = kd' ∧ bu = bu' ∧ cu = cu' ∧ pv ≠ pv') ∨ (kd = kd' ∧ bu = bu' ∧ cu ≠ cu') ∨ (kd = kd' ∧ bu ≠ bu') ∨ kd ≠ kd' := by omega
  unfold eqO
  rcases hcase with ⟨rfl, rfl, rfl, rfl, rfl, rfl⟩ | ⟨rfl, rfl, rfl, rfl, rfl, e⟩ | ⟨rfl, rfl, rfl, rfl, e⟩ | ⟨rfl, rfl, rfl, e⟩ | ⟨rfl, rfl, e⟩ | ⟨rfl, e⟩ | e
  · rw [decide_eq_true ⟨rfl, rfl, rfl, rfl, rfl, rfl⟩]
    go_simp
  all_goals
    rw [decide_eq_false (by simp [e])]
    go_simp

theorem optB_length (kd bu cu pv ge ti : Int) : (optB kd bu cu pv ge ti).length = 16 := rfl

/-- One byte of an option's bytes changed. -/
theorem opt_same {kd bu cu pv ge ti : Int} (hok : optOk kd bu cu pv ge ti = true) (k : Nat) (hk : k < 16) (c : Int) (hc : c = (optB kd bu cu pv ge ti)[k]?.getD 0) :
    otY ((optB kd bu cu pv ge ti).set k c) = 0 ∧ otF ((optB kd bu cu pv ge ti).set k c) = (kd, bu, cu, pv, ge, ti) := by
  have e : (optB kd bu cu pv ge ti).set k c = optB kd bu cu pv ge ti := by
    have hl : k < (optB kd bu cu pv ge ti).length := by rw [optB_length]; exact hk
    rw [hc, List.getElem?_eq_getElem hl, Option.getD_some, List.set_getElem_self]
  rw [e]
  exact otY_optB hok
theorem opt_other {kd bu cu pv ge ti : Int} (k : Nat) (hk : k < 16) (c : Int) (hc : c ≠ (optB kd bu cu pv ge ti)[k]?.getD 0) :
    (k < 2 → otY ((optB kd bu cu pv ge ti).set k c) ≠ 0) ∧ (otY ((optB kd bu cu pv ge ti).set k c) = 0 → otF ((optB kd bu cu pv ge ti).set k c) ≠ (kd, bu, cu, pv, ge, ti)) := by
  have hl : k < (optB kd bu cu pv ge ti).length := by rw [optB_length]; exact hk
  have hs : ((optB kd bu cu pv ge ti).set k c)[k]?.getD 0 = c := by simp [hl]
  constructor
  · intro h2 h0
    obtain ⟨_, _, h3⟩ := otY_zero h0
    rw [← h3] at hs
    apply hc
    rw [← hs]
    obtain rfl | rfl : k = 0 ∨ k = 1 := by omega
    · rfl
    · rfl
  · intro h0 hf
    obtain ⟨_, _, h3⟩ := otY_zero h0
    have hv : otV ((optB kd bu cu pv ge ti).set k c) = (kd, bu, cu, pv, ge, ti) := by
      unfold otF at hf
      rwa [if_pos h0] at hf
    rw [hv] at h3
    apply hc
    rw [← hs, ← h3]
end Go.Proofs.YthenbpnlmpeafaaDoor
