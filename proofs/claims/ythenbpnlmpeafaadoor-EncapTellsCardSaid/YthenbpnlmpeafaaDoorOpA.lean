/- Options: what they are; the document's own answers: Right, node, number, bytes. -/
import Derived.Test.YthenbpnlmpeafaaDoorCore
import Derived.Deep.DeepCutAuto
import Derived.Deep.RegionHeldLaw
import Derived.Deep.DrawnRows
namespace Go.Proofs.YthenbpnlmpeafaaDoor
open Go.RowKit Go.Shelf
open SumM

/-- Whether an option may be. -/
def optOk (kd bu cu pv ge ti : Int) : Bool := decide (1 ≤ kd) && decide (kd < 6) && decide (bu < 16) && decide (-1 ≤ cu) && decide (cu < 6) && decide (-1 ≤ pv) && decide (pv < 6) && decide (0 ≤ ge) && decide (ge < 2147483648) && decide (0 ≤ ti) && decide (ti ≤ 1099511627776)
theorem optOk_iff {kd bu cu pv ge ti : Int} : optOk kd bu cu pv ge ti = true ↔ (1 ≤ kd ∧ kd < 6) ∧ bu < 16 ∧ (-1 ≤ cu ∧ cu < 6) ∧ (-1 ≤ pv ∧ pv < 6) ∧ (0 ≤ ge ∧ ge < 2147483648) ∧ 0 ≤ ti ∧ ti ≤ 1099511627776 := by
  unfold optOk
  simp only [Bool.and_eq_true, decide_eq_true_eq]
  omega
/-- An option's bytes. -/
def optB (kd bu cu pv ge ti : Int) : List Int :=
  [158, 16, kd, bu, cu % 256, pv % 256, ge / 16777216 % 256, ge / 65536 % 256, ge / 256 % 256, ge % 256, ti / 1099511627776 % 256, ti / 4294967296 % 256, ti / 16777216 % 256, ti / 65536 % 256, ti / 256 % 256, ti % 256]
theorem optB_in {kd bu cu pv ge ti : Int} (hk : 0 ≤ kd ∧ kd ≤ 255) (hb : 0 ≤ bu ∧ bu ≤ 255) : In 255 (optB kd bu cu pv ge ti) := by
  intro x hx
  simp [optB] at hx
  omega
/-- An option's numbers fit. -/
structure ONums (kd bu cu pv ge ti : Int) : Prop where
  h1 : 0 ≤ kd ∧ kd ≤ 255
  h2 : 0 ≤ bu ∧ bu ≤ 255
  h3 : -9223372036854775808 ≤ cu ∧ cu ≤ 9223372036854775807
  h4 : -9223372036854775808 ≤ pv ∧ pv ≤ 9223372036854775807
  h5 : -9223372036854775808 ≤ ge ∧ ge ≤ 9223372036854775807
  h6 : -9223372036854775808 ≤ ti ∧ ti ≤ 9223372036854775807
/-- What bytes would be. -/
def nodeOf (c : Int) : Int := if c = 255 then -1 else c
def otV (bs : List Int) : Int × Int × Int × Int × Int × Int := (bs[2]?.getD 0, bs[3]?.getD 0, nodeOf (bs[4]?.getD 0), nodeOf (bs[5]?.getD 0), numOf ((bs.drop 6).take 4), numOf (bs.drop 10))
def otOk (bs : List Int) : Bool := optOk (otV bs).1 (otV bs).2.1 (otV bs).2.2.1 (otV bs).2.2.2.1 (otV bs).2.2.2.2.1 (otV bs).2.2.2.2.2 && eqB (optB (otV bs).1 (otV bs).2.1 (otV bs).2.2.1 (otV bs).2.2.2.1 (otV bs).2.2.2.2.1 (otV bs).2.2.2.2.2) bs
def otY (bs : List Int) : Int := if bs.length < 16 then 61 else if 16 < bs.length then 60 else if otOk bs = true then 0 else 60
def otF (bs : List Int) : Int × Int × Int × Int × Int × Int := if otY bs = 0 then otV bs else (0, 0, 0, 0, 0, 0)
theorem otV_optB {kd bu cu pv ge ti : Int} (h : optOk kd bu cu pv ge ti = true) : otV (optB kd bu cu pv ge ti) = (kd, bu, cu, pv, ge, ti) := by
  obtain ⟨h1, h2, h3, h4, h5, h6⟩ := optOk_iff.1 h
  have e1 : nodeOf (cu % 256) = cu := by unfold nodeOf; split <;> omega
  have e2 : nodeOf (pv % 256) = pv := by unfold nodeOf; split <;> omega
  simp [otV, optB, numOf, e1, e2]
  omega
theorem otY_optB {kd bu cu pv ge ti : Int} (h : optOk kd bu cu pv ge ti = true) : otY (optB kd bu cu pv ge ti) = 0 ∧ otF (optB kd bu cu pv ge ti) = (kd, bu, cu, pv, ge, ti) := by
  have hv := otV_optB h
  have hy : otY (optB kd bu cu pv ge ti) = 0 := by
    unfold otY
    rw [if_neg (by simp [optB]), if_neg (by simp [optB]), if_pos]
    unfold otOk
    rw [hv]
    simp [h, eqB]
  exact ⟨hy, by unfold otF; rw [if_pos hy, hv]⟩
theorem otY_cases (bs : List Int) : otY bs = 0 ∨ otY bs = 60 ∨ otY bs = 61 := by
  unfold otY
  split
  · simp
  · split
    · simp
    · split <;> simp
theorem otY_zero {bs : List Int} (h : otY bs = 0) : bs.length = 16 ∧ optOk (otV bs).1 (otV bs).2.1 (otV bs).2.2.1 (otV bs).2.2.2.1 (otV bs).2.2.2.2.1 (otV bs).2.2.2.2.2 = true ∧ optB (otV bs).1 (otV bs).2.1 (otV bs).2.2.1 (otV bs).2.2.2.1 (otV bs).2.2.2.2.1 (otV bs).2.2.2.2.2 = bs := by
  unfold otY at h
  split at h
  · cases h
  split at h
  · cases h
  split at h
  · rename_i h1 h2 h3
    unfold otOk at h3
    simp only [Bool.and_eq_true, eqB_true] at h3
    exact ⟨by omega, h3⟩
  · cases h
theorem o_cells {w : World} {b : Nat} (kd bu cu pv ge ti : Int) (h : w.heap[b]? = some (.cells #[.int .u8 kd, .int .u8 bu, .int .i64 cu, .int .i64 pv, .int .i64 ge, .int .i64 ti] 26 (0, 0))) :
    w.cell? ⟨b, 0, none⟩ = some (.int .u8 kd) ∧ w.cell? ⟨b, 1, none⟩ = some (.int .u8 bu) ∧ w.cell? ⟨b, 2, none⟩ = some (.int .i64 cu) ∧ w.cell? ⟨b, 3, none⟩ = some (.int .i64 pv) ∧ w.cell? ⟨b, 4, none⟩ = some (.int .i64 ge) ∧ w.cell? ⟨b, 5, none⟩ = some (.int .i64 ti) := by
  refine ⟨?_, ?_, ?_, ?_, ?_, ?_⟩ <;> (rw [cell_of_row _ _ _ _ _ _ h]; rfl)
theorem o_frozen {w : World} {b : Nat} {cs : Array Value} {t : TypeId} (h : w.heap[b]? = some (.cells cs t (0, 0))) (i : Nat) : w.frozen? ⟨b, i, none⟩ = false := by simp [World.frozen?, h]

set_option maxRecDepth 100000 in
set_option maxHeartbeats 4000000 in
theorem refORight_any (kd bu cu pv ge ti : Int) (w : World) :
    Calls Tryd.prog 24 #[.agg #[.int .u8 kd, .int .u8 bu, .int .i64 cu, .int .i64 pv, .int .i64 ge, .int .i64 ti]] w fun e w' => e = .returned (.bool (optOk kd bu cu pv ge ti)) ∧ Below w.heap.size w w' := by
  have bA := heap_alloc_new w (.cells #[.int .u8 kd, .int .u8 bu, .int .i64 cu, .int .i64 pv, .int .i64 ge, .int .i64 ti] 26)
  have H0 := Lib.hid ((Below.refl w.heap.size w).alloc (Nat.le_refl _) (.cells #[.int .u8 kd, .int .u8 bu, .int .i64 cu, .int .i64 pv, .int .i64 ge, .int .i64 ti] 26))
  obtain ⟨q0, q1, q2, q3, q4, q5⟩ := o_cells _ _ _ _ _ _ bA
  have EX : ∃ p1 p2 p3 p4 p5 p6 p7 p8 p9 p10 p11 : Bool, decide (1 ≤ kd) = p1 ∧ decide (kd < 6) = p2 ∧ decide (bu < 16) = p3 ∧ decide (-1 ≤ cu) = p4 ∧ decide (cu < 6) = p5 ∧ decide (-1 ≤ pv) = p6 ∧ decide (pv < 6) = p7 ∧ decide (0 ≤ ge) = p8 ∧ decide (ge < 2147483648) = p9 ∧ decide (0 ≤ ti) = p10 ∧ decide (ti ≤ 1099511627776) = p11 ∧ optOk kd bu cu pv ge ti = (p1 && p2 && p3 && p4 && p5 && p6 && p7 && p8 && p9 && p10 && p11) := ⟨_, _, _, _, _, _, _, _, _, _, _, rfl, rfl, rfl, rfl, rfl, rfl, rfl, rfl, rfl, rfl, rfl, rfl⟩
  obtain ⟨p1, p2, p3, p4, p5, p6, p7, p8, p9, p10, p11, e1, e2, e3, e4, e5, e6, e7, e8, e9, e10, e11, he⟩ := EX
  have HE := Lib.hid he
  clear he bA
  go_enter Tryd.func24, Tryd.ntmps24
  go_upto_region 1 with (fail)
  generalize w.alloc (.cells #[.int .u8 kd, .int .u8 bu, .int .i64 cu, .int .i64 pv, .int .i64 ge, .int .i64 ti] 26) = W0 at *
  cases p1
  · go_wp2
    go_ret
    exact ⟨ret_bool HE.out.symm, H0.out⟩
  cases p2
  · go_wp2
    go_ret
    exact ⟨ret_bool HE.out.symm, H0.out⟩
  cases p3
  · go_wp2
    go_ret
    exact ⟨ret_bool HE.out.symm, H0.out⟩
  cases p4
  · go_wp2
    go_ret
    exact ⟨ret_bool HE.out.symm, H0.out⟩
  cases p5
  · go_wp2
    go_ret
    exact ⟨ret_bool HE.out.symm, H0.out⟩
  cases p6
  · go_wp2
    go_ret
    exact ⟨ret_bool HE.out.symm, H0.out⟩
  cases p7
  · go_wp2
    go_ret
    exact ⟨ret_bool HE.out.symm, H0.out⟩
  cases p8
  · go_wp2
    go_ret
    exact ⟨ret_bool HE.out.symm, H0.out⟩
  cases p9
  · go_wp2
    go_ret
    exact ⟨ret_bool HE.out.symm, H0.out⟩
  cases p10
  · go_wp2
    go_ret
    exact ⟨ret_bool HE.out.symm, H0.out⟩
  cases p11
  · go_wp2
    go_ret
    exact ⟨ret_bool HE.out.symm, H0.out⟩
  go_wp2
  go_ret
  exact ⟨ret_bool HE.out.symm, H0.out⟩

end Go.Proofs.YthenbpnlmpeafaaDoor
