/- Plain facts on wraps: what is put is taken, what is taken is put. -/
import Derived.Test.YthenbpnlmpeafaaDoorEnD
namespace Go.Proofs.YthenbpnlmpeafaaDoor
open Go.RowKit Go.Shelf
open SumM

theorem enOk_iff {fk fi xk xi kd bu cu pv ge ti : Int} : enOk fk fi xk xi kd bu cu pv ge ti = true ↔ isNod (fk, fi) = true ∧ isNod (xk, xi) = true ∧ optOk kd bu cu pv ge ti = true := by
  unfold enOk
  simp [Bool.and_eq_true, and_assoc]
theorem enY_zero {fk fi xk xi kd bu cu pv ge ti : Int} {n : Nat} : enY fk fi xk xi kd bu cu pv ge ti n = 0 ↔ enOk fk fi xk xi kd bu cu pv ge ti = true ∧ 36 + n ≤ 65535 := by
  unfold enY
  split
  · rename_i h
    split
    · rename_i h2
      exact ⟨fun _ => ⟨h, h2⟩, fun _ => rfl⟩
    · rename_i h2
      exact ⟨fun h3 => absurd h3 (by decide), fun h3 => absurd h3.2 h2⟩
  · rename_i h
    exact ⟨fun h3 => absurd h3 (by decide), fun h3 => absurd h3.1 h⟩

/-- What is put: its head's parts. -/
theorem en_facts {fk fi xk xi kd bu cu pv ge ti : Int} {zs : List Int} (h : enY fk fi xk xi kd bu cu pv ge ti zs.length = 0) (H : ONums kd bu cu pv ge ti) (hp : In 255 zs) :
    (enB fk fi xk xi kd bu cu pv ge ti zs).length = 36 + zs.length ∧ whyOf (enB fk fi xk xi kd bu cu pv ge ti zs) = 0 ∧ hlOf (enB fk fi xk xi kd bu cu pv ge ti zs) = 36 ∧ segAt (enB fk fi xk xi kd bu cu pv ge ti zs) 6 % 256 = 4 ∧
    segAt (enB fk fi xk xi kd bu cu pv ge ti zs) 8 = adr (fk, fi) ∧ segAt (enB fk fi xk xi kd bu cu pv ge ti zs) 9 = adr (xk, xi) ∧ etOpt (enB fk fi xk xi kd bu cu pv ge ti zs) = optB kd bu cu pv ge ti ∧ etIn (enB fk fi xk xi kd bu cu pv ge ti zs) = zs ∧ In 255 (enB fk fi xk xi kd bu cu pv ge ti zs) := by
  obtain ⟨h1, h2⟩ := enY_zero.1 h
  obtain ⟨g1, g2, g3⟩ := enOk_iff.1 h1
  have a1 := adr_all _ (isNod_mem.1 g1)
  have a2 := adr_all _ (isNod_mem.1 g2)
  have HN : Nums 0 0 0 64 4 (adr (fk, fi)) (adr (xk, xi)) := ⟨by decide, by decide, by decide, by decide, by decide, a1, a2⟩
  have hs : (16 : Nat) ≤ 40 ∧ 16 % 4 = 0 ∧ 20 + 16 + zs.length ≤ 65535 := ⟨by omega, rfl, by omega⟩
  have ho := optB_in (cu := cu) (pv := pv) (ge := ge) (ti := ti) H.h1 H.h2
  obtain ⟨c, hc, hc0, hc1, e⟩ := putOf_eq (on := 16) (pn := zs.length) (optB kd bu cu pv ge ti) zs HN hs
  have hw := why_put (on := 16) (pn := zs.length) (optB kd bu cu pv ge ti) zs HN hs rfl rfl
  obtain ⟨s0, s1, s2, s3, s4, s5, s6, s7, s8, s9⟩ := headC_seg (pn := zs.length) (on := 16) (c / 256) (c % 256) (optB kd bu cu pv ge ti ++ zs) HN
  have hh : hlOf (enB fk fi xk xi kd bu cu pv ge ti zs) = 36 := by
    unfold enB
    rw [e]
    exact hlOf_eq s0 ⟨by omega, rfl⟩
  have hl : (enB fk fi xk xi kd bu cu pv ge ti zs).length = 36 + zs.length := by
    unfold enB
    rw [putOf_length (on := 16) (optB kd bu cu pv ge ti) zs HN hs rfl rfl]
  have hd : (enB fk fi xk xi kd bu cu pv ge ti zs).drop 20 = optB kd bu cu pv ge ti ++ zs := by
    unfold enB
    rw [e]
    exact headC_drop20 _ _ _
  refine ⟨hl, ?_, hh, ?_, ?_, ?_, ?_, ?_, ?_⟩
  · unfold enB
    rw [hw, if_neg (by omega)]
  · unfold enB
    rw [e, s6]
    rfl
  · unfold enB
    rw [e, s8]
  · unfold enB
    rw [e, s9]
  · unfold etOpt
    rw [hh, List.drop_take, hd]
    simp [optB]
  · unfold etIn
    rw [hh, show (36 : Nat) = 20 + 16 from rfl, ← List.drop_drop, hd]
    simp [optB]
  · exact putOf_in ho hp

theorem nodV_adr {u : Nod} (h : isNod u = true) : nodV (adr u) = u ∧ nodB (adr u) = true := by
  have := nodAt_adr u (isNod_mem.1 h)
  unfold nodV nodB
  rw [this]
  exact ⟨rfl, rfl⟩
/-- What is put is taken. -/
theorem en_back {fk fi xk xi kd bu cu pv ge ti : Int} {zs : List Int} (h : enY fk fi xk xi kd bu cu pv ge ti zs.length = 0) (H : ONums kd bu cu pv ge ti) (hp : In 255 zs) :
    etOk (enB fk fi xk xi kd bu cu pv ge ti zs) = true ∧ nodV (segAt (enB fk fi xk xi kd bu cu pv ge ti zs) 8) = (fk, fi) ∧ nodV (segAt (enB fk fi xk xi kd bu cu pv ge ti zs) 9) = (xk, xi) ∧ otV (etOpt (enB fk fi xk xi kd bu cu pv ge ti zs)) = (kd, bu, cu, pv, ge, ti) ∧ etIn (enB fk fi xk xi kd bu cu pv ge ti zs) = zs := by
  obtain ⟨e0, e1, e2, e3, e4, e5, e6, e7, e8⟩ := en_facts h H hp
  obtain ⟨h1, h2⟩ := enY_zero.1 h
  obtain ⟨g1, g2, g3⟩ := enOk_iff.1 h1
  have n1 := nodV_adr g1
  have n2 := nodV_adr g2
  have o1 := otY_optB g3
  have o2 := otV_optB g3
  refine ⟨?_, by rw [e4]; exact n1.1, by rw [e5]; exact n2.1, by rw [e6]; exact o2, e7⟩
  have hz : etZ (enB fk fi xk xi kd bu cu pv ge ti zs) = enB fk fi xk xi kd bu cu pv ge ti zs := by
    unfold etZ
    rw [e4, e5, e6, e7, n1.1, n2.1, o2]
    unfold enZ
    rw [if_pos h]
  unfold etOk
  rw [hz, e1, e4, e5, e6, o1.1, n1.2, n2.2, eqB_true.2 rfl]
  rfl
/-- What is taken has just those bytes. -/
theorem et_facts {bs : List Int} (h : etOk bs = true) :
    whyOf bs = 0 ∧ otY (etOpt bs) = 0 ∧
    enY (nodV (segAt bs 8)).1 (nodV (segAt bs 8)).2 (nodV (segAt bs 9)).1 (nodV (segAt bs 9)).2 (otV (etOpt bs)).1 (otV (etOpt bs)).2.1 (otV (etOpt bs)).2.2.1 (otV (etOpt bs)).2.2.2.1 (otV (etOpt bs)).2.2.2.2.1 (otV (etOpt bs)).2.2.2.2.2 (etIn bs).length = 0 ∧
    enB (nodV (segAt bs 8)).1 (nodV (segAt bs 8)).2 (nodV (segAt bs 9)).1 (nodV (segAt bs 9)).2 (otV (etOpt bs)).1 (otV (etOpt bs)).2.1 (otV (etOpt bs)).2.2.1 (otV (etOpt bs)).2.2.2.1 (otV (etOpt bs)).2.2.2.2.1 (otV (etOpt bs)).2.2.2.2.2 (etIn bs) = bs := by
  unfold etOk at h
  simp only [Bool.and_eq_true, decide_eq_true_eq] at h
  obtain ⟨⟨⟨⟨h1, h2⟩, h3⟩, h4⟩, h5⟩ := h
  have hz := eqB_true.1 h5
  have hl := (why_zero h1).1
  unfold etZ enZ at hz
  split at hz
  · rename_i h6
    exact ⟨h1, h2, h6, hz⟩
  · rw [← hz] at hl
    simp at hl
theorem enB_first {fk fi xk xi kd bu cu pv ge ti : Int} {zs : List Int} (h : enY fk fi xk xi kd bu cu pv ge ti zs.length = 0) : (enB fk fi xk xi kd bu cu pv ge ti zs)[0]?.getD 0 = 73 := by
  obtain ⟨h1, h2⟩ := enY_zero.1 h
  obtain ⟨g1, g2, g3⟩ := enOk_iff.1 h1
  have HN : Nums 0 0 0 64 4 (adr (fk, fi)) (adr (xk, xi)) := ⟨by decide, by decide, by decide, by decide, by decide, adr_all _ (isNod_mem.1 g1), adr_all _ (isNod_mem.1 g2)⟩
  obtain ⟨c, hc, hc0, hc1, e⟩ := putOf_eq (on := 16) (pn := zs.length) (optB kd bu cu pv ge ti) zs HN ⟨by omega, rfl, by omega⟩
  unfold enB
  rw [e]
  rfl
/-- A byte of the outer head changed: it is none. -/
theorem en_byte {fk fi xk xi kd bu cu pv ge ti : Int} {zs : List Int} (h : enY fk fi xk xi kd bu cu pv ge ti zs.length = 0) (H : ONums kd bu cu pv ge ti) (hp : In 255 zs) (p : Nat) (h36 : p < 36) (v : Int) (hv : 0 ≤ v ∧ v ≤ 255) (hne : v ≠ (enB fk fi xk xi kd bu cu pv ge ti zs)[p]?.getD 0) :
    etOk ((enB fk fi xk xi kd bu cu pv ge ti zs).set p v) = false := by
  obtain ⟨e0, e1, e2, e3, e4, e5, e6, e7, e8⟩ := en_facts h H hp
  rw [Bool.eq_false_iff]
  intro hc
  obtain ⟨k1, k2, k3, k4⟩ := et_facts hc
  rcases Nat.eq_zero_or_pos p with rfl | hp1
  · have f1 := enB_first h
    have f2 := enB_first k3
    rw [k4] at f2
    apply hne
    rw [f1, ← f2]
    simp [show 0 < (enB fk fi xk xi kd bu cu pv ge ti zs).length by omega]
  · exact why_byte e8 e1 p hp1 (by omega) v hv hne k1

set_option maxRecDepth 100000 in
theorem law7Same_any (a : Option Addr) (n c : Nat) (zs : List Int) (a' : Option Addr) (n' c' : Nat) (ys : List Int) (B B' : Nat) (w : World) (h : Row .u8 B w a zs) (hl : zs.length = n) (h' : Row .u8 B' w a' ys) (hl' : ys.length = n') :
    Calls Tryd.prog 17 #[.slice a n c, .slice a' n' c'] w fun e w' => e = .returned (.bool (eqB zs ys)) ∧ w = w' := by
  have e1 := h.str n c hl
  have e2 := h'.str n' c' hl'
  have HE := Lib.hid (str_eq (row_in h) (row_in h'))
  clear h h' hl hl'
  go_enter Tryd.func17, Tryd.ntmps17
  go_wp2
  go_ret
  exact ⟨ret_bool HE.out, rfl⟩
end Go.Proofs.YthenbpnlmpeafaaDoor
