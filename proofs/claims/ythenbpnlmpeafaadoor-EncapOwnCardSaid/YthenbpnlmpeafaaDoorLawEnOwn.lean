/- 'handfastlaw07.EncapOwn' returns true at every wrap and place, and leaves what lay as it lay. -/
import Derived.Test.YthenbpnlmpeafaaDoorEnW
import Derived.Test.YthenbpnlmpeafaaDoorEnM
import Derived.Test.YthenbpnlmpeafaaDoorEnL
namespace Go.Proofs.YthenbpnlmpeafaaDoor
open Go.RowKit Go.Shelf
open SumM
attribute [local go_sem ↓] Go.wp_at_zero Go.wp_at_succ

set_option maxRecDepth 100000 in
set_option maxHeartbeats 16000000 in
theorem eOwn_walk (fk fi xk xi kd bu cu pv ge ti : Int) (wa : Option Addr) (wn wc : Nat) (zs : List Int) (at0 : Int) (w : World) (hT : Wid w ∧ 0 < w.heap.size) (HW : IsWr w fk fi xk xi kd bu cu pv ge ti wa wn wc zs) (ha0 : (Lit.int .i64 at0).wf = true) :
    Calls Tryd.prog 7 #[.agg #[.int .u8 fk, .int .i64 fi, .int .u8 xk, .int .i64 xi, .int .u8 kd, .int .u8 bu, .int .i64 cu, .int .i64 pv, .int .i64 ge, .int .i64 ti, .slice wa wn wc], .int .i64 at0] w fun e w' => e = .returned (.bool true) ∧ Below w.heap.size w w' := by
  have ha := wf_i64.1 ha0
  have hcw := HW.hc
  unfold maxLen at hcw
  have bW := heap_alloc_new w (.cells #[.int .u8 fk, .int .i64 fi, .int .u8 xk, .int .i64 xi, .int .u8 kd, .int .u8 bu, .int .i64 cu, .int .i64 pv, .int .i64 ge, .int .i64 ti, .slice wa wn wc] 29)
  have L0 := (Below.refl w.heap.size w).alloc (Nat.le_refl _) (.cells #[.int .u8 fk, .int .i64 fi, .int .u8 xk, .int .i64 xi, .int .u8 kd, .int .u8 bu, .int .i64 cu, .int .i64 pv, .int .i64 ge, .int .i64 ti, .slice wa wn wc] 29)
  have RW := Lib.hid (fun W (m : Below w.heap.size w W) => (HW.hr.below m).more m.size)
  have HI := Lib.hid (row_in HW.hr)
  have HL := Lib.hid HW.hl
  have HN := Lib.hid (And.intro HW.nf (And.intro HW.nx (And.intro HW.no HW.hn)))
  have TT := Lib.hid (fun W (m : Below w.heap.size w W) => And.intro (hT.1.below hT.2 m) (Nat.lt_of_lt_of_le hT.2 m.size))
  have TW := Lib.hid (fun W (m : Below w.heap.size w W) => ewakes_any W (TT.out W m).2 (TT.out W m).1)
  obtain ⟨q0, q1, q2, q3, q4, q5, q6, q7, q8, q9, q10⟩ := wr_cells _ _ _ _ _ _ _ _ _ _ _ _ _ bW
  clear hT HW ha0
  by_cases hbig : wn = 0 ∨ 3000 < wn
  · have hc : ((wn : Int) == 0) = true ∨ (((wn : Int) == 0) = false ∧ decide ((3000 : Int) < (wn : Int)) = true) := by
      by_cases h1 : wn = 0
      · exact .inl (by simp [h1])
      · exact .inr ⟨by simp [h1], decide_eq_true (by omega)⟩
    clear bW hbig
    rcases hc with p1 | ⟨p1, p2⟩
    all_goals
      go_enter Tryd.func7, Tryd.ntmps7
      go_upto_region 1 with (fail)
      generalize w.alloc (.cells #[.int .u8 fk, .int .i64 fi, .int .u8 xk, .int .i64 xi, .int .u8 kd, .int .u8 bu, .int .i64 cu, .int .i64 pv, .int .i64 ge, .int .i64 ti, .slice wa wn wc] 29) = W0 at *
      go_wp2_with (go_at_call 8; (with_reducible refine (TW.out _ L0).mono ?_); rintro e w3 ⟨rfl, m3⟩)
      go_ret
      exact ⟨rfl, L0.trans (m3.mono L0.size)⟩
  have p1 : ((wn : Int) == 0) = false := by simp; omega
  have p2 : decide ((3000 : Int) < (wn : Int)) = false := decide_eq_false (by omega)
  have hw1 : 1 ≤ wn := by omega
  have hw2 : wn ≤ 3000 := by omega
  clear hbig
  obtain ⟨m', q, hq1, hq2, hq3, ⟨hq4, hq5⟩, hq⟩ := at_mod at0 wn hw1 (by omega)
  obtain ⟨b, off, rfl, hb, hcz⟩ := (RW.out w (Below.refl _ _)).2 (by rw [HL.out]; omega)
  obtain ⟨v, hv⟩ : ∃ v, zs[q]?.getD 0 = v := ⟨_, rfl⟩
  have hvr := getD_in HI.out (by decide) q
  rw [hv] at hvr
  have hcq := hcz q (by rw [HL.out]; exact hq)
  rw [hv] at hcq
  have CQ := Lib.hid (fun W (m : Below w.heap.size w W) => show W.cell? ⟨b, off + q, none⟩ = some (.int .u8 v) from (m.cell (p := ⟨b, off + q, none⟩) hb).trans hcq)
  have HB := Lib.hid hb
  have hqi : (q : Int) < (wn : Int) := by omega
  clear hcz hcq hb
  go_enter Tryd.func7, Tryd.ntmps7
  go_upto_region 1 with (fail)
  generalize w.alloc (.cells #[.int .u8 fk, .int .i64 fi, .int .u8 xk, .int .i64 xi, .int .u8 kd, .int .u8 bu, .int .i64 cu, .int .i64 pv, .int .i64 ge, .int .i64 ti, .slice (some ⟨b, off, none⟩) wn wc] 29) = W0 at *
  have c1 := CQ.out _ L0
  have hwne : ((wn : Int) = 0) = False := by simp; omega
  go_wp2
  go_quiet (fail)
  have bW1 : (W0.drewN nq).heap[w.heap.size]? = some (.cells #[.int .u8 fk, .int .i64 fi, .int .u8 xk, .int .i64 xi, .int .u8 kd, .int .u8 bu, .int .i64 cu, .int .i64 pv, .int .i64 ge, .int .i64 ti, .slice (some ⟨b, off, none⟩) wn wc] 29 (0, 0)) := bW
  have L1 := below_dr L0 nq
  clear q0 q1 q2 q3 q4 q5 q6 q7 q8 q9 q10 bW L0 c1
  generalize W0.drewN nq = W1 at *
  have c1 := CQ.out _ L1
  obtain ⟨q0, q1, q2, q3, q4, q5, q6, q7, q8, q9, q10⟩ := wr_cells _ _ _ _ _ _ _ _ _ _ _ _ _ bW1
  go_wp2_with (fail)
  refine (eOwn_any fk fi xk xi kd bu cu pv ge ti (some ⟨b, off, none⟩) wn wc zs W1 (RW.out _ L1) HL.out HN.out.2.2.2 (by omega)).mono ?_
  rintro e w2 ⟨A2, c2, rfl, ho2, m2⟩
  have L2 := L1.trans (m2.mono L1.size)
  have bW2 := (m2.block _ (Array.getElem?_eq_some_iff.1 bW1).1).trans bW1
  obtain ⟨g, cg, hg1, hg2, hg3, hg4⟩ := ownS_form ho2 hw1
  cases hg1
  have HO2 := Lib.hid (ho2.alloc (.cells #[.int .u8 fk, .int .i64 fi, .int .u8 xk, .int .i64 xi, .int .u8 kd, .int .u8 bu, .int .i64 cu, .int .i64 pv, .int .i64 ge, .int .i64 ti, .slice (some ⟨g, 0, none⟩) wn c2] 29))
  have bO := heap_alloc_new w2 (.cells #[.int .u8 fk, .int .i64 fi, .int .u8 xk, .int .i64 xi, .int .u8 kd, .int .u8 bu, .int .i64 cu, .int .i64 pv, .int .i64 ge, .int .i64 ti, .slice (some ⟨g, 0, none⟩) wn c2] 29)
  have bW3 := blk_al bW2 (.cells #[.int .u8 fk, .int .i64 fi, .int .u8 xk, .int .i64 xi, .int .u8 kd, .int .u8 bu, .int .i64 cu, .int .i64 pv, .int .i64 ge, .int .i64 ti, .slice (some ⟨g, 0, none⟩) wn c2] 29)
  have L3 := L2.alloc L2.size (.cells #[.int .u8 fk, .int .i64 fi, .int .u8 xk, .int .i64 xi, .int .u8 kd, .int .u8 bu, .int .i64 cu, .int .i64 pv, .int .i64 ge, .int .i64 ti, .slice (some ⟨g, 0, none⟩) wn c2] 29)
  have HS1 := Lib.hid L1.size
  have HLT1 := Lib.hid (Array.getElem?_eq_some_iff.1 bW1).1
  have HGB := Lib.hid (show g < w2.heap.size from by
    obtain ⟨g', cap', hv', _, hlt⟩ := ho2.form hw1
    cases hv'
    exact hlt)
  clear q0 q1 q2 q3 q4 q5 q6 q7 q8 q9 q10 bW1 bW2 L1 L2 m2 c1 ho2
  go_upto_region 6 with (fail)
  generalize w2.alloc (.cells #[.int .u8 fk, .int .i64 fi, .int .u8 xk, .int .i64 xi, .int .u8 kd, .int .u8 bu, .int .i64 cu, .int .i64 pv, .int .i64 ge, .int .i64 ti, .slice (some ⟨g, 0, none⟩) wn c2] 29) = W3 at *
  generalize w2.heap.size = bo at *
  obtain ⟨q0, q1, q2, q3, q4, q5, q6, q7, q8, q9, q10⟩ := wr_cells _ _ _ _ _ _ _ _ _ _ _ _ _ bW3
  obtain ⟨y0, y1, y2, y3, y4, y5, y6, y7, y8, y9, y10⟩ := wr_cells _ _ _ _ _ _ _ _ _ _ _ _ _ bO
  have cg0 := own_cell HO2.out q hq
  rw [hv] at cg0
  have fg0 := HO2.out.frozenAt q
  have c1 := CQ.out _ L3
  have e0 : ((wn : Int) != (wn : Int)) = false := by simp
  have e1 : (v != v) = false := by simp
  have hbg : b < g := by have := HB.out; have := HS1.out; omega
  have hwg : w.heap.size < g := by have := HLT1.out; omega
  have hgb : g < bo := HGB.out
  have ng1 : ¬ b = g := by omega
  have ng2 : ¬ w.heap.size = g := by omega
  go_upto_region 9 with (fail)
  have bW4 := (Below.heap_setCell W3 ⟨g, q, none⟩ (.int .u8 ((v + 1) % 256)) w.heap.size (by simp; omega)).trans bW3
  have L4 := L3.setCell (p := ⟨g, q, none⟩) (Nat.le_of_lt hwg) (.int .u8 ((v + 1) % 256))
  clear q0 q1 q2 q3 q4 q5 q6 q7 q8 q9 q10 y0 y1 y2 y3 y4 y5 y6 y7 y8 y9 y10 cg0 fg0 c1 bW3 L3 HO2 bO hgb ng1 ng2 HGB
  generalize W3.setCell ⟨g, q, none⟩ (.int .u8 ((v + 1) % 256)) = W4 at *
  have c1 := CQ.out _ L4
  obtain ⟨q0, q1, q2, q3, q4, q5, q6, q7, q8, q9, q10⟩ := wr_cells _ _ _ _ _ _ _ _ _ _ _ _ _ bW4
  go_wp2_with (fail)
  have KP := Lib.hid (ePut_any fk fi xk xi kd bu cu pv ge ti (some ⟨b, off, none⟩) wn wc zs HN.out.2.2.1 HN.out.1.hk HN.out.1.hi HN.out.2.1.hk HN.out.2.1.hi (by omega) W4 (TT.out _ L4).2 (TT.out _ L4).1 (RW.out _ L4) HL.out HN.out.2.2.2)
  refine KP.out.mono ?_
  rintro e w5 ⟨A5, n5, c5, rfl, hz5, R5, _, hn5, hc5, m5⟩
  have L5 := L4.trans (m5.mono L4.size)
  have bW5 := (m5.block _ (Array.getElem?_eq_some_iff.1 bW4).1).trans bW4
  clear q0 q1 q2 q3 q4 q5 q6 q7 q8 q9 q10 bW4 L4 m5 c1 KP
  by_cases hy : enY fk fi xk xi kd bu cu pv ge ti zs.length = 0
  · have hzz : enZ fk fi xk xi kd bu cu pv ge ti zs = enB fk fi xk xi kd bu cu pv ge ti zs := by unfold enZ; rw [if_pos hy]
    obtain ⟨k0, k1, k2, k3, k4⟩ := en_back hy HN.out.2.2.1 HI.out
    obtain ⟨j0, _, j2, _, _, _, _, j7, j8⟩ := en_facts hy HN.out.2.2.1 HI.out
    rw [hy]
    rw [hzz] at hz5 R5
    obtain ⟨es, hes⟩ : ∃ x, enB fk fi xk xi kd bu cu pv ge ti zs = x := ⟨_, rfl⟩
    rw [hes] at hz5 R5 k0 k1 k2 k3 k4 j0 j2 j7
    have hn36 : n5 = 36 + wn := by rw [← hz5, j0, HL.out]
    have hv36 : es[36 + q]?.getD 0 = v := by
      unfold etIn at j7
      rw [j2] at j7
      rw [← hv, ← j7, List.getElem?_drop]
    have K6 := Lib.hid (eTake_any A5 n5 c5 es hz5 hn5 hc5 (by omega) w5 (TT.out _ L5).2 (TT.out _ L5).1 R5)
    have HK := Lib.hid (And.intro k0 (And.intro k1 (And.intro k2 (And.intro k3 (And.intro k4 (And.intro hz5 (And.intro hv36 HL.out)))))))
    have HR5 := Lib.hid R5
    clear k0 k1 k2 k3 k4 j0 j2 j7 j8 hzz hes hy hz5 R5 hv36 hn5 hc5
    subst hn36
    go_wp2_with (fail)
    refine K6.out.mono ?_
    unfold EnTakeRet
    rw [HK.out.1, HK.out.2.1, HK.out.2.2.1, HK.out.2.2.2.1, HK.out.2.2.2.2.1, HK.out.2.2.2.2.2.2.2]
    rintro e w6 (⟨h0, _⟩ | ⟨_, A6, c6, rfl, ho6, m6⟩)
    · cases h0
    obtain ⟨b5, off5, rfl, hb5, hc5⟩ := HR5.out.2 (by rw [HK.out.2.2.2.2.2.1]; omega)
    have hcb := hc5 (36 + q) (by rw [HK.out.2.2.2.2.2.1]; omega)
    rw [HK.out.2.2.2.2.2.2.1] at hcb
    have C5 := Lib.hid (fun W (m : Below w5.heap.size w5 W) => show W.cell? ⟨b5, off5 + (36 + q), none⟩ = some (.int .u8 v) from (m.cell (p := ⟨b5, off5 + (36 + q), none⟩) hb5).trans hcb)
    obtain ⟨g6, cg6, hv6, hg6, hlt6⟩ := ho6.form hw1
    cases hv6
    have L7 := m6.alloc m6.size (.cells #[.int .u8 fk, .int .i64 fi, .int .u8 xk, .int .i64 xi, .int .u8 kd, .int .u8 bu, .int .i64 cu, .int .i64 pv, .int .i64 ge, .int .i64 ti, .slice (some ⟨g6, 0, none⟩) wn c6] 29)
    have bW7 := blk_al ((m6.block _ (Array.getElem?_eq_some_iff.1 bW5).1).trans bW5) (.cells #[.int .u8 fk, .int .i64 fi, .int .u8 xk, .int .i64 xi, .int .u8 kd, .int .u8 bu, .int .i64 cu, .int .i64 pv, .int .i64 ge, .int .i64 ti, .slice (some ⟨g6, 0, none⟩) wn c6] 29)
    have bV := heap_alloc_new w6 (.cells #[.int .u8 fk, .int .i64 fi, .int .u8 xk, .int .i64 xi, .int .u8 kd, .int .u8 bu, .int .i64 cu, .int .i64 pv, .int .i64 ge, .int .i64 ti, .slice (some ⟨g6, 0, none⟩) wn c6] 29)
    have HO7 := Lib.hid (ho6.alloc (.cells #[.int .u8 fk, .int .i64 fi, .int .u8 xk, .int .i64 xi, .int .u8 kd, .int .u8 bu, .int .i64 cu, .int .i64 pv, .int .i64 ge, .int .i64 ti, .slice (some ⟨g6, 0, none⟩) wn c6] 29))
    have HL5 := Lib.hid L5
    have HB5 := Lib.hid (show b < g6 ∧ w.heap.size < g6 ∧ b5 < g6 ∧ g6 < w6.heap.size from ⟨by have := HB.out; have := L5.size; omega, by have := (Array.getElem?_eq_some_iff.1 bW5).1; omega, by omega, hlt6⟩)
    clear bW5 L5 m6 ho6 hc5 hcb hb5 hg6 hlt6 K6 HR5
    go_upto_region 15 with (fail)
    generalize w6.alloc (.cells #[.int .u8 fk, .int .i64 fi, .int .u8 xk, .int .i64 xi, .int .u8 kd, .int .u8 bu, .int .i64 cu, .int .i64 pv, .int .i64 ge, .int .i64 ti, .slice (some ⟨g6, 0, none⟩) wn c6] 29) = W7 at *
    generalize w6.heap.size = bv at *
    have l1 : b < g6 := HB5.out.1
    have l2 : w.heap.size < g6 := HB5.out.2.1
    have l3 : b5 < g6 := HB5.out.2.2.1
    have l4 : g6 < bv := HB5.out.2.2.2
    have ng1 : ¬ b = g6 := by omega
    have ng2 : ¬ w.heap.size = g6 := by omega
    have ng3 : ¬ b5 = g6 := by omega
    have ng4 : ¬ bv = g6 := by omega
    obtain ⟨q0, q1, q2, q3, q4, q5, q6, q7, q8, q9, q10⟩ := wr_cells _ _ _ _ _ _ _ _ _ _ _ _ _ bW7
    obtain ⟨y0, y1, y2, y3, y4, y5, y6, y7, y8, y9, y10⟩ := wr_cells _ _ _ _ _ _ _ _ _ _ _ _ _ bV
    have cg0 := own_cell HO7.out q hq
    have fg0 := HO7.out.frozenAt q
    have c1 := CQ.out _ (HL5.out.trans (L7.mono HL5.out.size))
    have c5' := C5.out _ L7
    have e3 : ((36 + wn : Nat) : Int) = 36 + (wn : Int) := by omega
    have e4 : ((((36 + wn : Nat) : Int)) != 36 + (wn : Int)) = false := by simp
    have i1 : 36 + (q : Int) < 36 + (wn : Int) := by omega
    have HL7 := Lib.hid (HL5.out.trans (L7.mono HL5.out.size))
    clear l1 l2 l3 l4 bW7 bV L7
    go_upto_region 18 with (fail)
    have s1 := (World.cell?_setCell_far W7 ⟨g6, q, none⟩ ⟨b, off + q, none⟩ (.int .u8 ((v + 1) % 256)) (fun e => ng1 e.symm)).trans c1
    have s5 := (World.cell?_setCell_far W7 ⟨g6, q, none⟩ ⟨b5, off5 + (36 + q), none⟩ (.int .u8 ((v + 1) % 256)) (fun e => ng3 e.symm)).trans c5'
    have s10 := (World.cell?_setCell_far W7 ⟨g6, q, none⟩ ⟨w.heap.size, 10, none⟩ (.int .u8 ((v + 1) % 256)) (fun e => ng2 e.symm)).trans q10
    have L8 := HL7.out.setCell (p := ⟨g6, q, none⟩) (by simp; have := HB5.out.2.1; omega) (.int .u8 ((v + 1) % 256))
    have e5 : (v == v) = true := by simp
    clear q0 q1 q2 q3 q4 q5 q6 q7 q8 q9 q10 y0 y1 y2 y3 y4 y5 y6 y7 y8 y9 y10 cg0 fg0 c1 c5' ng1 ng2 ng3 ng4
    generalize W7.setCell ⟨g6, q, none⟩ (.int .u8 ((v + 1) % 256)) = W8 at *
    go_wp2_with (go_at_call 8; (with_reducible refine (TW.out _ L8).mono ?_); rintro e v4 ⟨rfl, m4⟩)
    go_ret
    exact ⟨rfl, L8.trans (m4.mono L8.size)⟩
  · obtain ⟨y, hyd⟩ : ∃ y, enY fk fi xk xi kd bu cu pv ge ti zs.length = y := ⟨_, rfl⟩
    rw [hyd] at hy
    rw [hyd]
    have t1 : (y != 0) = true := by simpa using hy
    clear hyd hy hz5 R5 hn5 hc5 bW5
    go_wp2_with (go_at_call 8; (with_reducible refine (TW.out _ L5).mono ?_); rintro e w6 ⟨rfl, m6⟩)
    go_ret
    exact ⟨rfl, L5.trans (m6.mono L5.size)⟩
end Go.Proofs.YthenbpnlmpeafaaDoor
