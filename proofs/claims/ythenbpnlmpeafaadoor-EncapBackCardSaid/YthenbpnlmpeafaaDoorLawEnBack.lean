/- 'handfastlaw07.EncapBack' returns true at every wrap and bit, and leaves what lay as it lay. -/
import Derived.Test.YthenbpnlmpeafaaDoorEnW
import Derived.Test.YthenbpnlmpeafaaDoorEnM
import Derived.Test.YthenbpnlmpeafaaDoorEnL
namespace Go.Proofs.YthenbpnlmpeafaaDoor
open Go.RowKit Go.Shelf
open SumM
attribute [local go_sem ↓] Go.wp_at_zero Go.wp_at_succ

theorem ez_same (w : World) : Calls Tryd.prog 18 #[.agg #[.int .u8 0, .int .i64 0, .int .u8 0, .int .i64 0, .int .u8 0, .int .u8 0, .int .i64 0, .int .i64 0, .int .i64 0, .int .i64 0, .slice none 0 0], .agg #[.int .u8 0, .int .i64 0, .int .u8 0, .int .i64 0, .int .u8 0, .int .u8 0, .int .i64 0, .int .i64 0, .int .i64 0, .int .i64 0, .slice none 0 0]] w fun e w' => e = .returned (.bool true) ∧ Below w.heap.size w w' := by
  have h := r7Same_any 0 0 0 0 0 0 0 0 0 0 none 0 0 0 0 0 0 0 0 0 0 0 0 none 0 0 [] [] w.heap.size w.heap.size w (Nat.le_refl _) (Nat.le_refl _) (Row.nil _ _ _ _) rfl (Row.nil _ _ _ _) rfl
  rwa [show wrB 0 0 0 0 0 0 0 0 0 0 [] 0 0 0 0 0 0 0 0 0 0 [] = true by decide] at h

set_option maxRecDepth 100000 in
set_option maxHeartbeats 16000000 in
theorem eBack_walk (fk fi xk xi kd bu cu pv ge ti : Int) (wa : Option Addr) (wn wc : Nat) (zs : List Int) (bit : Int) (w : World) (hT : Wid w ∧ 0 < w.heap.size) (HW : IsWr w fk fi xk xi kd bu cu pv ge ti wa wn wc zs) (ha0 : (Lit.int .i64 bit).wf = true) :
    Calls Tryd.prog 4 #[.agg #[.int .u8 fk, .int .i64 fi, .int .u8 xk, .int .i64 xi, .int .u8 kd, .int .u8 bu, .int .i64 cu, .int .i64 pv, .int .i64 ge, .int .i64 ti, .slice wa wn wc], .int .i64 bit] w fun e w' => e = .returned (.bool true) ∧ Below w.heap.size w w' := by
  have ha := wf_i64.1 ha0
  have hcw := HW.hc
  unfold maxLen at hcw
  have bW := heap_alloc_new w (.cells #[.int .u8 fk, .int .i64 fi, .int .u8 xk, .int .i64 xi, .int .u8 kd, .int .u8 bu, .int .i64 cu, .int .i64 pv, .int .i64 ge, .int .i64 ti, .slice wa wn wc] 29)
  have L0 := (Below.refl w.heap.size w).alloc (Nat.le_refl _) (.cells #[.int .u8 fk, .int .i64 fi, .int .u8 xk, .int .i64 xi, .int .u8 kd, .int .u8 bu, .int .i64 cu, .int .i64 pv, .int .i64 ge, .int .i64 ti, .slice wa wn wc] 29)
  have RW := Lib.hid (fun W (m : Below w.heap.size w W) => (HW.hr.below m).more m.size)
  have HI := Lib.hid (row_in HW.hr)
  have HL := Lib.hid HW.hl
  have HN := Lib.hid (And.intro HW.nf (And.intro HW.nx (And.intro HW.no HW.hn)))
  have TT := Lib.hid (fun W (m : Below w.heap.size w W) => And.intro (hT.1.below hT.2 m) (Nat.lt_of_lt_of_le hT.2 m.size))
  have TW := Lib.hid (fun W (m : Below w.heap.size w W) => ewakes_any W (TT.out W m).2 (TT.out W m).1)
  obtain ⟨q0, q1, q2, q3, q4, q5, q6, q7, q8, q9, q10⟩ := wr_cells _ _ _ _ _ _ _ _ _ _ _ _ _ bW
  clear hT HW ha0
  by_cases hbig : 3000 < wn
  · have p2 : decide ((3000 : Int) < (wn : Int)) = true := decide_eq_true (by omega)
    clear bW hbig
    go_enter Tryd.func4, Tryd.ntmps4
    go_upto_region 1 with (fail)
    generalize w.alloc (.cells #[.int .u8 fk, .int .i64 fi, .int .u8 xk, .int .i64 xi, .int .u8 kd, .int .u8 bu, .int .i64 cu, .int .i64 pv, .int .i64 ge, .int .i64 ti, .slice wa wn wc] 29) = W0 at *
    go_wp2_with (go_at_call 8; (with_reducible refine (TW.out _ L0).mono ?_); rintro e w3 ⟨rfl, m3⟩)
    go_ret
    exact ⟨rfl, L0.trans (m3.mono L0.size)⟩
  have p2 : decide ((3000 : Int) < (wn : Int)) = false := decide_eq_false (by omega)
  have hw2 : wn ≤ 3000 := by omega
  clear hbig
  go_enter Tryd.func4, Tryd.ntmps4
  go_upto_region 1 with (fail)
  generalize w.alloc (.cells #[.int .u8 fk, .int .i64 fi, .int .u8 xk, .int .i64 xi, .int .u8 kd, .int .u8 bu, .int .i64 cu, .int .i64 pv, .int .i64 ge, .int .i64 ti, .slice wa wn wc] 29) = W0 at *
  go_wp2_with (fail)
  refine (eAddr_any fk fi HN.out.1.hk HN.out.1.hi W0).mono ?_
  rintro e w1 ⟨rfl, m1⟩
  have L1 := L0.trans (m1.mono L0.size)
  have bW1 := (m1.block _ (Array.getElem?_eq_some_iff.1 bW).1).trans bW
  clear q0 q1 q2 q3 q4 q5 q6 q7 q8 q9 q10 bW L0 m1
  obtain ⟨q0, q1, q2, q3, q4, q5, q6, q7, q8, q9, q10⟩ := wr_cells _ _ _ _ _ _ _ _ _ _ _ _ _ bW1
  go_wp2_with (fail)
  refine (eAddr_any xk xi HN.out.2.1.hk HN.out.2.1.hi w1).mono ?_
  rintro e w2 ⟨rfl, m2⟩
  have L2 := L1.trans (m2.mono L1.size)
  have bW2 := (m2.block _ (Array.getElem?_eq_some_iff.1 bW1).1).trans bW1
  clear q0 q1 q2 q3 q4 q5 q6 q7 q8 q9 q10 bW1 L1 m2
  obtain ⟨q0, q1, q2, q3, q4, q5, q6, q7, q8, q9, q10⟩ := wr_cells _ _ _ _ _ _ _ _ _ _ _ _ _ bW2
  go_wp2_with (fail)
  have KP := Lib.hid (ePut_any fk fi xk xi kd bu cu pv ge ti wa wn wc zs HN.out.2.2.1 HN.out.1.hk HN.out.1.hi HN.out.2.1.hk HN.out.2.1.hi (by omega) w2 (TT.out _ L2).2 (TT.out _ L2).1 (RW.out _ L2) HL.out HN.out.2.2.2)
  refine KP.out.mono ?_
  rintro e w3 ⟨A3, n3, c3, rfl, hz3, R3, hnil3, hn3, hc3, m3⟩
  have L3 := L2.trans (m3.mono L2.size)
  have bW3 := (m3.block _ (Array.getElem?_eq_some_iff.1 bW2).1).trans bW2
  clear q0 q1 q2 q3 q4 q5 q6 q7 q8 q9 q10 bW2 L2 m3 KP
  obtain ⟨q0, q1, q2, q3, q4, q5, q6, q7, q8, q9, q10⟩ := wr_cells _ _ _ _ _ _ _ _ _ _ _ _ _ bW3
  have KR := Lib.hid (fun W => refORight_any kd bu cu pv ge ti W)
  by_cases hok : enOk fk fi xk xi kd bu cu pv ge ti = true
  · obtain ⟨g1, g2, g3⟩ := enOk_iff.1 hok
    have hy : enY fk fi xk xi kd bu cu pv ge ti zs.length = 0 := enY_zero.2 ⟨hok, by rw [HL.out]; omega⟩
    have hzz : enZ fk fi xk xi kd bu cu pv ge ti zs = enB fk fi xk xi kd bu cu pv ge ti zs := by unfold enZ; rw [if_pos hy]
    obtain ⟨k0, k1, k2, k3, k4⟩ := en_back hy HN.out.2.2.1 HI.out
    obtain ⟨j0, _, j2, _, _, _, _, j7, j8⟩ := en_facts hy HN.out.2.2.1 HI.out
    have HBY := Lib.hid (fun p h36 v hv hne => en_byte hy HN.out.2.2.1 HI.out p h36 v hv hne)
    rw [hy, g1, g2]
    rw [hzz] at hz3 R3
    obtain ⟨es, hes⟩ : ∃ x, enB fk fi xk xi kd bu cu pv ge ti zs = x := ⟨_, rfl⟩
    rw [hes] at hz3 R3 k0 k1 k2 k3 k4 j0 j2 j7 j8 HBY
    have hn36 : n3 = 36 + wn := by rw [← hz3, j0, HL.out]
    have hdr : es.drop 36 = zs := by
      unfold etIn at j7
      rwa [j2] at j7
    have KR2 := Lib.hid (fun W => show Calls Tryd.prog 24 #[.agg #[.int .u8 kd, .int .u8 bu, .int .i64 cu, .int .i64 pv, .int .i64 ge, .int .i64 ti]] W fun e w' => e = .returned (.bool true) ∧ Below W.heap.size W w' from by
      have h := KR.out W
      rwa [g3] at h)
    have H36 := Lib.hid hn36
    have HK := Lib.hid (show etOk es = true ∧ nodV (segAt es 8) = (fk, fi) ∧ nodV (segAt es 9) = (xk, xi) ∧ otV (etOpt es) = (kd, bu, cu, pv, ge, ti) ∧ etIn es = zs ∧ es.length = n3 ∧ es.drop 36 = zs ∧ In 255 es from ⟨k0, k1, k2, k3, k4, hz3, hdr, j8⟩)
    have R3' := Lib.hid R3
    have HC3 := Lib.hid (And.intro hn3 hc3)
    have HL3 := Lib.hid L3
    clear k0 k1 k2 k3 k4 j0 j2 j7 j8 hzz hes hy hz3 R3 hdr hok g1 g2 g3 KR hn3 hc3 L3 hn36
    go_wp2_with (fail)
    refine (KR2.out _).mono ?_
    rintro e w4 ⟨rfl, m4⟩
    have L4 := HL3.out.trans (m4.mono HL3.out.size)
    have bW4 := (m4.block _ (Array.getElem?_eq_some_iff.1 bW3).1).trans bW3
    have R4 := Lib.hid ((R3'.out.below m4).more m4.size)
    clear q0 q1 q2 q3 q4 q5 q6 q7 q8 q9 q10 bW3 R3' HL3 m4 KR2
    go_wp2_with (fail)
    refine (eTake_any A3 n3 c3 es HK.out.2.2.2.2.2.1 HC3.out.1 HC3.out.2 (by have := H36.out; omega) w4 (TT.out _ L4).2 (TT.out _ L4).1 R4.out).mono ?_
    unfold EnTakeRet
    rw [HK.out.1, HK.out.2.1, HK.out.2.2.1, HK.out.2.2.2.1, HK.out.2.2.2.2.1, HL.out]
    rintro e w6 (⟨h0, _⟩ | ⟨_, A6, c6, rfl, ho6, m6⟩)
    · cases h0
    have L6 := L4.trans (m6.mono L4.size)
    have L7 := L6.alloc L6.size (.cells #[.int .u8 fk, .int .i64 fi, .int .u8 xk, .int .i64 xi, .int .u8 kd, .int .u8 bu, .int .i64 cu, .int .i64 pv, .int .i64 ge, .int .i64 ti, .slice A6 wn c6] 29)
    have bW7 := blk_al ((m6.block _ (Array.getElem?_eq_some_iff.1 bW4).1).trans bW4) (.cells #[.int .u8 fk, .int .i64 fi, .int .u8 xk, .int .i64 xi, .int .u8 kd, .int .u8 bu, .int .i64 cu, .int .i64 pv, .int .i64 ge, .int .i64 ti, .slice A6 wn c6] 29)
    have bV := heap_alloc_new w6 (.cells #[.int .u8 fk, .int .i64 fi, .int .u8 xk, .int .i64 xi, .int .u8 kd, .int .u8 bu, .int .i64 cu, .int .i64 pv, .int .i64 ge, .int .i64 ti, .slice A6 wn c6] 29)
    have R7 := Lib.hid (((R4.out.below m6).more m6.size).allocS (.cells #[.int .u8 fk, .int .i64 fi, .int .u8 xk, .int .i64 xi, .int .u8 kd, .int .u8 bu, .int .i64 cu, .int .i64 pv, .int .i64 ge, .int .i64 ti, .slice A6 wn c6] 29))
    have RV := Lib.hid ((Row.of_own ho6 (in_wf8 HI.out)).allocS (.cells #[.int .u8 fk, .int .i64 fi, .int .u8 xk, .int .i64 xi, .int .u8 kd, .int .u8 bu, .int .i64 cu, .int .i64 pv, .int .i64 ge, .int .i64 ti, .slice A6 wn c6] 29))
    clear bW4 L4 L6 m6 ho6 R4
    go_upto_region 9 with (fail)
    generalize w6.alloc (.cells #[.int .u8 fk, .int .i64 fi, .int .u8 xk, .int .i64 xi, .int .u8 kd, .int .u8 bu, .int .i64 cu, .int .i64 pv, .int .i64 ge, .int .i64 ti, .slice A6 wn c6] 29) = W7 at *
    generalize w6.heap.size = bv at *
    obtain ⟨b3, off3, rfl, hb3, _⟩ := R7.out.2 (by rw [HK.out.2.2.2.2.2.1, H36.out]; omega)
    have K1 := Lib.hid (fun W (m : Below W7.heap.size W7 W) => show Calls Tryd.prog 18 #[.agg #[.int .u8 fk, .int .i64 fi, .int .u8 xk, .int .i64 xi, .int .u8 kd, .int .u8 bu, .int .i64 cu, .int .i64 pv, .int .i64 ge, .int .i64 ti, .slice A6 wn c6], .agg #[.int .u8 fk, .int .i64 fi, .int .u8 xk, .int .i64 xi, .int .u8 kd, .int .u8 bu, .int .i64 cu, .int .i64 pv, .int .i64 ge, .int .i64 ti, .slice wa wn wc]] W fun e w' => e = .returned (.bool true) ∧ Below W.heap.size W w' from by
      have h := r7Same_any fk fi xk xi kd bu cu pv ge ti A6 wn c6 fk fi xk xi kd bu cu pv ge ti wa wn wc zs zs _ _ W (Nat.le_refl _) (Nat.le_refl _) ((RV.out.below m).more m.size) HL.out (RW.out _ (L7.trans (m.mono L7.size))) HL.out
      rwa [show wrB fk fi xk xi kd bu cu pv ge ti zs fk fi xk xi kd bu cu pv ge ti zs = true by simp [wrB, eqD, eqO, eqB]] at h)
    have HL7 := Lib.hid L7
    have HB3 := Lib.hid hb3
    have CS := Lib.hid (fun W (m : Below W7.heap.size W7 W) => show (W.cell? ⟨w.heap.size, 0, none⟩ = some (.int .u8 fk) ∧ W.cell? ⟨w.heap.size, 1, none⟩ = some (.int .i64 fi) ∧ W.cell? ⟨w.heap.size, 2, none⟩ = some (.int .u8 xk) ∧ W.cell? ⟨w.heap.size, 3, none⟩ = some (.int .i64 xi) ∧ W.cell? ⟨w.heap.size, 4, none⟩ = some (.int .u8 kd) ∧ W.cell? ⟨w.heap.size, 5, none⟩ = some (.int .u8 bu) ∧ W.cell? ⟨w.heap.size, 6, none⟩ = some (.int .i64 cu) ∧ W.cell? ⟨w.heap.size, 7, none⟩ = some (.int .i64 pv) ∧ W.cell? ⟨w.heap.size, 8, none⟩ = some (.int .i64 ge) ∧ W.cell? ⟨w.heap.size, 9, none⟩ = some (.int .i64 ti) ∧ W.cell? ⟨w.heap.size, 10, none⟩ = some (.slice wa wn wc)) ∧ (W.cell? ⟨bv, 0, none⟩ = some (.int .u8 fk) ∧ W.cell? ⟨bv, 1, none⟩ = some (.int .i64 fi) ∧ W.cell? ⟨bv, 2, none⟩ = some (.int .u8 xk) ∧ W.cell? ⟨bv, 3, none⟩ = some (.int .i64 xi) ∧ W.cell? ⟨bv, 4, none⟩ = some (.int .u8 kd) ∧ W.cell? ⟨bv, 5, none⟩ = some (.int .u8 bu) ∧ W.cell? ⟨bv, 6, none⟩ = some (.int .i64 cu) ∧ W.cell? ⟨bv, 7, none⟩ = some (.int .i64 pv) ∧ W.cell? ⟨bv, 8, none⟩ = some (.int .i64 ge) ∧ W.cell? ⟨bv, 9, none⟩ = some (.int .i64 ti) ∧ W.cell? ⟨bv, 10, none⟩ = some (.slice A6 wn c6)) from
      ⟨wr_cells _ _ _ _ _ _ _ _ _ _ _ _ _ ((m.block _ (Array.getElem?_eq_some_iff.1 bW7).1).trans bW7), wr_cells _ _ _ _ _ _ _ _ _ _ _ _ _ ((m.block _ (Array.getElem?_eq_some_iff.1 bV).1).trans bV)⟩)
    obtain ⟨ad, hAD⟩ : ∃ ad : Option Addr, (if c3 = 36 then some (⟨b3, off3, none⟩ : Addr) else some ⟨b3, off3 + 36, none⟩) = ad := ⟨_, rfl⟩
    have RDD := Lib.hid (fun W (m : Below W7.heap.size W7 W) => show Row .u8 W.heap.size W ad zs from by
      have h := ((R7.out.below m).more m.size).dropIf 36 (c := c3 = 36) (fun h => List.eq_nil_of_length_eq_zero (by have h2 := HK.out.2.2.2.2.2.1; have h3 := HC3.out.1; simp; omega))
      rw [hAD, HK.out.2.2.2.2.2.2.1] at h
      exact h)
    have K2 := Lib.hid (fun W (m : Below W7.heap.size W7 W) => show Calls Tryd.prog 17 #[.slice ad wn (c3 - 36), .slice wa wn wc] W fun e w' => e = .returned (.bool true) ∧ W = w' from by
      have h := law7Same_any ad wn (c3 - 36) zs wa wn wc zs _ _ W (RDD.out W m) HL.out (RW.out W (HL7.out.trans (m.mono HL7.out.size))) HL.out
      rwa [eqB_true.2 rfl] at h)
    have e3 : ((n3 : Int) != IntKind.i64.wrap (36 + (wn : Int))) = false := by
      rw [IntWalk.i64_in _ (by omega), H36.out]
      simp
    have s1 : (36 : Int) ≤ (c3 : Int) := by have := HC3.out.1; have := H36.out; omega
    have s2 : (36 : Int) ≤ (n3 : Int) := by have := H36.out; omega
    have s3 : n3 - 36 = wn := by have := H36.out; omega
    have s4 : ((n3 : Int) - 36).toNat = wn := by have := H36.out; omega
    have n0 := (Below.refl W7.heap.size W7).drew
    clear bV hb3 L7 bW7
    go_region_held3 (fun W => (W.cell? ⟨w.heap.size, 0, none⟩ = some (.int .u8 fk) ∧ W.cell? ⟨w.heap.size, 1, none⟩ = some (.int .i64 fi) ∧ W.cell? ⟨w.heap.size, 2, none⟩ = some (.int .u8 xk) ∧ W.cell? ⟨w.heap.size, 3, none⟩ = some (.int .i64 xi) ∧ W.cell? ⟨w.heap.size, 4, none⟩ = some (.int .u8 kd) ∧ W.cell? ⟨w.heap.size, 5, none⟩ = some (.int .u8 bu) ∧ W.cell? ⟨w.heap.size, 6, none⟩ = some (.int .i64 cu) ∧ W.cell? ⟨w.heap.size, 7, none⟩ = some (.int .i64 pv) ∧ W.cell? ⟨w.heap.size, 8, none⟩ = some (.int .i64 ge) ∧ W.cell? ⟨w.heap.size, 9, none⟩ = some (.int .i64 ti) ∧ W.cell? ⟨w.heap.size, 10, none⟩ = some (.slice wa wn wc)) ∧ (W.cell? ⟨bv, 0, none⟩ = some (.int .u8 fk) ∧ W.cell? ⟨bv, 1, none⟩ = some (.int .i64 fi) ∧ W.cell? ⟨bv, 2, none⟩ = some (.int .u8 xk) ∧ W.cell? ⟨bv, 3, none⟩ = some (.int .i64 xi) ∧ W.cell? ⟨bv, 4, none⟩ = some (.int .u8 kd) ∧ W.cell? ⟨bv, 5, none⟩ = some (.int .u8 bu) ∧ W.cell? ⟨bv, 6, none⟩ = some (.int .i64 cu) ∧ W.cell? ⟨bv, 7, none⟩ = some (.int .i64 pv) ∧ W.cell? ⟨bv, 8, none⟩ = some (.int .i64 ge) ∧ W.cell? ⟨bv, 9, none⟩ = some (.int .i64 ti) ∧ W.cell? ⟨bv, 10, none⟩ = some (.slice A6 wn c6))) (first | with_reducible exact CS.out _ n1 | with_reducible exact CS.out _ n0)
      (first
        | (go_at_call 18; (with_reducible refine (K1.out W7.drew n0).mono ?_); rintro e v1 ⟨rfl, j1⟩; have n1 := n0.trans (j1.mono n0.size))
        | (go_at_call 17; (with_reducible refine (K2.out v1 n1).mono ?_); rintro e v2 ⟨rfl, rfl⟩))
    obtain ⟨i0, hi, hz0, hz1, hz2⟩ := info_parts Tryd.infoU8
    obtain ⟨m', q, hq1, hq2, hq3, hq4, hq⟩ := at_mod bit 288 (by omega) (by omega)
    replace hq1 : bit.tmod 288 = m' := hq1
    replace hq4 : 0 ≤ m' + 288 ∧ (m' + 288) % 288 = (q : Int) := hq4
    have L9 := HL7.out.trans (n1.mono HL7.out.size)
    have R9 := (R7.out.below n1).more n1.size
    have hn3b : n3 ≤ 4000 := by have := H36.out; omega
    have hqp : q / 8 < n3 := by have := H36.out; omega
    have hqp2 : q / 8 < 36 := by omega
    have hlE := HK.out.2.2.2.2.2.1
    have hlE2 := Lib.hid hlE
    clear e3 s1 s2 s3 s4 hAD K1 K2 RDD CS HL7 HB3 R7 RV n1 n0 HC3 hcw hlE j1
    go_upto_region 13 with (at_builtin; refine wpList_append_row _ rfl (.tmp 98) (.tmp 99) 27 rfl v1.heap.size 5 i0 (.int .u8 0) 1 Tryd.underlying27 hi hz0 hz1 hz2 rfl _ 0 [] rfl (own_built v1 v1.heap.size (Nat.le_refl _) 5 [] 0 rfl (by unfold maxLen; omega)) .u8 _ (some ⟨b3, off3, none⟩) n3 c3 es rfl hlE2.out (R9.allocS _) (fun h => by cases h) (by unfold maxLen; omega) (by omega) (by simp) ?_; intro v5 w5 O5 g5; simp only [Nat.zero_add, List.nil_append] at O5; have M5 := ((Below.refl v1.heap.size v1).alloc (Nat.le_refl _) (.cells #[] 5)).grown g5 (by simp) (fun j hj => by cases hj; exact Nat.le_refl _); obtain ⟨g, cp, rfl, hg⟩ := own_form O5 (by omega))
    have hv1 := own_cell O5 (q / 8) (by omega)
    have hw1 := O5.frozenAt (q / 8)
    have hvb := getD_in HK.out.2.2.2.2.2.2.2 (by decide) (q / 8)
    go_upto_region 14 with (fail)
    have hxb := xor_u8_bit (es[q / 8]?.getD 0) hvb.1 hvb.2 (q % 8) (by omega)
    have hpw : 1 ≤ 2 ^ (q % 8) := Nat.one_le_two_pow
    generalize bits .xor .u8 (es[q / 8]?.getD 0) ((2 : Int) ^ (q % 8) % 256) = V at *
    have O6 := own_store O5 (q / 8) V
    have M6 := M5.setCell (p := ⟨g, q / 8, none⟩) hg (.int .u8 V)
    have L6 := L9.trans (M6.mono L9.size)
    have C6 := own_cap O6
    have R6 := Row.of_own O6 (in_wf8 (in_set HK.out.2.2.2.2.2.2.2 (q / 8) V hxb.2))
    have hln6 : (es.set (q / 8) V).length = n3 := by rw [List.length_set, hlE2.out]
    have hno : etOk (es.set (q / 8) V) = false := HBY.out (q / 8) hqp2 V hxb.2 (by
      intro h
      rw [← h] at hxb
      rcases hxb.1 with h2 | h2 <;> omega)
    generalize w5.setCell ⟨g, q / 8, none⟩ (.int .u8 V) = w6 at *
    have KT := Lib.hid (show Calls Tryd.prog 15 #[.slice (some ⟨g, 0, none⟩) n3 cp] w6 fun e w' => e = .returned (.tuple #[.agg #[.int .u8 0, .int .i64 0, .int .u8 0, .int .i64 0, .int .u8 0, .int .u8 0, .int .i64 0, .int .i64 0, .int .i64 0, .int .i64 0, .slice none 0 0], .int .u8 13]) ∧ Below w6.heap.size w6 w' from by
      refine (eTake_any (some ⟨g, 0, none⟩) n3 cp (es.set (q / 8) V) hln6 C6.1 C6.2 (by omega) w6 (TT.out _ L6).2 (TT.out _ L6).1 R6).mono ?_
      rintro e w7 (⟨_, rfl, m7⟩ | ⟨h0, _⟩)
      · exact ⟨rfl, m7⟩
      · rw [hno] at h0
        cases h0)
    clear hv1 hw1 O5 M5 g5 R9 L9 M6 hvb hxb hpw hq1 hq2 hq3 hq4 hq hqp hqp2 O6 hno hln6 R6 C6 hn3b
    go_wp2_with (fail)
    refine KT.out.mono ?_
    rintro e w7 ⟨rfl, m7⟩
    have L7 := L6.trans (m7.mono L6.size)
    have B8 := heap_alloc_new w7 (.cells #[.int .u8 0, .int .i64 0, .int .u8 0, .int .i64 0, .int .u8 0, .int .u8 0, .int .i64 0, .int .i64 0, .int .i64 0, .int .i64 0, .slice none 0 0] 29)
    have L8 := L7.alloc L7.size (.cells #[.int .u8 0, .int .i64 0, .int .u8 0, .int .i64 0, .int .u8 0, .int .u8 0, .int .i64 0, .int .i64 0, .int .i64 0, .int .i64 0, .slice none 0 0] 29)
    clear L6 L7 m7 KT
    go_upto_region 15 with (fail)
    generalize w7.alloc (.cells #[.int .u8 0, .int .i64 0, .int .u8 0, .int .i64 0, .int .u8 0, .int .u8 0, .int .i64 0, .int .i64 0, .int .i64 0, .int .i64 0, .slice none 0 0] 29) = w8 at *
    obtain ⟨z0, z1, z2, z3, z4, z5, z6, z7, z8, z9, z10⟩ := wr_cells _ _ _ _ _ _ _ _ _ _ _ _ _ B8
    clear B8
    go_wp2_with (first
      | (go_at_call 18; (with_reducible refine (ez_same w8).mono ?_); rintro e w9 ⟨rfl, k9⟩; have L9 := L8.trans (k9.mono L8.size))
      | (go_at_call 8; (with_reducible refine (TW.out _ L9).mono ?_); rintro e w10 ⟨rfl, k10⟩; have L10 := L9.trans (k10.mono L9.size)))
    go_ret
    exact ⟨rfl, L10⟩
  · have hy : enY fk fi xk xi kd bu cu pv ge ti zs.length = 13 := by unfold enY; rw [if_neg hok]
    have hz : enZ fk fi xk xi kd bu cu pv ge ti zs = [] := by unfold enZ; rw [hy]; rfl
    rw [hy]
    rw [hz] at hz3
    have hn0 : n3 = 0 := by simpa using hz3.symm
    subst hn0
    have hcs : isNod (fk, fi) = false ∨ (isNod (fk, fi) = true ∧ isNod (xk, xi) = false) ∨ (isNod (fk, fi) = true ∧ isNod (xk, xi) = true ∧ optOk kd bu cu pv ge ti = false) := by
      cases h1 : isNod (fk, fi)
      · exact .inl rfl
      · cases h2 : isNod (xk, xi)
        · exact .inr (.inl ⟨rfl, rfl⟩)
        · cases h3 : optOk kd bu cu pv ge ti
          · exact .inr (.inr ⟨rfl, rfl, rfl⟩)
          · exact absurd (enOk_iff.2 ⟨h1, h2, h3⟩) hok
    have HL3 := Lib.hid L3
    clear hy hz hz3 R3 hok bW3 L3
    rcases hcs with h1 | ⟨h1, h2⟩ | ⟨h1, h2, h3⟩
    · rw [h1]
      clear h1
      go_wp2_with (go_at_call 8; (with_reducible refine (TW.out _ HL3.out).mono ?_); rintro e w6 ⟨rfl, m6⟩)
      go_ret
      exact ⟨rfl, HL3.out.trans (m6.mono HL3.out.size)⟩
    · rw [h1, h2]
      clear h1 h2
      go_wp2_with (go_at_call 8; (with_reducible refine (TW.out _ HL3.out).mono ?_); rintro e w6 ⟨rfl, m6⟩)
      go_ret
      exact ⟨rfl, HL3.out.trans (m6.mono HL3.out.size)⟩
    · rw [h1, h2]
      have KR2 := Lib.hid (fun W => show Calls Tryd.prog 24 #[.agg #[.int .u8 kd, .int .u8 bu, .int .i64 cu, .int .i64 pv, .int .i64 ge, .int .i64 ti]] W fun e w' => e = .returned (.bool false) ∧ Below W.heap.size W w' from by
        have h := KR.out W
        rwa [h3] at h)
      clear h1 h2 h3
      go_wp2_with (first
        | (go_at_call 24; (with_reducible refine (KR2.out _).mono ?_); rintro e w5 ⟨rfl, m5⟩; have L5 := HL3.out.trans (m5.mono HL3.out.size))
        | (go_at_call 8; (with_reducible refine (TW.out _ L5).mono ?_); rintro e w6 ⟨rfl, m6⟩))
      go_ret
      exact ⟨rfl, L5.trans (m6.mono L5.size)⟩
end Go.Proofs.YthenbpnlmpeafaaDoor
