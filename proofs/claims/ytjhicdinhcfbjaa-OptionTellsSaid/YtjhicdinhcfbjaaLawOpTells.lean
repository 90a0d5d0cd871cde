/- 'handfastlaw06.OptionTells' returns true at every option, entry, numbers and bytes, and leaves what lay as it lay. -/
import Derived.Test.YtjhicdinhcfbjaaOpW
import Derived.Test.YtjhicdinhcfbjaaOpL
import Derived.Test.YtjhicdinhcfbjaaOpEq
namespace Go.Proofs.Ytjhicdinhcfbjaa
open Go.RowKit Go.Shelf
open SumM

/-- What Put tells. -/
def opZ (kd bu cu pv ge ti : Int) : List Int := if optOk kd bu cu pv ge ti = true then optB kd bu cu pv ge ti else []
def opY (kd bu cu pv ge ti : Int) : Int := if optOk kd bu cu pv ge ti = true then 0 else 2
def OPutAs (kd bu cu pv ge ti : Int) (w : World) (e : Ending) (w' : World) : Prop :=
  ∃ A n c, e = .returned (.tuple #[.slice A n c, .int .i64 (opY kd bu cu pv ge ti)]) ∧ (opZ kd bu cu pv ge ti).length = n ∧ Row .u8 w'.heap.size w' A (opZ kd bu cu pv ge ti) ∧ Below w.heap.size w w'
theorem oPut_as (kd bu cu pv ge ti : Int) (H : ONums kd bu cu pv ge ti) (w : World) : Calls Try.prog 9 #[.agg #[.int .u8 kd, .int .u8 bu, .int .i64 cu, .int .i64 pv, .int .i64 ge, .int .i64 ti]] w (OPutAs kd bu cu pv ge ti w) := by
  by_cases hok : optOk kd bu cu pv ge ti = true
  · refine (oPut_yes kd bu cu pv ge ti H hok w).mono ?_
    rintro e w' ⟨A, c, rfl, _, _, h3, h4⟩
    exact ⟨A, 16, c, by unfold opY; rw [if_pos hok], by unfold opZ; rw [if_pos hok]; rfl, by unfold opZ; rw [if_pos hok]; exact h3, h4⟩
  · refine (oPut_no kd bu cu pv ge ti H (by simpa using hok) w).mono ?_
    rintro e w' ⟨A, c, rfl, h4⟩
    exact ⟨A, 0, c, by unfold opY; rw [if_neg hok], by unfold opZ; rw [if_neg hok]; rfl, by unfold opZ; rw [if_neg hok]; exact Row.nil _ _ _ _, h4⟩
theorem refOPut_as (kd bu cu pv ge ti : Int) (H : ONums kd bu cu pv ge ti) (w : World) : Calls Try.prog 10 #[.agg #[.int .u8 kd, .int .u8 bu, .int .i64 cu, .int .i64 pv, .int .i64 ge, .int .i64 ti]] w (OPutAs kd bu cu pv ge ti w) := by
  by_cases hok : optOk kd bu cu pv ge ti = true
  · refine (refOPut_yes kd bu cu pv ge ti H.h1 H.h2 hok w).mono ?_
    rintro e w' ⟨g, c, rfl, h3, h4⟩
    exact ⟨_, 16, c, by unfold opY; rw [if_pos hok], by unfold opZ; rw [if_pos hok]; rfl, by unfold opZ; rw [if_pos hok]; exact Row.of_own h3 (in_wf8 (optB_in H.h1 H.h2)), h4⟩
  · refine (refOPut_no kd bu cu pv ge ti (by simpa using hok) w).mono ?_
    rintro e w' ⟨rfl, h4⟩
    exact ⟨none, 0, 0, by unfold opY; rw [if_neg hok], by unfold opZ; rw [if_neg hok]; rfl, by unfold opZ; rw [if_neg hok]; exact Row.nil _ _ _ _, h4⟩
theorem run_sameO (kd bu cu pv ge ti : Int) (W : World) : (Go.binOp .eql 23 (.agg #[.int .u8 kd, .int .u8 bu, .int .i64 cu, .int .i64 pv, .int .i64 ge, .int .i64 ti]) (.agg #[.int .u8 kd, .int .u8 bu, .int .i64 cu, .int .i64 pv, .int .i64 ge, .int .i64 ti])).run Try.prog W = .ok (.bool true) W := by
  rw [run_eqO, show eqO kd bu cu pv ge ti kd bu cu pv ge ti = true from decide_eq_true ⟨rfl, rfl, rfl, rfl, rfl, rfl⟩]

set_option maxRecDepth 100000 in
set_option maxHeartbeats 16000000 in
theorem oTells_walk (kd bu cu pv ge ti : Int) (ec ep eg et : Int) (kk bk gg : Int) (a1 : Option Addr) (len1 cap1 : Nat) (z1 : List Int) (w : World) (H : ONums kd bu cu pv ge ti) (HE0 : ONums 0 0 ec ep eg et) (hk0 : (Lit.int .u8 kk).wf = true) (_ : (Lit.int .i64 bk).wf = true) (hg0 : (Lit.int .i64 gg).wf = true) (w1 : IsRow .u8 w a1 len1 cap1 z1) :
    Calls Try.prog 3 #[.agg #[.int .u8 kd, .int .u8 bu, .int .i64 cu, .int .i64 pv, .int .i64 ge, .int .i64 ti], .agg #[.int .i64 ec, .int .i64 ep, .int .i64 eg, .int .i64 et], .int .u8 kk, .int .i64 bk, .int .i64 gg, .slice a1 len1 cap1] w fun e w' => e = .returned (.bool true) ∧ Below w.heap.size w w' := by
  obtain ⟨hrz, hzl, _, hlz, hmz⟩ := w1.row
  generalize z1.take len1 = bs at *
  unfold maxLen at hmz
  have hk := wf_u8.1 hk0
  have hg := wf_i64.1 hg0
  have bE := heap_alloc_new (w.alloc (.cells #[.int .u8 kd, .int .u8 bu, .int .i64 cu, .int .i64 pv, .int .i64 ge, .int .i64 ti] 23)) (.cells #[.int .i64 ec, .int .i64 ep, .int .i64 eg, .int .i64 et] 25)
  have bO := (Below.heap_alloc (w.alloc (.cells #[.int .u8 kd, .int .u8 bu, .int .i64 cu, .int .i64 pv, .int .i64 ge, .int .i64 ti] 23)) (.cells #[.int .i64 ec, .int .i64 ep, .int .i64 eg, .int .i64 et] 25) w.heap.size (by simp)).trans (heap_alloc_new w (.cells #[.int .u8 kd, .int .u8 bu, .int .i64 cu, .int .i64 pv, .int .i64 ge, .int .i64 ti] 23))
  rw [World.size_alloc] at bE
  have L0 := ((Below.refl w.heap.size w).alloc (Nat.le_refl _) (.cells #[.int .u8 kd, .int .u8 bu, .int .i64 cu, .int .i64 pv, .int .i64 ge, .int .i64 ti] 23)).alloc (by simp) (.cells #[.int .i64 ec, .int .i64 ep, .int .i64 eg, .int .i64 et] 25)
  have HH := Lib.hid (And.intro H (And.intro HE0 (And.intro hk hg)))
  have HL := Lib.hid hzl
  have HLC := Lib.hid (And.intro hlz (show cap1 ≤ 9223372036854775807 by omega))
  have RB := Lib.hid (fun W (m : Below w.heap.size w W) => (hrz.below m).more m.size)
  have TW := Lib.hid (fun W => owakes_any W)
  clear hrz hzl hmz w1 H HE0 hk0 hg0 hk hg
  by_cases hbig : 100 < len1
  · have p1 : decide ((100 : Int) < (len1 : Int)) = true := decide_eq_true (by omega)
    clear bO bE hbig
    go_enter Try.func3, Try.ntmps3
    go_upto_region 1 with (fail)
    generalize ((w.alloc (.cells #[.int .u8 kd, .int .u8 bu, .int .i64 cu, .int .i64 pv, .int .i64 ge, .int .i64 ti] 23)).alloc (.cells #[.int .i64 ec, .int .i64 ep, .int .i64 eg, .int .i64 et] 25)) = W0 at *
    go_wp2_with (go_at_call 8; (with_reducible refine (TW.out _).mono ?_); rintro e w3 ⟨rfl, m3⟩)
    go_ret
    exact ⟨rfl, L0.trans (m3.mono L0.size)⟩
  have p1 : decide ((100 : Int) < (len1 : Int)) = false := decide_eq_false (by omega)
  clear hbig hlz
  obtain ⟨pz, hpz⟩ : ∃ z, opZ kd bu cu pv ge ti = z := ⟨_, rfl⟩
  obtain ⟨py, hpy⟩ : ∃ z, opY kd bu cu pv ge ti = z := ⟨_, rfl⟩
  obtain ⟨y1, hy1⟩ : ∃ y, otY bs = y := ⟨_, rfl⟩
  obtain ⟨⟨f0, f1, f2, f3, f4, f5⟩, hf1⟩ : ∃ f, otF bs = f := ⟨_, rfl⟩
  obtain ⟨y2, hy2⟩ : ∃ y, ofY kk bk ec ep eg et = y := ⟨_, rfl⟩
  obtain ⟨⟨g0, g1, g2, g3, g4, g5⟩, hf2⟩ : ∃ f, ofV kk bk ec ep eg et = f := ⟨_, rfl⟩
  obtain ⟨y3, hy3⟩ : ∃ y, tuY bu cu pv ti kk gg = y := ⟨_, rfl⟩
  obtain ⟨⟨h0, h1, h2, h3, h4, h5⟩, hf3⟩ : ∃ f, tuV bu cu pv ti kk gg = f := ⟨_, rfl⟩
  obtain ⟨ok, hokd⟩ : ∃ b, optOk kd bu cu pv ge ti = b := ⟨_, rfl⟩
  have KP := Lib.hid (fun W => show Calls Try.prog 9 #[.agg #[.int .u8 kd, .int .u8 bu, .int .i64 cu, .int .i64 pv, .int .i64 ge, .int .i64 ti]] W fun e w' => ∃ A n c, e = .returned (.tuple #[.slice A n c, .int .i64 py]) ∧ pz.length = n ∧ Row .u8 w'.heap.size w' A pz ∧ Below W.heap.size W w' from by
    have h := oPut_as kd bu cu pv ge ti HH.out.1 W
    unfold OPutAs at h
    rwa [hpz, hpy] at h)
  have KQ := Lib.hid (fun W => show Calls Try.prog 10 #[.agg #[.int .u8 kd, .int .u8 bu, .int .i64 cu, .int .i64 pv, .int .i64 ge, .int .i64 ti]] W fun e w' => ∃ A n c, e = .returned (.tuple #[.slice A n c, .int .i64 py]) ∧ pz.length = n ∧ Row .u8 w'.heap.size w' A pz ∧ Below W.heap.size W w' from by
    have h := refOPut_as kd bu cu pv ge ti HH.out.1 W
    unfold OPutAs at h
    rwa [hpz, hpy] at h)
  have KT := Lib.hid (fun W (m : Below w.heap.size w W) => show Calls Try.prog 11 #[.slice a1 len1 cap1] W fun e w' => e = .returned (.tuple #[.agg #[.int .u8 f0, .int .u8 f1, .int .i64 f2, .int .i64 f3, .int .i64 f4, .int .i64 f5], .int .i64 y1]) ∧ Below W.heap.size W w' from by
    have h := oTake_any a1 len1 cap1 bs HL.out HLC.out.1 HLC.out.2 W (RB.out W m)
    unfold OTakeRet at h
    rwa [hf1, hy1] at h)
  have KU := Lib.hid (fun W (m : Below w.heap.size w W) => show Calls Try.prog 12 #[.slice a1 len1 cap1] W fun e w' => e = .returned (.tuple #[.agg #[.int .u8 f0, .int .u8 f1, .int .i64 f2, .int .i64 f3, .int .i64 f4, .int .i64 f5], .int .i64 y1]) ∧ Below W.heap.size W w' from by
    have h := refOTake_any a1 len1 cap1 bs HL.out HLC.out.1 W (RB.out W m)
    unfold OTakeRet at h
    rwa [hf1, hy1] at h)
  have KO := Lib.hid (fun W => show Calls Try.prog 13 #[.int .u8 kk, .int .i64 bk, .agg #[.int .i64 ec, .int .i64 ep, .int .i64 eg, .int .i64 et]] W fun e w' => e = .returned (.tuple #[.agg #[.int .u8 g0, .int .u8 g1, .int .i64 g2, .int .i64 g3, .int .i64 g4, .int .i64 g5], .int .i64 y2]) ∧ Below W.heap.size W w' from by
    have h := oOf_any kk bk ec ep eg et HH.out.2.2.1 HH.out.2.1 W
    rwa [hf2, hy2] at h)
  have KO2 := Lib.hid (fun W => show Calls Try.prog 14 #[.int .u8 kk, .int .i64 bk, .agg #[.int .i64 ec, .int .i64 ep, .int .i64 eg, .int .i64 et]] W fun e w' => e = .returned (.tuple #[.agg #[.int .u8 g0, .int .u8 g1, .int .i64 g2, .int .i64 g3, .int .i64 g4, .int .i64 g5], .int .i64 y2]) ∧ Below W.heap.size W w' from by
    have h := refOOf_any kk bk ec ep eg et W
    rwa [hf2, hy2] at h)
  have KV := Lib.hid (fun W => show Calls Try.prog 15 #[.agg #[.int .u8 kd, .int .u8 bu, .int .i64 cu, .int .i64 pv, .int .i64 ge, .int .i64 ti], .int .u8 kk, .int .i64 gg] W fun e w' => e = .returned (.tuple #[.agg #[.int .u8 h0, .int .u8 h1, .int .i64 h2, .int .i64 h3, .int .i64 h4, .int .i64 h5], .int .i64 y3]) ∧ Below W.heap.size W w' from by
    have h := oTurned_any kd bu cu pv ge ti kk gg HH.out.1 HH.out.2.2.1 W
    rwa [hf3, hy3] at h)
  have KV2 := Lib.hid (fun W => show Calls Try.prog 16 #[.agg #[.int .u8 kd, .int .u8 bu, .int .i64 cu, .int .i64 pv, .int .i64 ge, .int .i64 ti], .int .u8 kk, .int .i64 gg] W fun e w' => e = .returned (.tuple #[.agg #[.int .u8 h0, .int .u8 h1, .int .i64 h2, .int .i64 h3, .int .i64 h4, .int .i64 h5], .int .i64 y3]) ∧ Below W.heap.size W w' from by
    have h := refOTurned_any kd bu cu pv ge ti kk gg W
    rwa [hf3, hy3] at h)
  have KR := Lib.hid (fun W => show Calls Try.prog 17 #[.agg #[.int .u8 kd, .int .u8 bu, .int .i64 cu, .int .i64 pv, .int .i64 ge, .int .i64 ti]] W fun e w' => e = .returned (.bool ok) ∧ Below W.heap.size W w' from by
    have h := oRight_any kd bu cu pv ge ti HH.out.1 W
    rwa [hokd] at h)
  have KR2 := Lib.hid (fun W => show Calls Try.prog 18 #[.agg #[.int .u8 kd, .int .u8 bu, .int .i64 cu, .int .i64 pv, .int .i64 ge, .int .i64 ti]] W fun e w' => e = .returned (.bool ok) ∧ Below W.heap.size W w' from by
    have h := refORight_any kd bu cu pv ge ti W
    rwa [hokd] at h)
  clear hpz hpy hy1 hf1 hy2 hf2 hy3 hf3 hokd
  obtain ⟨q0, q1, q2, q3, q4, q5⟩ := o_cells _ _ _ _ _ _ bO
  go_enter Try.func3, Try.ntmps3
  go_upto_region 1 with (fail)
  generalize ((w.alloc (.cells #[.int .u8 kd, .int .u8 bu, .int .i64 cu, .int .i64 pv, .int .i64 ge, .int .i64 ti] 23)).alloc (.cells #[.int .i64 ec, .int .i64 ep, .int .i64 eg, .int .i64 et] 25)) = W0 at *
  go_wp2_with (fail)
  refine (KP.out W0).mono ?_
  rintro e w1 ⟨A1, n1, c1, rfl, hl1, R1, m1⟩
  have L_w1 := L0.trans (m1.mono L0.size)
  have bO_w1 := (m1.block _ (Array.getElem?_eq_some_iff.1 bO).1).trans bO
  clear bO
  have bE_w1 := (m1.block _ (Array.getElem?_eq_some_iff.1 bE).1).trans bE
  clear bE
  clear L0 m1
  have RP := Lib.hid R1
  have HL1 := Lib.hid hl1
  clear q0 q1 q2 q3 q4 q5 R1 hl1
  obtain ⟨q0, q1, q2, q3, q4, q5⟩ := o_cells _ _ _ _ _ _ bO_w1
  go_wp2_with (fail)
  refine (KQ.out w1).mono ?_
  rintro e w2 ⟨A2, n2, c2, rfl, hl2, R2, m2⟩
  have L_w2 := L_w1.trans (m2.mono L_w1.size)
  have bO_w2 := (m2.block _ (Array.getElem?_eq_some_iff.1 bO_w1).1).trans bO_w1
  clear bO_w1
  have bE_w2 := (m2.block _ (Array.getElem?_eq_some_iff.1 bE_w1).1).trans bE_w1
  clear bE_w1
  replace RP := Lib.hid ((RP.out.below m2).more m2.size)
  clear L_w1 m2
  have RQ := Lib.hid R2
  have HL2 := Lib.hid hl2
  clear q0 q1 q2 q3 q4 q5 R2 hl2
  go_wp2_with (fail)
  refine (KT.out w2 L_w2).mono ?_
  rintro e w3 ⟨rfl, m3⟩
  have L_w3 := L_w2.trans (m3.mono L_w2.size)
  have bO_w3 := (m3.block _ (Array.getElem?_eq_some_iff.1 bO_w2).1).trans bO_w2
  clear bO_w2
  have bE_w3 := (m3.block _ (Array.getElem?_eq_some_iff.1 bE_w2).1).trans bE_w2
  clear bE_w2
  replace RP := Lib.hid ((RP.out.below m3).more m3.size)
  replace RQ := Lib.hid ((RQ.out.below m3).more m3.size)
  clear L_w2 m3
  go_upto_region 6 with (fail)
  have bS := heap_alloc_new w3 (.cells #[.int .u8 f0, .int .u8 f1, .int .i64 f2, .int .i64 f3, .int .i64 f4, .int .i64 f5] 23)
  have L_W4 := L_w3.alloc L_w3.size (.cells #[.int .u8 f0, .int .u8 f1, .int .i64 f2, .int .i64 f3, .int .i64 f4, .int .i64 f5] 23)
  have bO_W4 := (Below.heap_alloc w3 (.cells #[.int .u8 f0, .int .u8 f1, .int .i64 f2, .int .i64 f3, .int .i64 f4, .int .i64 f5] 23) _ (Array.getElem?_eq_some_iff.1 bO_w3).1).trans bO_w3
  clear bO_w3
  have bE_W4 := (Below.heap_alloc w3 (.cells #[.int .u8 f0, .int .u8 f1, .int .i64 f2, .int .i64 f3, .int .i64 f4, .int .i64 f5] 23) _ (Array.getElem?_eq_some_iff.1 bE_w3).1).trans bE_w3
  clear bE_w3
  replace RP := Lib.hid (RP.out.allocS (.cells #[.int .u8 f0, .int .u8 f1, .int .i64 f2, .int .i64 f3, .int .i64 f4, .int .i64 f5] 23))
  replace RQ := Lib.hid (RQ.out.allocS (.cells #[.int .u8 f0, .int .u8 f1, .int .i64 f2, .int .i64 f3, .int .i64 f4, .int .i64 f5] 23))
  clear L_w3
  generalize w3.alloc (.cells #[.int .u8 f0, .int .u8 f1, .int .i64 f2, .int .i64 f3, .int .i64 f4, .int .i64 f5] 23) = W4 at *
  generalize w3.heap.size = aS at *
  go_wp2_with (fail)
  refine (KU.out W4 L_W4).mono ?_
  rintro e w5 ⟨rfl, m5⟩
  have L_w5 := L_W4.trans (m5.mono L_W4.size)
  have bO_w5 := (m5.block _ (Array.getElem?_eq_some_iff.1 bO_W4).1).trans bO_W4
  clear bO_W4
  have bE_w5 := (m5.block _ (Array.getElem?_eq_some_iff.1 bE_W4).1).trans bE_W4
  clear bE_W4
  have bS_w5 := (m5.block _ (Array.getElem?_eq_some_iff.1 bS).1).trans bS
  clear bS
  replace RP := Lib.hid ((RP.out.below m5).more m5.size)
  replace RQ := Lib.hid ((RQ.out.below m5).more m5.size)
  clear L_W4 m5
  go_upto_region 7 with (fail)
  have bT := heap_alloc_new w5 (.cells #[.int .u8 f0, .int .u8 f1, .int .i64 f2, .int .i64 f3, .int .i64 f4, .int .i64 f5] 23)
  have L_W6 := L_w5.alloc L_w5.size (.cells #[.int .u8 f0, .int .u8 f1, .int .i64 f2, .int .i64 f3, .int .i64 f4, .int .i64 f5] 23)
  have bO_W6 := (Below.heap_alloc w5 (.cells #[.int .u8 f0, .int .u8 f1, .int .i64 f2, .int .i64 f3, .int .i64 f4, .int .i64 f5] 23) _ (Array.getElem?_eq_some_iff.1 bO_w5).1).trans bO_w5
  clear bO_w5
  have bE_W6 := (Below.heap_alloc w5 (.cells #[.int .u8 f0, .int .u8 f1, .int .i64 f2, .int .i64 f3, .int .i64 f4, .int .i64 f5] 23) _ (Array.getElem?_eq_some_iff.1 bE_w5).1).trans bE_w5
  clear bE_w5
  have bS_W6 := (Below.heap_alloc w5 (.cells #[.int .u8 f0, .int .u8 f1, .int .i64 f2, .int .i64 f3, .int .i64 f4, .int .i64 f5] 23) _ (Array.getElem?_eq_some_iff.1 bS_w5).1).trans bS_w5
  clear bS_w5
  replace RP := Lib.hid (RP.out.allocS (.cells #[.int .u8 f0, .int .u8 f1, .int .i64 f2, .int .i64 f3, .int .i64 f4, .int .i64 f5] 23))
  replace RQ := Lib.hid (RQ.out.allocS (.cells #[.int .u8 f0, .int .u8 f1, .int .i64 f2, .int .i64 f3, .int .i64 f4, .int .i64 f5] 23))
  clear L_w5
  generalize w5.alloc (.cells #[.int .u8 f0, .int .u8 f1, .int .i64 f2, .int .i64 f3, .int .i64 f4, .int .i64 f5] 23) = W6 at *
  generalize w5.heap.size = aT at *
  obtain ⟨x0, x1, x2, x3⟩ := e_cells _ _ _ _ bE_W6
  go_wp2_with (fail)
  refine (KO.out W6).mono ?_
  rintro e w7 ⟨rfl, m7⟩
  have L_w7 := L_W6.trans (m7.mono L_W6.size)
  have bO_w7 := (m7.block _ (Array.getElem?_eq_some_iff.1 bO_W6).1).trans bO_W6
  clear bO_W6
  have bE_w7 := (m7.block _ (Array.getElem?_eq_some_iff.1 bE_W6).1).trans bE_W6
  clear bE_W6
  have bS_w7 := (m7.block _ (Array.getElem?_eq_some_iff.1 bS_W6).1).trans bS_W6
  clear bS_W6
  have bT_w7 := (m7.block _ (Array.getElem?_eq_some_iff.1 bT).1).trans bT
  clear bT
  replace RP := Lib.hid ((RP.out.below m7).more m7.size)
  replace RQ := Lib.hid ((RQ.out.below m7).more m7.size)
  clear L_W6 m7
  clear x0 x1 x2 x3
  go_upto_region 8 with (fail)
  have bU := heap_alloc_new w7 (.cells #[.int .u8 g0, .int .u8 g1, .int .i64 g2, .int .i64 g3, .int .i64 g4, .int .i64 g5] 23)
  have L_W8 := L_w7.alloc L_w7.size (.cells #[.int .u8 g0, .int .u8 g1, .int .i64 g2, .int .i64 g3, .int .i64 g4, .int .i64 g5] 23)
  have bO_W8 := (Below.heap_alloc w7 (.cells #[.int .u8 g0, .int .u8 g1, .int .i64 g2, .int .i64 g3, .int .i64 g4, .int .i64 g5] 23) _ (Array.getElem?_eq_some_iff.1 bO_w7).1).trans bO_w7
  clear bO_w7
  have bE_W8 := (Below.heap_alloc w7 (.cells #[.int .u8 g0, .int .u8 g1, .int .i64 g2, .int .i64 g3, .int .i64 g4, .int .i64 g5] 23) _ (Array.getElem?_eq_some_iff.1 bE_w7).1).trans bE_w7
  clear bE_w7
  have bS_W8 := (Below.heap_alloc w7 (.cells #[.int .u8 g0, .int .u8 g1, .int .i64 g2, .int .i64 g3, .int .i64 g4, .int .i64 g5] 23) _ (Array.getElem?_eq_some_iff.1 bS_w7).1).trans bS_w7
  clear bS_w7
  have bT_W8 := (Below.heap_alloc w7 (.cells #[.int .u8 g0, .int .u8 g1, .int .i64 g2, .int .i64 g3, .int .i64 g4, .int .i64 g5] 23) _ (Array.getElem?_eq_some_iff.1 bT_w7).1).trans bT_w7
  clear bT_w7
  replace RP := Lib.hid (RP.out.allocS (.cells #[.int .u8 g0, .int .u8 g1, .int .i64 g2, .int .i64 g3, .int .i64 g4, .int .i64 g5] 23))
  replace RQ := Lib.hid (RQ.out.allocS (.cells #[.int .u8 g0, .int .u8 g1, .int .i64 g2, .int .i64 g3, .int .i64 g4, .int .i64 g5] 23))
  clear L_w7
  generalize w7.alloc (.cells #[.int .u8 g0, .int .u8 g1, .int .i64 g2, .int .i64 g3, .int .i64 g4, .int .i64 g5] 23) = W8 at *
  generalize w7.heap.size = aU at *
  obtain ⟨x0, x1, x2, x3⟩ := e_cells _ _ _ _ bE_W8
  go_wp2_with (fail)
  refine (KO2.out W8).mono ?_
  rintro e w9 ⟨rfl, m9⟩
  have L_w9 := L_W8.trans (m9.mono L_W8.size)
  have bO_w9 := (m9.block _ (Array.getElem?_eq_some_iff.1 bO_W8).1).trans bO_W8
  clear bO_W8
  have bE_w9 := (m9.block _ (Array.getElem?_eq_some_iff.1 bE_W8).1).trans bE_W8
  clear bE_W8
  have bS_w9 := (m9.block _ (Array.getElem?_eq_some_iff.1 bS_W8).1).trans bS_W8
  clear bS_W8
  have bT_w9 := (m9.block _ (Array.getElem?_eq_some_iff.1 bT_W8).1).trans bT_W8
  clear bT_W8
  have bU_w9 := (m9.block _ (Array.getElem?_eq_some_iff.1 bU).1).trans bU
  clear bU
  replace RP := Lib.hid ((RP.out.below m9).more m9.size)
  replace RQ := Lib.hid ((RQ.out.below m9).more m9.size)
  clear L_W8 m9
  clear x0 x1 x2 x3
  go_upto_region 9 with (fail)
  have bV := heap_alloc_new w9 (.cells #[.int .u8 g0, .int .u8 g1, .int .i64 g2, .int .i64 g3, .int .i64 g4, .int .i64 g5] 23)
  have L_W10 := L_w9.alloc L_w9.size (.cells #[.int .u8 g0, .int .u8 g1, .int .i64 g2, .int .i64 g3, .int .i64 g4, .int .i64 g5] 23)
  have bO_W10 := (Below.heap_alloc w9 (.cells #[.int .u8 g0, .int .u8 g1, .int .i64 g2, .int .i64 g3, .int .i64 g4, .int .i64 g5] 23) _ (Array.getElem?_eq_some_iff.1 bO_w9).1).trans bO_w9
  clear bO_w9
  have bE_W10 := (Below.heap_alloc w9 (.cells #[.int .u8 g0, .int .u8 g1, .int .i64 g2, .int .i64 g3, .int .i64 g4, .int .i64 g5] 23) _ (Array.getElem?_eq_some_iff.1 bE_w9).1).trans bE_w9
  clear bE_w9
  have bS_W10 := (Below.heap_alloc w9 (.cells #[.int .u8 g0, .int .u8 g1, .int .i64 g2, .int .i64 g3, .int .i64 g4, .int .i64 g5] 23) _ (Array.getElem?_eq_some_iff.1 bS_w9).1).trans bS_w9
  clear bS_w9
  have bT_W10 := (Below.heap_alloc w9 (.cells #[.int .u8 g0, .int .u8 g1, .int .i64 g2, .int .i64 g3, .int .i64 g4, .int .i64 g5] 23) _ (Array.getElem?_eq_some_iff.1 bT_w9).1).trans bT_w9
  clear bT_w9
  have bU_W10 := (Below.heap_alloc w9 (.cells #[.int .u8 g0, .int .u8 g1, .int .i64 g2, .int .i64 g3, .int .i64 g4, .int .i64 g5] 23) _ (Array.getElem?_eq_some_iff.1 bU_w9).1).trans bU_w9
  clear bU_w9
  replace RP := Lib.hid (RP.out.allocS (.cells #[.int .u8 g0, .int .u8 g1, .int .i64 g2, .int .i64 g3, .int .i64 g4, .int .i64 g5] 23))
  replace RQ := Lib.hid (RQ.out.allocS (.cells #[.int .u8 g0, .int .u8 g1, .int .i64 g2, .int .i64 g3, .int .i64 g4, .int .i64 g5] 23))
  clear L_w9
  generalize w9.alloc (.cells #[.int .u8 g0, .int .u8 g1, .int .i64 g2, .int .i64 g3, .int .i64 g4, .int .i64 g5] 23) = W10 at *
  generalize w9.heap.size = aV at *
  obtain ⟨q0, q1, q2, q3, q4, q5⟩ := o_cells _ _ _ _ _ _ bO_W10
  go_wp2_with (fail)
  refine (KV.out W10).mono ?_
  rintro e w11 ⟨rfl, m11⟩
  have L_w11 := L_W10.trans (m11.mono L_W10.size)
  have bO_w11 := (m11.block _ (Array.getElem?_eq_some_iff.1 bO_W10).1).trans bO_W10
  clear bO_W10
  have bE_w11 := (m11.block _ (Array.getElem?_eq_some_iff.1 bE_W10).1).trans bE_W10
  clear bE_W10
  have bS_w11 := (m11.block _ (Array.getElem?_eq_some_iff.1 bS_W10).1).trans bS_W10
  clear bS_W10
  have bT_w11 := (m11.block _ (Array.getElem?_eq_some_iff.1 bT_W10).1).trans bT_W10
  clear bT_W10
  have bU_w11 := (m11.block _ (Array.getElem?_eq_some_iff.1 bU_W10).1).trans bU_W10
  clear bU_W10
  have bV_w11 := (m11.block _ (Array.getElem?_eq_some_iff.1 bV).1).trans bV
  clear bV
  replace RP := Lib.hid ((RP.out.below m11).more m11.size)
  replace RQ := Lib.hid ((RQ.out.below m11).more m11.size)
  clear L_W10 m11
  clear q0 q1 q2 q3 q4 q5
  go_upto_region 10 with (fail)
  have bX := heap_alloc_new w11 (.cells #[.int .u8 h0, .int .u8 h1, .int .i64 h2, .int .i64 h3, .int .i64 h4, .int .i64 h5] 23)
  have L_W12 := L_w11.alloc L_w11.size (.cells #[.int .u8 h0, .int .u8 h1, .int .i64 h2, .int .i64 h3, .int .i64 h4, .int .i64 h5] 23)
  have bO_W12 := (Below.heap_alloc w11 (.cells #[.int .u8 h0, .int .u8 h1, .int .i64 h2, .int .i64 h3, .int .i64 h4, .int .i64 h5] 23) _ (Array.getElem?_eq_some_iff.1 bO_w11).1).trans bO_w11
  clear bO_w11
  have bE_W12 := (Below.heap_alloc w11 (.cells #[.int .u8 h0, .int .u8 h1, .int .i64 h2, .int .i64 h3, .int .i64 h4, .int .i64 h5] 23) _ (Array.getElem?_eq_some_iff.1 bE_w11).1).trans bE_w11
  clear bE_w11
  have bS_W12 := (Below.heap_alloc w11 (.cells #[.int .u8 h0, .int .u8 h1, .int .i64 h2, .int .i64 h3, .int .i64 h4, .int .i64 h5] 23) _ (Array.getElem?_eq_some_iff.1 bS_w11).1).trans bS_w11
  clear bS_w11
  have bT_W12 := (Below.heap_alloc w11 (.cells #[.int .u8 h0, .int .u8 h1, .int .i64 h2, .int .i64 h3, .int .i64 h4, .int .i64 h5] 23) _ (Array.getElem?_eq_some_iff.1 bT_w11).1).trans bT_w11
  clear bT_w11
  have bU_W12 := (Below.heap_alloc w11 (.cells #[.int .u8 h0, .int .u8 h1, .int .i64 h2, .int .i64 h3, .int .i64 h4, .int .i64 h5] 23) _ (Array.getElem?_eq_some_iff.1 bU_w11).1).trans bU_w11
  clear bU_w11
  have bV_W12 := (Below.heap_alloc w11 (.cells #[.int .u8 h0, .int .u8 h1, .int .i64 h2, .int .i64 h3, .int .i64 h4, .int .i64 h5] 23) _ (Array.getElem?_eq_some_iff.1 bV_w11).1).trans bV_w11
  clear bV_w11
  replace RP := Lib.hid (RP.out.allocS (.cells #[.int .u8 h0, .int .u8 h1, .int .i64 h2, .int .i64 h3, .int .i64 h4, .int .i64 h5] 23))
  replace RQ := Lib.hid (RQ.out.allocS (.cells #[.int .u8 h0, .int .u8 h1, .int .i64 h2, .int .i64 h3, .int .i64 h4, .int .i64 h5] 23))
  clear L_w11
  generalize w11.alloc (.cells #[.int .u8 h0, .int .u8 h1, .int .i64 h2, .int .i64 h3, .int .i64 h4, .int .i64 h5] 23) = W12 at *
  generalize w11.heap.size = aX at *
  obtain ⟨q0, q1, q2, q3, q4, q5⟩ := o_cells _ _ _ _ _ _ bO_W12
  go_wp2_with (fail)
  refine (KV2.out W12).mono ?_
  rintro e w13 ⟨rfl, m13⟩
  have L_w13 := L_W12.trans (m13.mono L_W12.size)
  have bO_w13 := (m13.block _ (Array.getElem?_eq_some_iff.1 bO_W12).1).trans bO_W12
  clear bO_W12
  have bE_w13 := (m13.block _ (Array.getElem?_eq_some_iff.1 bE_W12).1).trans bE_W12
  clear bE_W12
  have bS_w13 := (m13.block _ (Array.getElem?_eq_some_iff.1 bS_W12).1).trans bS_W12
  clear bS_W12
  have bT_w13 := (m13.block _ (Array.getElem?_eq_some_iff.1 bT_W12).1).trans bT_W12
  clear bT_W12
  have bU_w13 := (m13.block _ (Array.getElem?_eq_some_iff.1 bU_W12).1).trans bU_W12
  clear bU_W12
  have bV_w13 := (m13.block _ (Array.getElem?_eq_some_iff.1 bV_W12).1).trans bV_W12
  clear bV_W12
  have bX_w13 := (m13.block _ (Array.getElem?_eq_some_iff.1 bX).1).trans bX
  clear bX
  replace RP := Lib.hid ((RP.out.below m13).more m13.size)
  replace RQ := Lib.hid ((RQ.out.below m13).more m13.size)
  clear L_W12 m13
  clear q0 q1 q2 q3 q4 q5
  go_upto_region 11 with (fail)
  have bY := heap_alloc_new w13 (.cells #[.int .u8 h0, .int .u8 h1, .int .i64 h2, .int .i64 h3, .int .i64 h4, .int .i64 h5] 23)
  have L_W14 := L_w13.alloc L_w13.size (.cells #[.int .u8 h0, .int .u8 h1, .int .i64 h2, .int .i64 h3, .int .i64 h4, .int .i64 h5] 23)
  have bO_W14 := (Below.heap_alloc w13 (.cells #[.int .u8 h0, .int .u8 h1, .int .i64 h2, .int .i64 h3, .int .i64 h4, .int .i64 h5] 23) _ (Array.getElem?_eq_some_iff.1 bO_w13).1).trans bO_w13
  clear bO_w13
  have bE_W14 := (Below.heap_alloc w13 (.cells #[.int .u8 h0, .int .u8 h1, .int .i64 h2, .int .i64 h3, .int .i64 h4, .int .i64 h5] 23) _ (Array.getElem?_eq_some_iff.1 bE_w13).1).trans bE_w13
  clear bE_w13
  have bS_W14 := (Below.heap_alloc w13 (.cells #[.int .u8 h0, .int .u8 h1, .int .i64 h2, .int .i64 h3, .int .i64 h4, .int .i64 h5] 23) _ (Array.getElem?_eq_some_iff.1 bS_w13).1).trans bS_w13
  clear bS_w13
  have bT_W14 := (Below.heap_alloc w13 (.cells #[.int .u8 h0, .int .u8 h1, .int .i64 h2, .int .i64 h3, .int .i64 h4, .int .i64 h5] 23) _ (Array.getElem?_eq_some_iff.1 bT_w13).1).trans bT_w13
  clear bT_w13
  have bU_W14 := (Below.heap_alloc w13 (.cells #[.int .u8 h0, .int .u8 h1, .int .i64 h2, .int .i64 h3, .int .i64 h4, .int .i64 h5] 23) _ (Array.getElem?_eq_some_iff.1 bU_w13).1).trans bU_w13
  clear bU_w13
  have bV_W14 := (Below.heap_alloc w13 (.cells #[.int .u8 h0, .int .u8 h1, .int .i64 h2, .int .i64 h3, .int .i64 h4, .int .i64 h5] 23) _ (Array.getElem?_eq_some_iff.1 bV_w13).1).trans bV_w13
  clear bV_w13
  have bX_W14 := (Below.heap_alloc w13 (.cells #[.int .u8 h0, .int .u8 h1, .int .i64 h2, .int .i64 h3, .int .i64 h4, .int .i64 h5] 23) _ (Array.getElem?_eq_some_iff.1 bX_w13).1).trans bX_w13
  clear bX_w13
  replace RP := Lib.hid (RP.out.allocS (.cells #[.int .u8 h0, .int .u8 h1, .int .i64 h2, .int .i64 h3, .int .i64 h4, .int .i64 h5] 23))
  replace RQ := Lib.hid (RQ.out.allocS (.cells #[.int .u8 h0, .int .u8 h1, .int .i64 h2, .int .i64 h3, .int .i64 h4, .int .i64 h5] 23))
  clear L_w13
  generalize w13.alloc (.cells #[.int .u8 h0, .int .u8 h1, .int .i64 h2, .int .i64 h3, .int .i64 h4, .int .i64 h5] 23) = W14 at *
  generalize w13.heap.size = aY at *
  obtain ⟨X, hX⟩ : ∃ X, strOfNums pz = X := ⟨_, rfl⟩
  have CS := Lib.hid (fun W (m : Below W14.heap.size W14 W) => show (convert 26 9 (.slice A1 n1 c1)).run Try.prog W = .ok (.string X) W ∧ (convert 26 9 (.slice A2 n2 c2)).run Try.prog W = .ok (.string X) W ∧ (W.cell? ⟨w.heap.size, 0, none⟩ = some (.int .u8 kd) ∧ W.cell? ⟨w.heap.size, 1, none⟩ = some (.int .u8 bu) ∧ W.cell? ⟨w.heap.size, 2, none⟩ = some (.int .i64 cu) ∧ W.cell? ⟨w.heap.size, 3, none⟩ = some (.int .i64 pv) ∧ W.cell? ⟨w.heap.size, 4, none⟩ = some (.int .i64 ge) ∧ W.cell? ⟨w.heap.size, 5, none⟩ = some (.int .i64 ti)) ∧ (W.cell? ⟨aS, 0, none⟩ = some (.int .u8 f0) ∧ W.cell? ⟨aS, 1, none⟩ = some (.int .u8 f1) ∧ W.cell? ⟨aS, 2, none⟩ = some (.int .i64 f2) ∧ W.cell? ⟨aS, 3, none⟩ = some (.int .i64 f3) ∧ W.cell? ⟨aS, 4, none⟩ = some (.int .i64 f4) ∧ W.cell? ⟨aS, 5, none⟩ = some (.int .i64 f5)) ∧ (W.cell? ⟨aT, 0, none⟩ = some (.int .u8 f0) ∧ W.cell? ⟨aT, 1, none⟩ = some (.int .u8 f1) ∧ W.cell? ⟨aT, 2, none⟩ = some (.int .i64 f2) ∧ W.cell? ⟨aT, 3, none⟩ = some (.int .i64 f3) ∧ W.cell? ⟨aT, 4, none⟩ = some (.int .i64 f4) ∧ W.cell? ⟨aT, 5, none⟩ = some (.int .i64 f5)) ∧ (W.cell? ⟨aU, 0, none⟩ = some (.int .u8 g0) ∧ W.cell? ⟨aU, 1, none⟩ = some (.int .u8 g1) ∧ W.cell? ⟨aU, 2, none⟩ = some (.int .i64 g2) ∧ W.cell? ⟨aU, 3, none⟩ = some (.int .i64 g3) ∧ W.cell? ⟨aU, 4, none⟩ = some (.int .i64 g4) ∧ W.cell? ⟨aU, 5, none⟩ = some (.int .i64 g5)) ∧ (W.cell? ⟨aV, 0, none⟩ = some (.int .u8 g0) ∧ W.cell? ⟨aV, 1, none⟩ = some (.int .u8 g1) ∧ W.cell? ⟨aV, 2, none⟩ = some (.int .i64 g2) ∧ W.cell? ⟨aV, 3, none⟩ = some (.int .i64 g3) ∧ W.cell? ⟨aV, 4, none⟩ = some (.int .i64 g4) ∧ W.cell? ⟨aV, 5, none⟩ = some (.int .i64 g5)) ∧ (W.cell? ⟨aX, 0, none⟩ = some (.int .u8 h0) ∧ W.cell? ⟨aX, 1, none⟩ = some (.int .u8 h1) ∧ W.cell? ⟨aX, 2, none⟩ = some (.int .i64 h2) ∧ W.cell? ⟨aX, 3, none⟩ = some (.int .i64 h3) ∧ W.cell? ⟨aX, 4, none⟩ = some (.int .i64 h4) ∧ W.cell? ⟨aX, 5, none⟩ = some (.int .i64 h5)) ∧ (W.cell? ⟨aY, 0, none⟩ = some (.int .u8 h0) ∧ W.cell? ⟨aY, 1, none⟩ = some (.int .u8 h1) ∧ W.cell? ⟨aY, 2, none⟩ = some (.int .i64 h2) ∧ W.cell? ⟨aY, 3, none⟩ = some (.int .i64 h3) ∧ W.cell? ⟨aY, 4, none⟩ = some (.int .i64 h4) ∧ W.cell? ⟨aY, 5, none⟩ = some (.int .i64 h5)) from by
    rw [← hX]
    exact ⟨Row.str (RP.out.below m) n1 c1 HL1.out, Row.str (RQ.out.below m) n2 c2 HL2.out, o_cells _ _ _ _ _ _ ((m.block _ (Array.getElem?_eq_some_iff.1 bO_W14).1).trans bO_W14), o_cells _ _ _ _ _ _ ((m.block _ (Array.getElem?_eq_some_iff.1 bS_W14).1).trans bS_W14), o_cells _ _ _ _ _ _ ((m.block _ (Array.getElem?_eq_some_iff.1 bT_W14).1).trans bT_W14), o_cells _ _ _ _ _ _ ((m.block _ (Array.getElem?_eq_some_iff.1 bU_W14).1).trans bU_W14), o_cells _ _ _ _ _ _ ((m.block _ (Array.getElem?_eq_some_iff.1 bV_W14).1).trans bV_W14), o_cells _ _ _ _ _ _ ((m.block _ (Array.getElem?_eq_some_iff.1 bX_W14).1).trans bX_W14), o_cells _ _ _ _ _ _ ((m.block _ (Array.getElem?_eq_some_iff.1 bY).1).trans bY)⟩)
  have e1 : (X.toList == X.toList) = true := by simp
  have e2 : (py == py) = true := by simp
  have e3 : (y1 == y1) = true := by simp
  have e4 : (y2 == y2) = true := by simp
  have e5 : (y3 == y3) = true := by simp
  have e6 : (ok == ok) = true := by simp
  have E1 := fun W => run_sameO f0 f1 f2 f3 f4 f5 W
  have E2 := fun W => run_sameO g0 g1 g2 g3 g4 g5 W
  have E3 := fun W => run_sameO h0 h1 h2 h3 h4 h5 W
  have n0 := (Below.refl W14.heap.size W14).drew
  have HLL := Lib.hid L_W14
  clear bO_W14 bE_W14 bS_W14 bT_W14 bU_W14 bV_W14 bX_W14 bY RP RQ L_W14 hX KP KQ KT KU KO KO2 KV KV2 RB
  go_region_held3 (fun W => (convert 26 9 (.slice A1 n1 c1)).run Try.prog W = .ok (.string X) W ∧ (convert 26 9 (.slice A2 n2 c2)).run Try.prog W = .ok (.string X) W ∧ (W.cell? ⟨w.heap.size, 0, none⟩ = some (.int .u8 kd) ∧ W.cell? ⟨w.heap.size, 1, none⟩ = some (.int .u8 bu) ∧ W.cell? ⟨w.heap.size, 2, none⟩ = some (.int .i64 cu) ∧ W.cell? ⟨w.heap.size, 3, none⟩ = some (.int .i64 pv) ∧ W.cell? ⟨w.heap.size, 4, none⟩ = some (.int .i64 ge) ∧ W.cell? ⟨w.heap.size, 5, none⟩ = some (.int .i64 ti)) ∧ (W.cell? ⟨aS, 0, none⟩ = some (.int .u8 f0) ∧ W.cell? ⟨aS, 1, none⟩ = some (.int .u8 f1) ∧ W.cell? ⟨aS, 2, none⟩ = some (.int .i64 f2) ∧ W.cell? ⟨aS, 3, none⟩ = some (.int .i64 f3) ∧ W.cell? ⟨aS, 4, none⟩ = some (.int .i64 f4) ∧ W.cell? ⟨aS, 5, none⟩ = some (.int .i64 f5)) ∧ (W.cell? ⟨aT, 0, none⟩ = some (.int .u8 f0) ∧ W.cell? ⟨aT, 1, none⟩ = some (.int .u8 f1) ∧ W.cell? ⟨aT, 2, none⟩ = some (.int .i64 f2) ∧ W.cell? ⟨aT, 3, none⟩ = some (.int .i64 f3) ∧ W.cell? ⟨aT, 4, none⟩ = some (.int .i64 f4) ∧ W.cell? ⟨aT, 5, none⟩ = some (.int .i64 f5)) ∧ (W.cell? ⟨aU, 0, none⟩ = some (.int .u8 g0) ∧ W.cell? ⟨aU, 1, none⟩ = some (.int .u8 g1) ∧ W.cell? ⟨aU, 2, none⟩ = some (.int .i64 g2) ∧ W.cell? ⟨aU, 3, none⟩ = some (.int .i64 g3) ∧ W.cell? ⟨aU, 4, none⟩ = some (.int .i64 g4) ∧ W.cell? ⟨aU, 5, none⟩ = some (.int .i64 g5)) ∧ (W.cell? ⟨aV, 0, none⟩ = some (.int .u8 g0) ∧ W.cell? ⟨aV, 1, none⟩ = some (.int .u8 g1) ∧ W.cell? ⟨aV, 2, none⟩ = some (.int .i64 g2) ∧ W.cell? ⟨aV, 3, none⟩ = some (.int .i64 g3) ∧ W.cell? ⟨aV, 4, none⟩ = some (.int .i64 g4) ∧ W.cell? ⟨aV, 5, none⟩ = some (.int .i64 g5)) ∧ (W.cell? ⟨aX, 0, none⟩ = some (.int .u8 h0) ∧ W.cell? ⟨aX, 1, none⟩ = some (.int .u8 h1) ∧ W.cell? ⟨aX, 2, none⟩ = some (.int .i64 h2) ∧ W.cell? ⟨aX, 3, none⟩ = some (.int .i64 h3) ∧ W.cell? ⟨aX, 4, none⟩ = some (.int .i64 h4) ∧ W.cell? ⟨aX, 5, none⟩ = some (.int .i64 h5)) ∧ (W.cell? ⟨aY, 0, none⟩ = some (.int .u8 h0) ∧ W.cell? ⟨aY, 1, none⟩ = some (.int .u8 h1) ∧ W.cell? ⟨aY, 2, none⟩ = some (.int .i64 h2) ∧ W.cell? ⟨aY, 3, none⟩ = some (.int .i64 h3) ∧ W.cell? ⟨aY, 4, none⟩ = some (.int .i64 h4) ∧ W.cell? ⟨aY, 5, none⟩ = some (.int .i64 h5)))
    (first | with_reducible exact CS.out _ n3 | with_reducible exact CS.out _ n2 | with_reducible exact CS.out _ n1 | with_reducible exact CS.out _ n0)
    (first
      | (go_at_call 17; (with_reducible refine (KR.out W14.drew).mono ?_); rintro e v1 ⟨rfl, j1⟩; have n1 := n0.trans (j1.mono n0.size))
      | (go_at_call 18; (with_reducible refine (KR2.out v1).mono ?_); rintro e v2 ⟨rfl, j2⟩; have n2 := n1.trans (j2.mono n1.size))
      | (go_at_call 8; (with_reducible refine (TW.out v2).mono ?_); rintro e v3 ⟨rfl, j3⟩; have n3 := n2.trans (j3.mono n2.size)))
  go_wp2
  go_ret
  exact ⟨rfl, HLL.out.trans (n3.mono HLL.out.size)⟩
end Go.Proofs.Ytjhicdinhcfbjaa
