/- 'handfastlaw07.EncapOnly' returns true at all bytes, and leaves what lay as it lay. -/
import Derived.Test.YthenbpnlmpeafaaDoorEnW
import Derived.Test.YthenbpnlmpeafaaDoorEnM
import Derived.Test.YthenbpnlmpeafaaDoorEnL
namespace Go.Proofs.YthenbpnlmpeafaaDoor
open Go.RowKit Go.Shelf
open SumM
attribute [local go_sem ↓] Go.wp_at_zero Go.wp_at_succ

set_option maxRecDepth 100000 in
set_option maxHeartbeats 16000000 in
theorem eOnly_walk (a0 : Option Addr) (len0 cap0 : Nat) (z0 : List Int) (w : World) (hT : Wid w ∧ 0 < w.heap.size) (w0 : IsRow .u8 w a0 len0 cap0 z0) :
    Calls Tryd.prog 5 #[.slice a0 len0 cap0] w fun e w' => e = .returned (.bool true) ∧ Below w.heap.size w w' := by
  obtain ⟨hrz, hzl, _, hlz, hmz⟩ := w0.row
  generalize z0.take len0 = bs at *
  unfold maxLen at hmz
  have HI := Lib.hid (row_in hrz)
  have HL := Lib.hid hzl
  have RB := Lib.hid (fun W (m : Below w.heap.size w W) => (hrz.below m).more m.size)
  have TT := Lib.hid (fun W (m : Below w.heap.size w W) => And.intro (hT.1.below hT.2 m) (Nat.lt_of_lt_of_le hT.2 m.size))
  have TW := Lib.hid (fun W (m : Below w.heap.size w W) => ewakes_any W (TT.out W m).2 (TT.out W m).1)
  have H0 := Lib.hid (Below.refl w.heap.size w)
  clear hrz hzl hT w0
  by_cases hbig : 3000 < len0
  · have p1 : decide ((3000 : Int) < (len0 : Int)) = true := decide_eq_true (by omega)
    clear hbig
    go_enter Tryd.func5, Tryd.ntmps5
    go_wp2_with (go_at_call 8; (with_reducible refine (TW.out _ H0.out).mono ?_); rintro e w3 ⟨rfl, m3⟩)
    go_ret
    exact ⟨rfl, m3⟩
  have p1 : decide ((3000 : Int) < (len0 : Int)) = false := decide_eq_false (by omega)
  have HLN := Lib.hid (And.intro hlz (show cap0 ≤ 9223372036854775807 ∧ len0 ≤ 1000000 by omega))
  clear hbig hlz hmz
  go_enter Tryd.func5, Tryd.ntmps5
  go_wp2_with (fail)
  refine (eTake_any a0 len0 cap0 bs HL.out HLN.out.1 HLN.out.2.1 HLN.out.2.2 w (TT.out _ H0.out).2 (TT.out _ H0.out).1 (RB.out _ H0.out)).mono ?_
  rintro e w1 (⟨hno, rfl, m1⟩ | ⟨hok, A1, c1, rfl, ho1, m1⟩)
  · have L2 := m1.alloc m1.size (.cells #[.int .u8 0, .int .i64 0, .int .u8 0, .int .i64 0, .int .u8 0, .int .u8 0, .int .i64 0, .int .i64 0, .int .i64 0, .int .i64 0, .slice none 0 0] 29)
    have bW := heap_alloc_new w1 (.cells #[.int .u8 0, .int .i64 0, .int .u8 0, .int .i64 0, .int .u8 0, .int .u8 0, .int .i64 0, .int .i64 0, .int .i64 0, .int .i64 0, .slice none 0 0] 29)
    clear m1 hno
    go_upto_region 4 with (fail)
    generalize w1.alloc (.cells #[.int .u8 0, .int .i64 0, .int .u8 0, .int .i64 0, .int .u8 0, .int .u8 0, .int .i64 0, .int .i64 0, .int .i64 0, .int .i64 0, .slice none 0 0] 29) = W2 at *
    obtain ⟨q0, q1, q2, q3, q4, q5, q6, q7, q8, q9, q10⟩ := wr_cells _ _ _ _ _ _ _ _ _ _ _ _ _ bW
    have KS := Lib.hid (fun W => show Calls Tryd.prog 18 #[.agg #[.int .u8 0, .int .i64 0, .int .u8 0, .int .i64 0, .int .u8 0, .int .u8 0, .int .i64 0, .int .i64 0, .int .i64 0, .int .i64 0, .slice none 0 0], .agg #[.int .u8 0, .int .i64 0, .int .u8 0, .int .i64 0, .int .u8 0, .int .u8 0, .int .i64 0, .int .i64 0, .int .i64 0, .int .i64 0, .slice none 0 0]] W fun e w' => e = .returned (.bool true) ∧ Below W.heap.size W w' from
      r7Same_any 0 0 0 0 0 0 0 0 0 0 none 0 0 0 0 0 0 0 0 0 0 0 0 none 0 0 [] [] _ _ W (Nat.le_refl _) (Nat.le_refl _) (Row.nil _ _ _ _) rfl (Row.nil _ _ _ _) rfl)
    have HL2 := Lib.hid L2
    clear bW L2
    generalize w1.heap.size = aw at *
    go_wp2_with (first
      | (go_at_call 18; (with_reducible refine (KS.out _).mono ?_); rintro e w3 ⟨rfl, m3⟩; have L3 := HL2.out.trans (m3.mono HL2.out.size))
      | (go_at_call 8; (with_reducible refine (TW.out _ L3).mono ?_); rintro e w4 ⟨rfl, m4⟩))
    go_ret
    exact ⟨rfl, L3.trans (m4.mono L3.size)⟩
  · obtain ⟨f1, f2, f3, f4⟩ := et_facts hok
    have hON := otV_nums' (bs := etOpt bs) (in_drop (in_take HI.out (hlOf bs)) 20) f2
    obtain ⟨g1, g2⟩ := enY_zero.1 f3
    obtain ⟨g3, g4, g5⟩ := enOk_iff.1 g1
    have hie : In 255 (etIn bs) := in_drop HI.out (hlOf bs)
    have hp4 : segAt bs 6 % 256 = 4 := by
      have h := (en_facts f3 hON hie).2.2.2.1
      rwa [f4] at h
    obtain ⟨⟨d0, d1⟩, hd8⟩ : ∃ v, nodV (segAt bs 8) = v := ⟨_, rfl⟩
    obtain ⟨⟨d2, d3⟩, hd9⟩ : ∃ v, nodV (segAt bs 9) = v := ⟨_, rfl⟩
    obtain ⟨⟨o0, o1, o2, o3, o4, o5⟩, hof⟩ : ∃ v, otV (etOpt bs) = v := ⟨_, rfl⟩
    obtain ⟨tb, hTB⟩ : ∃ x, etIn bs = x := ⟨_, rfl⟩
    rw [hTB] at ho1 hie
    rw [hd8, hd9, hof, hTB]
    rw [hd8, hd9, hof, hTB] at f3 f4
    rw [hof] at hON g5
    rw [hd8] at g3
    rw [hd9] at g4
    obtain ⟨tn, hTN⟩ : ∃ n, tb.length = n := ⟨_, rfl⟩
    rw [hTN] at ho1
    rw [hTN]
    have hcp := own_cap ho1
    have hnl := own_nil ho1
    have htn : tn ≤ 1000000 := by
      rw [hTB, hTN] at g2
      omega
    have r1 := isNod_iff.1 g3
    have r2 := isNod_iff.1 g4
    have HF := Lib.hid (show enY d0 d1 d2 d3 o0 o1 o2 o3 o4 o5 tb.length = 0 ∧ enZ d0 d1 d2 d3 o0 o1 o2 o3 o4 o5 tb = bs ∧ whyOf bs = 0 ∧ segAt bs 6 % 256 = 4 ∧ ONums o0 o1 o2 o3 o4 o5 ∧ optOk o0 o1 o2 o3 o4 o5 = true ∧ etIn bs = tb ∧ tb.length = tn from
      ⟨f3, by unfold enZ; rw [if_pos f3]; exact f4, f1, hp4, hON, g5, hTB, hTN⟩)
    have HRG := Lib.hid (show (0 ≤ d0 ∧ d0 ≤ 255) ∧ (-9223372036854775808 ≤ d1 ∧ d1 ≤ 9223372036854775807) ∧ (0 ≤ d2 ∧ d2 ≤ 255) ∧ (-9223372036854775808 ≤ d3 ∧ d3 ≤ 9223372036854775807) from ⟨by omega, by omega, by omega, by omega⟩)
    have RT := Lib.hid (Row.of_own ho1 (in_wf8 hie))
    clear f1 f2 f3 f4 g1 g2 g3 g4 g5 hON hie hp4 hd8 hd9 hof hTB hTN ho1 r1 r2 hok hcp
    have L2 := m1.alloc m1.size (.cells #[.int .u8 d0, .int .i64 d1, .int .u8 d2, .int .i64 d3, .int .u8 o0, .int .u8 o1, .int .i64 o2, .int .i64 o3, .int .i64 o4, .int .i64 o5, .slice A1 tn c1] 29)
    have bW := heap_alloc_new w1 (.cells #[.int .u8 d0, .int .i64 d1, .int .u8 d2, .int .i64 d3, .int .u8 o0, .int .u8 o1, .int .i64 o2, .int .i64 o3, .int .i64 o4, .int .i64 o5, .slice A1 tn c1] 29)
    have RT2 := Lib.hid (RT.out.allocS (.cells #[.int .u8 d0, .int .i64 d1, .int .u8 d2, .int .i64 d3, .int .u8 o0, .int .u8 o1, .int .i64 o2, .int .i64 o3, .int .i64 o4, .int .i64 o5, .slice A1 tn c1] 29))
    clear m1 RT
    go_upto_region 4 with (fail)
    generalize w1.alloc (.cells #[.int .u8 d0, .int .i64 d1, .int .u8 d2, .int .i64 d3, .int .u8 o0, .int .u8 o1, .int .i64 o2, .int .i64 o3, .int .i64 o4, .int .i64 o5, .slice A1 tn c1] 29) = W2 at *
    generalize w1.heap.size = aw at *
    obtain ⟨q0, q1, q2, q3, q4, q5, q6, q7, q8, q9, q10⟩ := wr_cells _ _ _ _ _ _ _ _ _ _ _ _ _ bW
    go_wp2_with (fail)
    refine (ePut_any d0 d1 d2 d3 o0 o1 o2 o3 o4 o5 A1 tn c1 tb HF.out.2.2.2.2.1 HRG.out.1 HRG.out.2.1 HRG.out.2.2.1 HRG.out.2.2.2 (by omega) W2 (TT.out _ L2).2 (TT.out _ L2).1 RT2.out HF.out.2.2.2.2.2.2.2 hnl).mono ?_
    unfold EnPutRet
    rw [HF.out.1, HF.out.2.1]
    rintro e w3 ⟨A3, n3, c3, rfl, hz3, R3, _, _, _, m3⟩
    have L3 := L2.trans (m3.mono L2.size)
    have bW3 := (m3.block _ (Array.getElem?_eq_some_iff.1 bW).1).trans bW
    have RT3 := Lib.hid ((RT2.out.below m3).more m3.size)
    have RC := Lib.hid R3
    have HZ3 := Lib.hid hz3
    clear q0 q1 q2 q3 q4 q5 q6 q7 q8 q9 q10 bW L2 m3 RT2 R3 hz3
    go_wp2_with (fail)
    refine (refParse_any a0 len0 cap0 bs HL.out HLN.out.1 HLN.out.2.1 HLN.out.2.2 w3 (RB.out _ L3)).mono ?_
    rintro e w4 (⟨hy, rfl, m4⟩ | ⟨hy, v, rfl, oa, oc, pa, pc, rfl, ho, hp, m4⟩)
    · exact absurd HF.out.2.2.1 hy
    have TBE : bs.drop (hlOf bs) = tb := HF.out.2.2.2.2.2.2.1
    rw [TBE, HF.out.2.2.2.2.2.2.2, HF.out.2.2.2.1]
    rw [TBE, HF.out.2.2.2.2.2.2.2] at hp
    have L4 := L3.trans (m4.mono L3.size)
    have bW4 := (m4.block _ (Array.getElem?_eq_some_iff.1 bW3).1).trans bW3
    have htb : In 255 tb := by rw [← TBE]; exact in_drop HI.out (hlOf bs)
    have RP := Lib.hid (Row.of_own hp (in_wf8 htb))
    have RT4 := Lib.hid ((RT3.out.below m4).more m4.size)
    have RC4 := Lib.hid ((RC.out.below m4).more m4.size)
    clear hy ho hp m4 L3 bW3 RT3 RC TBE htb
    generalize segAt bs 1 % 256 = s1 at *
    generalize segAt bs 3 % 65536 = s3 at *
    generalize segAt bs 4 % 65536 = s4 at *
    generalize segAt bs 5 % 256 = s5 at *
    generalize segAt bs 8 = s8 at *
    generalize segAt bs 9 = s9 at *
    generalize (List.drop 20 (List.take (hlOf bs) bs)).length = on at *
    have bH := heap_alloc_new w4 (.cells #[.int .u8 s1, .int .u16 s3, .int .u16 s4, .int .u8 s5, .int .u8 4, .int .u32 s8, .int .u32 s9, .slice oa on oc, .slice pa tn pc] 51)
    have bW5 := blk_al bW4 (.cells #[.int .u8 s1, .int .u16 s3, .int .u16 s4, .int .u8 s5, .int .u8 4, .int .u32 s8, .int .u32 s9, .slice oa on oc, .slice pa tn pc] 51)
    have L5 := L4.alloc L4.size (.cells #[.int .u8 s1, .int .u16 s3, .int .u16 s4, .int .u8 s5, .int .u8 4, .int .u32 s8, .int .u32 s9, .slice oa on oc, .slice pa tn pc] 51)
    have RP5 := Lib.hid (RP.out.allocS (.cells #[.int .u8 s1, .int .u16 s3, .int .u16 s4, .int .u8 s5, .int .u8 4, .int .u32 s8, .int .u32 s9, .slice oa on oc, .slice pa tn pc] 51))
    have RT5 := Lib.hid (RT4.out.allocS (.cells #[.int .u8 s1, .int .u16 s3, .int .u16 s4, .int .u8 s5, .int .u8 4, .int .u32 s8, .int .u32 s9, .slice oa on oc, .slice pa tn pc] 51))
    have RC5 := Lib.hid (RC4.out.allocS (.cells #[.int .u8 s1, .int .u16 s3, .int .u16 s4, .int .u8 s5, .int .u8 4, .int .u32 s8, .int .u32 s9, .slice oa on oc, .slice pa tn pc] 51))
    clear L4 bW4 RP RT4 RC4
    go_upto_region 8 with (fail)
    generalize w4.alloc (.cells #[.int .u8 s1, .int .u16 s3, .int .u16 s4, .int .u8 s5, .int .u8 4, .int .u32 s8, .int .u32 s9, .slice oa on oc, .slice pa tn pc] 51) = W5 at *
    generalize w4.heap.size = bh at *
    have CS := Lib.hid (fun W (m : Below W5.heap.size W5 W) => show (W.cell? ⟨bh, 4, none⟩ = some (.int .u8 4) ∧ W.cell? ⟨bh, 8, none⟩ = some (.slice pa tn pc)) ∧ (W.cell? ⟨aw, 0, none⟩ = some (.int .u8 d0) ∧ W.cell? ⟨aw, 1, none⟩ = some (.int .i64 d1) ∧ W.cell? ⟨aw, 2, none⟩ = some (.int .u8 d2) ∧ W.cell? ⟨aw, 3, none⟩ = some (.int .i64 d3) ∧ W.cell? ⟨aw, 4, none⟩ = some (.int .u8 o0) ∧ W.cell? ⟨aw, 5, none⟩ = some (.int .u8 o1) ∧ W.cell? ⟨aw, 6, none⟩ = some (.int .i64 o2) ∧ W.cell? ⟨aw, 7, none⟩ = some (.int .i64 o3) ∧ W.cell? ⟨aw, 8, none⟩ = some (.int .i64 o4) ∧ W.cell? ⟨aw, 9, none⟩ = some (.int .i64 o5) ∧ W.cell? ⟨aw, 10, none⟩ = some (.slice A1 tn c1)) from
      have h1 := head_cells _ _ _ _ _ _ _ _ _ _ _ _ _ ((m.block _ (Array.getElem?_eq_some_iff.1 bH).1).trans bH)
      ⟨⟨h1.2.2.2.2.1, h1.2.2.2.2.2.2.2.2⟩, wr_cells _ _ _ _ _ _ _ _ _ _ _ _ _ ((m.block _ (Array.getElem?_eq_some_iff.1 bW5).1).trans bW5)⟩)
    have HL5 := Lib.hid L5
    have K1 := Lib.hid (fun W (m : Below W5.heap.size W5 W) => show Calls Tryd.prog 17 #[.slice a0 len0 cap0, .slice A3 n3 c3] W fun e w' => e = .returned (.bool true) ∧ W = w' from by
      have h := law7Same_any a0 len0 cap0 bs A3 n3 c3 bs _ _ W (RB.out W (HL5.out.trans (m.mono HL5.out.size))) HL.out ((RC5.out.below m).more m.size) HZ3.out
      rwa [eqB_true.2 rfl] at h)
    have K2 := Lib.hid (fun W (m : Below W5.heap.size W5 W) => show Calls Tryd.prog 17 #[.slice pa tn pc, .slice A1 tn c1] W fun e w' => e = .returned (.bool true) ∧ W = w' from by
      have h := law7Same_any pa tn pc tb A1 tn c1 tb _ _ W ((RP5.out.below m).more m.size) HF.out.2.2.2.2.2.2.2 ((RT5.out.below m).more m.size) HF.out.2.2.2.2.2.2.2
      rwa [eqB_true.2 rfl] at h)
    have K3 := Lib.hid (fun W => show Calls Tryd.prog 24 #[.agg #[.int .u8 o0, .int .u8 o1, .int .i64 o2, .int .i64 o3, .int .i64 o4, .int .i64 o5]] W fun e w' => e = .returned (.bool true) ∧ Below W.heap.size W w' from by
      have h := refORight_any o0 o1 o2 o3 o4 o5 W
      rwa [HF.out.2.2.2.2.2.1] at h)
    have K4 := Lib.hid (fun W (m : Below W5.heap.size W5 W) => TW.out W (HL5.out.trans (m.mono HL5.out.size)))
    have n0 := Below.refl W5.heap.size W5
    obtain ⟨⟨x4, x8⟩, y0, y1, y2, y3, y4, y5, y6, y7, y8, y9, y10⟩ := CS.out _ n0
    clear bH bW5 L5 RP5 RT5 RC5
    go_wp2_with (first
      | (go_at_call 17; (with_reducible refine (K1.out W5 n0).mono ?_); rintro e v1 ⟨rfl, rfl⟩)
      | (go_at_call 17; (with_reducible refine (K2.out W5 n0).mono ?_); rintro e v2 ⟨rfl, rfl⟩)
      | (go_at_call 24; (with_reducible refine (K3.out _).mono ?_); rintro e v3 ⟨rfl, m3⟩)
      | (go_at_call 8; (with_reducible refine (K4.out _ m3).mono ?_); rintro e v4 ⟨rfl, m4⟩))
    go_ret
    exact ⟨rfl, HL5.out.trans ((m3.trans (m4.mono m3.size)).mono HL5.out.size)⟩
end Go.Proofs.YthenbpnlmpeafaaDoor
