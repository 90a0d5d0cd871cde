/- 'handfastlaw05.PacketReasons' returns true at all bytes, and leaves what lay as it lay. -/
import Derived.Test.YtnncmcfonkhckaaDoorPkQ
import Derived.Test.YtnncmcfonkhckaaDoorPkCore
namespace Go.Proofs.YtnncmcfonkhckaaDoor
open Go.RowKit Go.Shelf
open SumM

set_option maxRecDepth 100000 in
set_option maxHeartbeats 16000000 in
theorem pkReasons_walk (a0 : Option Addr) (len0 cap0 : Nat) (z0 : List Int) (w : World) (hT : Wid w ∧ 0 < w.heap.size) (w0 : IsRow .u8 w a0 len0 cap0 z0) :
    Calls Tryd.prog 5 #[.slice a0 len0 cap0] w fun e w' => e = .returned (.bool true) ∧ Below w.heap.size w w' := by
  obtain ⟨hrz, hzl, _, hlz, hmz⟩ := w0.row
  generalize z0.take len0 = bs at *
  unfold maxLen at hmz
  have HI := Lib.hid (row_in hrz)
  have HL := Lib.hid hzl
  have RB := Lib.hid (fun W (m : Below w.heap.size w W) => (hrz.below m).more m.size)
  have TW := Lib.hid (fun W (m : Below w.heap.size w W) => kwakes_any W (Nat.lt_of_lt_of_le hT.2 m.size) (hT.1.below hT.2 m))
  have HT := Lib.hid hT
  clear hrz hzl hT w0
  by_cases hbig : 3000 < len0
  · have p1 : decide ((3000 : Int) < (len0 : Int)) = true := decide_eq_true (by omega)
    have L0 := Below.refl w.heap.size w
    go_enter Tryd.func5, Tryd.ntmps5
    go_wp2_with (go_at_call 7; (with_reducible refine (TW.out _ L0).mono ?_); rintro e w3 ⟨rfl, m3⟩)
    go_ret
    exact ⟨rfl, m3⟩
  have p1 : decide ((3000 : Int) < (len0 : Int)) = false := decide_eq_false (by omega)
  have hln : len0 ≤ 1000000 := by omega
  go_enter Tryd.func5, Tryd.ntmps5
  go_wp2_with (fail)
  refine (pkParse_any a0 len0 cap0 bs HL.out hlz (by omega) hln w HT.out.2 HT.out.1 (RB.out w (Below.refl _ _))).mono ?_
  rintro e w1 h1
  obtain ⟨ts, td, tp, tq, kf, ka, kn, kc, zs, rfl, hpi, hr1, hl1, m1⟩ := pk_as HI.out h1
  have PI := Lib.hid hpi
  have ZL := Lib.hid hl1
  clear h1 hpi hl1
  have PY : ∃ y, pkwhy bs = y := ⟨_, rfl⟩
  obtain ⟨py, hpy⟩ := PY
  rw [hpy]
  have HPY := Lib.hid hpy
  clear hpy
  go_wp2_with (fail)
  have bP := heap_alloc_new w1 (.cells #[.int .u32 ts, .int .u32 td, .int .u16 tp, .int .u16 tq, .int .u8 kf, .slice ka kn kc] 28)
  have L2 := m1.alloc m1.size (.cells #[.int .u32 ts, .int .u32 td, .int .u16 tp, .int .u16 tq, .int .u8 kf, .slice ka kn kc] 28)
  have RK := Lib.hid (hr1.allocS (.cells #[.int .u32 ts, .int .u32 td, .int .u16 tp, .int .u16 tq, .int .u8 kf, .slice ka kn kc] 28))
  generalize w1.alloc (.cells #[.int .u32 ts, .int .u32 td, .int .u16 tp, .int .u16 tq, .int .u8 kf, .slice ka kn kc] 28) = W2 at *
  generalize w1.heap.size = bp at *
  clear m1 hr1
  refine (refParse_any a0 len0 cap0 bs HL.out hlz (by omega) hln W2 (RB.out W2 L2)).mono ?_
  rintro e w3 (⟨hy, rfl, m3⟩ | ⟨hy, v, rfl, oa, oc, pa, pc, rfl, ho, hp, m3⟩)
  · -- the head is none
    have HW := Lib.hid (show pkwhy bs = whyOf bs by unfold pkwhy; rw [if_pos hy])
    have hyz : py = whyOf bs := HPY.out.symm.trans HW.out
    obtain ⟨rfl, rfl, rfl, rfl, rfl, rfl⟩ := PI.out.zero (by rw [HW.out]; exact hy)
    have p2 : (whyOf bs != 0) = true := by simpa using hy
    generalize whyOf bs = y at *
    subst hyz
    have e1 : (py == py) = true := by simp
    have L3 := L2.trans (m3.mono L2.size)
    have bP3 := (m3.block _ (Array.getElem?_eq_some_iff.1 bP).1).trans bP
    have bP4 := (Below.heap_alloc w3 (.cells #[.int .u8 0, .int .u16 0, .int .u16 0, .int .u8 0, .int .u8 0, .int .u32 0, .int .u32 0, .slice none 0 0, .slice none 0 0] 42) bp (Array.getElem?_eq_some_iff.1 bP3).1).trans bP3
    have L4 := L3.alloc L3.size (.cells #[.int .u8 0, .int .u16 0, .int .u16 0, .int .u8 0, .int .u8 0, .int .u32 0, .int .u32 0, .slice none 0 0, .slice none 0 0] 42)
    have RK4 := Lib.hid ((RK.out.below m3).more m3.size |>.allocS (.cells #[.int .u8 0, .int .u16 0, .int .u16 0, .int .u8 0, .int .u8 0, .int .u32 0, .int .u32 0, .slice none 0 0, .slice none 0 0] 42))
    clear hy bP bP3 L2 L3 m3 RK HW HPY PI
    go_upto_region 5 with (fail)
    generalize w3.alloc (.cells #[.int .u8 0, .int .u16 0, .int .u16 0, .int .u8 0, .int .u8 0, .int .u32 0, .int .u32 0, .slice none 0 0, .slice none 0 0] 42) = W4 at *
    obtain ⟨q0, q1, q2, q3, q4, q5⟩ := pk_cells _ _ _ _ _ _ _ _ bP4
    have KSame := Lib.hid (show Calls Tryd.prog 12 #[.agg #[.int .u32 0, .int .u32 0, .int .u16 0, .int .u16 0, .int .u8 0, .slice ka kn kc], .agg #[.int .u32 0, .int .u32 0, .int .u16 0, .int .u16 0, .int .u8 0, .slice none 0 0]] W4 fun e w' => e = .returned (.bool true) ∧ Below W4.heap.size W4 w' from by
      have h := refPkSame_any 0 0 0 0 0 ka kn kc 0 0 0 0 0 none 0 0 [] [] _ _ W4 (Nat.le_refl _) (Nat.le_refl _) RK4.out ZL.out (Row.nil _ W4.heap.size _ _) rfl
      rwa [pkB_same] at h)
    go_wp2_with (first
      | (go_at_call 12; (with_reducible refine KSame.out.mono ?_); rintro e v1 ⟨rfl, j1⟩; have n1 := L4.trans (j1.mono L4.size))
      | (go_at_call 7; (with_reducible refine (TW.out _ n1).mono ?_); rintro e v2 ⟨rfl, j2⟩; have n2 := n1.trans (j2.mono n1.size)))
    go_ret
    exact ⟨rfl, n2⟩
  · have h8 := segAt_in HI.out 8
    have h9 := segAt_in HI.out 9
    have hps := own_cap hp
    have hpl : (bs.drop (hlOf bs)).length ≤ 1000000 := by
      have h1 := HL.out
      simp
      omega
    have RT := Lib.hid (Row.of_own hp (in_wf8 (in_drop HI.out (hlOf bs))))
    have HKD := Lib.hid (show pkwhy bs = if segAt bs 6 % 256 ≠ 6 then 7 else twhy (segAt bs 8) (segAt bs 9) (bs.drop (hlOf bs)) by unfold pkwhy; rw [if_neg (by omega)])
    have PONE := Lib.hid (fun h0 => PI.out.one h0)
    clear hy ho
    generalize segAt bs 1 % 256 = s1 at *
    generalize segAt bs 3 % 65536 = s3 at *
    generalize segAt bs 4 % 65536 = s4 at *
    generalize segAt bs 5 % 256 = s5 at *
    generalize segAt bs 6 % 256 = s6 at *
    generalize segAt bs 8 = s8 at *
    generalize segAt bs 9 = s9 at *
    generalize (List.drop 20 (List.take (hlOf bs) bs)).length = on at *
    generalize bs.drop (hlOf bs) = tb at *
    have DN : ∃ n, tb.length = n := ⟨_, rfl⟩
    obtain ⟨tn, hTN⟩ := DN
    rw [hTN] at hps hpl
    rw [hTN]
    have HTN := Lib.hid hTN
    clear hTN hp
    have L3 := L2.trans (m3.mono L2.size)
    have bP3 := (m3.block _ (Array.getElem?_eq_some_iff.1 bP).1).trans bP
    have bP4 := (Below.heap_alloc w3 (.cells #[.int .u8 s1, .int .u16 s3, .int .u16 s4, .int .u8 s5, .int .u8 s6, .int .u32 s8, .int .u32 s9, .slice oa on oc, .slice pa tn pc] 42) bp (Array.getElem?_eq_some_iff.1 bP3).1).trans bP3
    have bH := heap_alloc_new w3 (.cells #[.int .u8 s1, .int .u16 s3, .int .u16 s4, .int .u8 s5, .int .u8 s6, .int .u32 s8, .int .u32 s9, .slice oa on oc, .slice pa tn pc] 42)
    have L4 := L3.alloc L3.size (.cells #[.int .u8 s1, .int .u16 s3, .int .u16 s4, .int .u8 s5, .int .u8 s6, .int .u32 s8, .int .u32 s9, .slice oa on oc, .slice pa tn pc] 42)
    have RK4 := Lib.hid ((RK.out.below m3).more m3.size |>.allocS (.cells #[.int .u8 s1, .int .u16 s3, .int .u16 s4, .int .u8 s5, .int .u8 s6, .int .u32 s8, .int .u32 s9, .slice oa on oc, .slice pa tn pc] 42))
    have RT4 := Lib.hid (RT.out.allocS (.cells #[.int .u8 s1, .int .u16 s3, .int .u16 s4, .int .u8 s5, .int .u8 s6, .int .u32 s8, .int .u32 s9, .slice oa on oc, .slice pa tn pc] 42))
    clear bP bP3 L2 L3 m3 RK RT
    go_upto_region 5 with (fail)
    generalize w3.alloc (.cells #[.int .u8 s1, .int .u16 s3, .int .u16 s4, .int .u8 s5, .int .u8 s6, .int .u32 s8, .int .u32 s9, .slice oa on oc, .slice pa tn pc] 42) = W4 at *
    generalize w3.heap.size = bh at *
    obtain ⟨q0, q1, q2, q3, q4, q5⟩ := pk_cells _ _ _ _ _ _ _ _ bP4
    obtain ⟨x0, x1, x2, x3, x4, x5, x6, x7, x8⟩ := head_cells _ _ _ _ _ _ _ _ _ _ _ _ _ bH
    by_cases h6 : s6 = 6
    · have p2 : (s6 != 6) = false := by simpa using h6
      have HK := Lib.hid (show pkwhy bs = twhy s8 s9 tb by rw [HKD.out, if_neg (by omega)])
      clear HKD h6
      go_wp2_with (fail)
      refine (refTcpParse_any s8 s9 h8 h9 pa tn pc tb HTN.out hps.1 hps.2 hpl W4 RT4.out).mono ?_
      rintro e w5 (⟨hy2, rfl, m5⟩ | ⟨hy2, A3, c3, rfl, ho3, m5⟩)
      · have hyz : py = twhy s8 s9 tb := HPY.out.symm.trans HK.out
        obtain ⟨rfl, rfl, rfl, rfl, rfl, rfl⟩ := PI.out.zero (by rw [HK.out]; exact hy2)
        have p3 : (twhy s8 s9 tb != 0) = true := by simpa using hy2
        generalize twhy s8 s9 tb = y at *
        subst hyz
        have e1 : (py == py) = true := by simp
        have L5 := L4.trans (m5.mono L4.size)
        have bP5 := (m5.block _ (Array.getElem?_eq_some_iff.1 bP4).1).trans bP4
        have bP6 := (Below.heap_alloc w5 (.cells #[.int .u16 0, .int .u16 0, .int .u8 0, .int .i64 0, .slice none 0 0] 46) bp (Array.getElem?_eq_some_iff.1 bP5).1).trans bP5
        have L6 := L5.alloc L5.size (.cells #[.int .u16 0, .int .u16 0, .int .u8 0, .int .i64 0, .slice none 0 0] 46)
        have RK6 := Lib.hid ((RK4.out.below m5).more m5.size |>.allocS (.cells #[.int .u16 0, .int .u16 0, .int .u8 0, .int .i64 0, .slice none 0 0] 46))
        clear hy2 bP4 bP5 L4 L5 m5 RK4 RT4 HK HPY PI PONE q0 q1 q2 q3 q4 q5 x0 x1 x2 x3 x4 x5 x6 x7 x8 bH h8 h9
        go_upto_region 10 with (fail)
        generalize w5.alloc (.cells #[.int .u16 0, .int .u16 0, .int .u8 0, .int .i64 0, .slice none 0 0] 46) = W6 at *
        obtain ⟨q0, q1, q2, q3, q4, q5⟩ := pk_cells _ _ _ _ _ _ _ _ bP6
        have KSame := Lib.hid (show Calls Tryd.prog 12 #[.agg #[.int .u32 0, .int .u32 0, .int .u16 0, .int .u16 0, .int .u8 0, .slice ka kn kc], .agg #[.int .u32 0, .int .u32 0, .int .u16 0, .int .u16 0, .int .u8 0, .slice none 0 0]] W6 fun e w' => e = .returned (.bool true) ∧ Below W6.heap.size W6 w' from by
          have h := refPkSame_any 0 0 0 0 0 ka kn kc 0 0 0 0 0 none 0 0 [] [] _ _ W6 (Nat.le_refl _) (Nat.le_refl _) RK6.out ZL.out (Row.nil _ W6.heap.size _ _) rfl
          rwa [pkB_same] at h)
        go_wp2_with (first
          | (go_at_call 12; (with_reducible refine KSame.out.mono ?_); rintro e v1 ⟨rfl, j1⟩; have n1 := L6.trans (j1.mono L6.size))
          | (go_at_call 7; (with_reducible refine (TW.out _ n1).mono ?_); rintro e v2 ⟨rfl, j2⟩; have n2 := n1.trans (j2.mono n1.size)))
        go_ret
        exact ⟨rfl, n2⟩
      · have h0 : pkwhy bs = 0 := HK.out.trans hy2
        have hyz : py = 0 := HPY.out.symm.trans h0
        subst hyz
        obtain ⟨g1, g2, g3, g4, g5, g6⟩ := PONE.out h0
        have G0 : ∃ x, wordAt tb 0 = x := ⟨_, rfl⟩
        obtain ⟨t0, ht0⟩ := G0
        have G1 : ∃ x, wordAt tb 1 = x := ⟨_, rfl⟩
        obtain ⟨t1, ht1⟩ := G1
        have G2 : ∃ x, tb[13]?.getD 0 = x := ⟨_, rfl⟩
        obtain ⟨t2, ht2⟩ := G2
        have G3 : ∃ x, thl tb = x := ⟨_, rfl⟩
        obtain ⟨t3, ht3⟩ := G3
        have G4 : ∃ x, (tb.drop (thl tb).toNat).length = x := ⟨_, rfl⟩
        obtain ⟨dn, hdn⟩ := G4
        rw [ht0, ht1, ht2, hdn, ht3]
        rw [ht0] at g3
        rw [ht1] at g4
        rw [ht2] at g5
        subst ts td tp tq kf zs
        have L5 := L4.trans (m5.mono L4.size)
        have bP5 := (m5.block _ (Array.getElem?_eq_some_iff.1 bP4).1).trans bP4
        have bH5 := (m5.block _ (Array.getElem?_eq_some_iff.1 bH).1).trans bH
        have bP6 := (Below.heap_alloc w5 (.cells #[.int .u16 t0, .int .u16 t1, .int .u8 t2, .int .i64 t3, .slice A3 dn c3] 46) bp (Array.getElem?_eq_some_iff.1 bP5).1).trans bP5
        have bH6 := (Below.heap_alloc w5 (.cells #[.int .u16 t0, .int .u16 t1, .int .u8 t2, .int .i64 t3, .slice A3 dn c3] 46) bh (Array.getElem?_eq_some_iff.1 bH5).1).trans bH5
        have bT := heap_alloc_new w5 (.cells #[.int .u16 t0, .int .u16 t1, .int .u8 t2, .int .i64 t3, .slice A3 dn c3] 46)
        have L6 := L5.alloc L5.size (.cells #[.int .u16 t0, .int .u16 t1, .int .u8 t2, .int .i64 t3, .slice A3 dn c3] 46)
        have RK6 := Lib.hid ((RK4.out.below m5).more m5.size |>.allocS (.cells #[.int .u16 t0, .int .u16 t1, .int .u8 t2, .int .i64 t3, .slice A3 dn c3] 46))
        have E1 : ∀ W, (Go.binOp .eql 26 (.agg #[.int .u32 s8, .int .u32 s9, .int .u16 t0, .int .u16 t1]) (.agg #[.int .u32 s8, .int .u32 s9, .int .u16 t0, .int .u16 t1])).run Tryd.prog W = .ok (.bool true) W := fun W => by
          have h := run_eqU s8 s9 t0 t1 s8 s9 t0 t1 W
          rwa [eqU_same] at h
        have e1 : (t2 == t2) = true := by simp
        clear hy2 bP4 bP5 bH bH5 L4 L5 m5 RK4 RT4 HK HPY PI PONE q0 q1 q2 q3 q4 q5 x0 x1 x2 x3 x4 x5 x6 x7 x8 h8 h9 ho3 h0 ht0 ht1 ht2 ht3 hdn
        go_upto_region 10 with (fail)
        generalize w5.alloc (.cells #[.int .u16 t0, .int .u16 t1, .int .u8 t2, .int .i64 t3, .slice A3 dn c3] 46) = W6 at *
        generalize w5.heap.size = bt at *
        obtain ⟨q0, q1, q2, q3, q4, q5⟩ := pk_cells _ _ _ _ _ _ _ _ bP6
        obtain ⟨x0, x1, x2, x3, x4, x5, x6, x7, x8⟩ := head_cells _ _ _ _ _ _ _ _ _ _ _ _ _ bH6
        obtain ⟨y0, y1, y2, y3, y4⟩ := tcp_cells _ _ _ _ _ _ _ bT
        have KS := Lib.hid (show Calls Tryd.prog 13 #[.slice ka kn kc, .slice a0 len0 cap0] W6 fun e w' => e = .returned (.bool true) ∧ W6 = w' from by
          have h := law5Same_any ka kn kc bs a0 len0 cap0 bs _ _ W6 RK6.out ZL.out (RB.out W6 L6) HL.out
          rwa [show eqB bs bs = true from eqB_true.2 rfl] at h)
        go_wp2_with (first
          | (go_at_call 13; (with_reducible refine KS.out.mono ?_); rintro e v1 ⟨rfl, rfl⟩)
          | (go_at_call 7; (with_reducible refine (TW.out _ L6).mono ?_); rintro e v2 ⟨rfl, j2⟩; have n2 := L6.trans (j2.mono L6.size)))
        go_ret
        exact ⟨rfl, n2⟩
    · have p2 : (s6 != 6) = true := by simpa using h6
      have HK := Lib.hid (show pkwhy bs = 7 by rw [HKD.out, if_pos h6])
      have hyz : py = 7 := HPY.out.symm.trans HK.out
      obtain ⟨rfl, rfl, rfl, rfl, rfl, rfl⟩ := PI.out.zero (by rw [HK.out]; decide)
      subst hyz
      clear HKD h6 PI PONE HPY HK
      have KSame := Lib.hid (show Calls Tryd.prog 12 #[.agg #[.int .u32 0, .int .u32 0, .int .u16 0, .int .u16 0, .int .u8 0, .slice ka kn kc], .agg #[.int .u32 0, .int .u32 0, .int .u16 0, .int .u16 0, .int .u8 0, .slice none 0 0]] W4 fun e w' => e = .returned (.bool true) ∧ Below W4.heap.size W4 w' from by
        have h := refPkSame_any 0 0 0 0 0 ka kn kc 0 0 0 0 0 none 0 0 [] [] _ _ W4 (Nat.le_refl _) (Nat.le_refl _) RK4.out ZL.out (Row.nil _ W4.heap.size _ _) rfl
        rwa [pkB_same] at h)
      go_wp2_with (first
        | (go_at_call 12; (with_reducible refine KSame.out.mono ?_); rintro e v1 ⟨rfl, j1⟩; have n1 := L4.trans (j1.mono L4.size))
        | (go_at_call 7; (with_reducible refine (TW.out _ n1).mono ?_); rintro e v2 ⟨rfl, j2⟩; have n2 := n1.trans (j2.mono n1.size)))
      go_ret
      exact ⟨rfl, n2⟩
end Go.Proofs.YtnncmcfonkhckaaDoor
