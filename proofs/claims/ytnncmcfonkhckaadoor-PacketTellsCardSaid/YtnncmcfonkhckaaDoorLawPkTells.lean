/- 'handfastlaw05.PacketTells' returns true at all bytes, every tuple, flags, data and every two packets, and leaves what lay as it lay. -/
import Derived.Test.YtnncmcfonkhckaaDoorPkQ
import Derived.Test.YtnncmcfonkhckaaDoorPkCore
namespace Go.Proofs.YtnncmcfonkhckaaDoor
open Go.RowKit Go.Shelf
open SumM
attribute [local go_sem ↓] Go.wp_at_zero Go.wp_at_succ

set_option maxRecDepth 100000 in
set_option maxHeartbeats 16000000 in
theorem pkTells_walk (a0 : Option Addr) (len0 cap0 : Nat) (z0 : List Int) (us ud up uq : Int) (uf : Int) (a3 : Option Addr) (len3 cap3 : Nat) (z3 : List Int) (ts td tp tq kf : Int) (ka : Option Addr) (kn kc : Nat) (ks : List Int) (ts' td' tp' tq' kf' : Int) (ka' : Option Addr) (kn' kc' : Nat) (ks' : List Int) (w : World) (hT : Wid w ∧ 0 < w.heap.size)
    (w0 : IsRow .u8 w a0 len0 cap0 z0) (H : UNums us ud up uq) (hf : (Lit.int .u8 uf).wf = true) (w3 : IsRow .u8 w a3 len3 cap3 z3) (HP : IsPk w ts td tp tq kf ka kn kc ks) (HQ : IsPk w ts' td' tp' tq' kf' ka' kn' kc' ks') :
    Calls Tryd.prog 3 #[.slice a0 len0 cap0, .agg #[.int .u32 us, .int .u32 ud, .int .u16 up, .int .u16 uq], .int .u8 uf, .slice a3 len3 cap3, .agg #[.int .u32 ts, .int .u32 td, .int .u16 tp, .int .u16 tq, .int .u8 kf, .slice ka kn kc], .agg #[.int .u32 ts', .int .u32 td', .int .u16 tp', .int .u16 tq', .int .u8 kf', .slice ka' kn' kc']] w fun e w' => e = .returned (.bool true) ∧ Below w.heap.size w w' := by
  obtain ⟨hrz, hzl, _, hlz, hmz⟩ := w0.row
  generalize z0.take len0 = bs at *
  obtain ⟨hrd, hdl, hdn, hld, hmd⟩ := w3.row
  generalize z3.take len3 = ps at *
  unfold maxLen at hmz hmd
  have hk := wf_u8.1 hf
  have hb1 := HP.hc
  have hb2 := HQ.hc
  unfold maxLen at hb1 hb2
  have bQ := heap_alloc_new ((w.alloc (.cells #[.int .u32 us, .int .u32 ud, .int .u16 up, .int .u16 uq] 26)).alloc (.cells #[.int .u32 ts, .int .u32 td, .int .u16 tp, .int .u16 tq, .int .u8 kf, .slice ka kn kc] 28)) (.cells #[.int .u32 ts', .int .u32 td', .int .u16 tp', .int .u16 tq', .int .u8 kf', .slice ka' kn' kc'] 28)
  have bP := (Below.heap_alloc ((w.alloc (.cells #[.int .u32 us, .int .u32 ud, .int .u16 up, .int .u16 uq] 26)).alloc (.cells #[.int .u32 ts, .int .u32 td, .int .u16 tp, .int .u16 tq, .int .u8 kf, .slice ka kn kc] 28)) (.cells #[.int .u32 ts', .int .u32 td', .int .u16 tp', .int .u16 tq', .int .u8 kf', .slice ka' kn' kc'] 28) (w.alloc (.cells #[.int .u32 us, .int .u32 ud, .int .u16 up, .int .u16 uq] 26)).heap.size (by simp)).trans (heap_alloc_new (w.alloc (.cells #[.int .u32 us, .int .u32 ud, .int .u16 up, .int .u16 uq] 26)) (.cells #[.int .u32 ts, .int .u32 td, .int .u16 tp, .int .u16 tq, .int .u8 kf, .slice ka kn kc] 28))
  have bU := (Below.heap_alloc ((w.alloc (.cells #[.int .u32 us, .int .u32 ud, .int .u16 up, .int .u16 uq] 26)).alloc (.cells #[.int .u32 ts, .int .u32 td, .int .u16 tp, .int .u16 tq, .int .u8 kf, .slice ka kn kc] 28)) (.cells #[.int .u32 ts', .int .u32 td', .int .u16 tp', .int .u16 tq', .int .u8 kf', .slice ka' kn' kc'] 28) w.heap.size (by simp; omega)).trans ((Below.heap_alloc (w.alloc (.cells #[.int .u32 us, .int .u32 ud, .int .u16 up, .int .u16 uq] 26)) (.cells #[.int .u32 ts, .int .u32 td, .int .u16 tp, .int .u16 tq, .int .u8 kf, .slice ka kn kc] 28) w.heap.size (by simp)).trans (heap_alloc_new w (.cells #[.int .u32 us, .int .u32 ud, .int .u16 up, .int .u16 uq] 26)))
  simp only [World.size_alloc] at bP bQ
  have L0 := (((Below.refl w.heap.size w).alloc (Nat.le_refl _) (.cells #[.int .u32 us, .int .u32 ud, .int .u16 up, .int .u16 uq] 26)).alloc (by simp) (.cells #[.int .u32 ts, .int .u32 td, .int .u16 tp, .int .u16 tq, .int .u8 kf, .slice ka kn kc] 28)).alloc (by simp; omega) (.cells #[.int .u32 ts', .int .u32 td', .int .u16 tp', .int .u16 tq', .int .u8 kf', .slice ka' kn' kc'] 28)
  have HI := Lib.hid (row_in hrz)
  have HL := Lib.hid hzl
  have HDL := Lib.hid hdl
  have HDN := Lib.hid hdn
  have HH := Lib.hid (And.intro H hk)
  have RB := Lib.hid (fun W (m : Below w.heap.size w W) => (hrz.below m).more m.size)
  have RD := Lib.hid (fun W (m : Below w.heap.size w W) => (hrd.below m).more m.size)
  have RP := Lib.hid (fun W (m : Below w.heap.size w W) => (HP.hr.below m).more m.size)
  have RQ := Lib.hid (fun W (m : Below w.heap.size w W) => (HQ.hr.below m).more m.size)
  have HPL := Lib.hid (And.intro HP.hl (And.intro HP.hn (And.intro HP.hkf HQ.hl)))
  have TT := Lib.hid (fun W (m : Below w.heap.size w W) => And.intro (hT.1.below hT.2 m) (Nat.lt_of_lt_of_le hT.2 m.size))
  have TW := Lib.hid (fun W (m : Below w.heap.size w W) => kwakes_any W (TT.out W m).2 (TT.out W m).1)
  obtain ⟨q0, q1, q2, q3⟩ := tup_cells _ _ _ _ bU
  obtain ⟨x0, x1, x2, x3, x4, x5⟩ := pk_cells _ _ _ _ _ _ _ _ bP
  obtain ⟨y0, y1, y2, y3, y4, y5⟩ := pk_cells _ _ _ _ _ _ _ _ bQ
  clear hrz hzl hrd hdl hdn hT w0 w3 H hk hf HP HQ
  by_cases hbig : 3000 < len0 ∨ 3000 < len3 ∨ 3000 < kn ∨ 3000 < kn'
  · have hc : ∃ p q r s : Bool, decide ((3000 : Int) < (len0 : Int)) = p ∧ decide ((3000 : Int) < (len3 : Int)) = q ∧ decide ((3000 : Int) < (kn : Int)) = r ∧ decide ((3000 : Int) < (kn' : Int)) = s ∧ ((p = true) ∨ (p = false ∧ q = true) ∨ (p = false ∧ q = false ∧ r = true) ∨ (p = false ∧ q = false ∧ r = false ∧ s = true)) := by
      refine ⟨_, _, _, _, rfl, rfl, rfl, rfl, ?_⟩
      by_cases h1 : 3000 < len0
      · exact .inl (decide_eq_true (by omega))
      by_cases h2 : 3000 < len3
      · exact .inr (.inl ⟨decide_eq_false (by omega), decide_eq_true (by omega)⟩)
      by_cases h3 : 3000 < kn
      · exact .inr (.inr (.inl ⟨decide_eq_false (by omega), decide_eq_false (by omega), decide_eq_true (by omega)⟩))
      · exact .inr (.inr (.inr ⟨decide_eq_false (by omega), decide_eq_false (by omega), decide_eq_false (by omega), decide_eq_true (by omega)⟩))
    obtain ⟨p, q, r, s, p1, p2, p3, p4, hpq⟩ := hc
    rcases hpq with rfl | ⟨rfl, rfl⟩ | ⟨rfl, rfl, rfl⟩ | ⟨rfl, rfl, rfl, rfl⟩
    all_goals
      clear bU bP bQ hbig
      go_enter Tryd.func3, Tryd.ntmps3
      go_upto_region 1 with (fail)
      generalize (((w.alloc (.cells #[.int .u32 us, .int .u32 ud, .int .u16 up, .int .u16 uq] 26)).alloc (.cells #[.int .u32 ts, .int .u32 td, .int .u16 tp, .int .u16 tq, .int .u8 kf, .slice ka kn kc] 28)).alloc (.cells #[.int .u32 ts', .int .u32 td', .int .u16 tp', .int .u16 tq', .int .u8 kf', .slice ka' kn' kc'] 28)) = W0 at *
      go_wp2_with (go_at_call 7; (with_reducible refine (TW.out _ L0).mono ?_); rintro e w3 ⟨rfl, m3⟩)
      go_ret
      exact ⟨rfl, L0.trans (m3.mono L0.size)⟩
  have p1 : decide ((3000 : Int) < (len0 : Int)) = false := decide_eq_false (by omega)
  have p2 : decide ((3000 : Int) < (len3 : Int)) = false := decide_eq_false (by omega)
  have p3 : decide ((3000 : Int) < (kn : Int)) = false := decide_eq_false (by omega)
  have p4 : decide ((3000 : Int) < (kn' : Int)) = false := decide_eq_false (by omega)
  have hln : len0 ≤ 1000000 := by omega
  have hld3 : len3 ≤ 281474976710600 := by omega
  have hkn : kn ≤ 1000000 := by omega
  clear hbig
  go_enter Tryd.func3, Tryd.ntmps3
  go_upto_region 1 with (fail)
  generalize (((w.alloc (.cells #[.int .u32 us, .int .u32 ud, .int .u16 up, .int .u16 uq] 26)).alloc (.cells #[.int .u32 ts, .int .u32 td, .int .u16 tp, .int .u16 tq, .int .u8 kf, .slice ka kn kc] 28)).alloc (.cells #[.int .u32 ts', .int .u32 td', .int .u16 tp', .int .u16 tq', .int .u8 kf', .slice ka' kn' kc'] 28)) = W0 at *
  go_wp2_with (fail)
  refine (pkParse_any a0 len0 cap0 bs HL.out hlz (by omega) hln W0 (TT.out _ L0).2 (TT.out _ L0).1 (RB.out _ L0)).mono ?_
  rintro e w1 h1
  obtain ⟨xa0, xa1, xa2, xa3, xa4, xaa, xna, xca, zs, rfl, hpi, hr1, hl1, m1⟩ := pk_as HI.out h1
  have PI := Lib.hid hpi
  have ZL := Lib.hid hl1
  clear h1 hpi hl1
  have PY : ∃ y, pkwhy bs = y := ⟨_, rfl⟩
  obtain ⟨py, hpy⟩ := PY
  rw [hpy]
  have HPY := Lib.hid hpy
  clear hpy
  go_wp2_with (fail)
  have bU1 := (m1.block _ (Array.getElem?_eq_some_iff.1 bU).1).trans bU
  have bP1 := (m1.block _ (Array.getElem?_eq_some_iff.1 bP).1).trans bP
  have bQ1 := (m1.block _ (Array.getElem?_eq_some_iff.1 bQ).1).trans bQ
  have L1 := L0.trans (m1.mono L0.size)
  have bU2 := (Below.heap_alloc w1 (.cells #[.int .u32 xa0, .int .u32 xa1, .int .u16 xa2, .int .u16 xa3, .int .u8 xa4, .slice xaa xna xca] 28) _ (Array.getElem?_eq_some_iff.1 bU1).1).trans bU1
  have bP2 := (Below.heap_alloc w1 (.cells #[.int .u32 xa0, .int .u32 xa1, .int .u16 xa2, .int .u16 xa3, .int .u8 xa4, .slice xaa xna xca] 28) _ (Array.getElem?_eq_some_iff.1 bP1).1).trans bP1
  have bQ2 := (Below.heap_alloc w1 (.cells #[.int .u32 xa0, .int .u32 xa1, .int .u16 xa2, .int .u16 xa3, .int .u8 xa4, .slice xaa xna xca] 28) _ (Array.getElem?_eq_some_iff.1 bQ1).1).trans bQ1
  have bX2 := heap_alloc_new w1 (.cells #[.int .u32 xa0, .int .u32 xa1, .int .u16 xa2, .int .u16 xa3, .int .u8 xa4, .slice xaa xna xca] 28)
  have L2 := L1.alloc L1.size (.cells #[.int .u32 xa0, .int .u32 xa1, .int .u16 xa2, .int .u16 xa3, .int .u8 xa4, .slice xaa xna xca] 28)
  have RX2 := Lib.hid (hr1.allocS (.cells #[.int .u32 xa0, .int .u32 xa1, .int .u16 xa2, .int .u16 xa3, .int .u8 xa4, .slice xaa xna xca] 28))
  clear bU bP bQ bU1 bP1 bQ1 L0 L1 m1 hr1 q0 q1 q2 q3 x0 x1 x2 x3 x4 x5 y0 y1 y2 y3 y4 y5
  generalize w1.alloc (.cells #[.int .u32 xa0, .int .u32 xa1, .int .u16 xa2, .int .u16 xa3, .int .u8 xa4, .slice xaa xna xca] 28) = W2 at *
  generalize w1.heap.size = bx at *
  refine (refPkParse_any a0 len0 cap0 bs HL.out hlz (by omega) hln W2 (RB.out _ L2)).mono ?_
  rintro e w3 h3
  obtain ⟨xb0, xb1, xb2, xb3, xb4, xab, xnb, xcb, zt, rfl, hpj, hr3, hl3, m3⟩ := pk_as HI.out h3
  have PJ := Lib.hid hpj
  have ZM := Lib.hid hl3
  rw [HPY.out]
  clear h3 hpj hl3
  have bU3 := (m3.block _ (Array.getElem?_eq_some_iff.1 bU2).1).trans bU2
  have bP3 := (m3.block _ (Array.getElem?_eq_some_iff.1 bP2).1).trans bP2
  have bQ3 := (m3.block _ (Array.getElem?_eq_some_iff.1 bQ2).1).trans bQ2
  have bX3 := (m3.block _ (Array.getElem?_eq_some_iff.1 bX2).1).trans bX2
  have L3 := L2.trans (m3.mono L2.size)
  have RX3 := Lib.hid ((RX2.out.below m3).more m3.size)
  have bU4 := (Below.heap_alloc w3 (.cells #[.int .u32 xb0, .int .u32 xb1, .int .u16 xb2, .int .u16 xb3, .int .u8 xb4, .slice xab xnb xcb] 28) _ (Array.getElem?_eq_some_iff.1 bU3).1).trans bU3
  have bP4 := (Below.heap_alloc w3 (.cells #[.int .u32 xb0, .int .u32 xb1, .int .u16 xb2, .int .u16 xb3, .int .u8 xb4, .slice xab xnb xcb] 28) _ (Array.getElem?_eq_some_iff.1 bP3).1).trans bP3
  have bQ4 := (Below.heap_alloc w3 (.cells #[.int .u32 xb0, .int .u32 xb1, .int .u16 xb2, .int .u16 xb3, .int .u8 xb4, .slice xab xnb xcb] 28) _ (Array.getElem?_eq_some_iff.1 bQ3).1).trans bQ3
  have bX4 := (Below.heap_alloc w3 (.cells #[.int .u32 xb0, .int .u32 xb1, .int .u16 xb2, .int .u16 xb3, .int .u8 xb4, .slice xab xnb xcb] 28) _ (Array.getElem?_eq_some_iff.1 bX3).1).trans bX3
  have bY4 := heap_alloc_new w3 (.cells #[.int .u32 xb0, .int .u32 xb1, .int .u16 xb2, .int .u16 xb3, .int .u8 xb4, .slice xab xnb xcb] 28)
  have L4 := L3.alloc L3.size (.cells #[.int .u32 xb0, .int .u32 xb1, .int .u16 xb2, .int .u16 xb3, .int .u8 xb4, .slice xab xnb xcb] 28)
  have RX4 := Lib.hid (RX3.out.allocS (.cells #[.int .u32 xb0, .int .u32 xb1, .int .u16 xb2, .int .u16 xb3, .int .u8 xb4, .slice xab xnb xcb] 28))
  have RY4 := Lib.hid (hr3.allocS (.cells #[.int .u32 xb0, .int .u32 xb1, .int .u16 xb2, .int .u16 xb3, .int .u8 xb4, .slice xab xnb xcb] 28))
  clear bU2 bP2 bQ2 bX2 bU3 bP3 bQ3 bX3 L2 L3 m3 hr3 RX2 RX3
  go_upto_region 5 with (fail)
  generalize w3.alloc (.cells #[.int .u32 xb0, .int .u32 xb1, .int .u16 xb2, .int .u16 xb3, .int .u8 xb4, .slice xab xnb xcb] 28) = W4 at *
  generalize w3.heap.size = bz at *
  obtain ⟨q0, q1, q2, q3⟩ := tup_cells _ _ _ _ bU4
  go_wp2_with (fail)
  refine (pkMake_any us ud up uq uf a3 len3 cap3 ps HH.out.1 HH.out.2 hld3 W4 (TT.out _ L4).2 (TT.out _ L4).1 (RD.out _ L4) HDL.out HDN.out).mono ?_
  rintro e w5 ⟨A5, n5, c5, rfl, hz5, R5, _, _, _, m5⟩
  have bU5 := (m5.block _ (Array.getElem?_eq_some_iff.1 bU4).1).trans bU4
  have bP5 := (m5.block _ (Array.getElem?_eq_some_iff.1 bP4).1).trans bP4
  have bQ5 := (m5.block _ (Array.getElem?_eq_some_iff.1 bQ4).1).trans bQ4
  have bX5 := (m5.block _ (Array.getElem?_eq_some_iff.1 bX4).1).trans bX4
  have bY5 := (m5.block _ (Array.getElem?_eq_some_iff.1 bY4).1).trans bY4
  have L5 := L4.trans (m5.mono L4.size)
  have RX5 := Lib.hid ((RX4.out.below m5).more m5.size)
  have RY5 := Lib.hid ((RY4.out.below m5).more m5.size)
  have ZZ5 := Lib.hid hz5
  have HR5 := Lib.hid R5
  clear q0 q1 q2 q3 bU4 bP4 bQ4 bX4 bY4 L4 RX4 RY4 m5 hz5 R5
  obtain ⟨q0, q1, q2, q3⟩ := tup_cells _ _ _ _ bU5
  go_wp2_with (fail)
  refine (refPkMake_any us ud up uq uf a3 len3 cap3 ps HH.out.1 HH.out.2 hld3 w5 (RD.out _ L5) HDL.out HDN.out).mono ?_
  rintro e w6 ⟨A6, n6, c6, rfl, hz6, R6, _, _, _, m6⟩
  have bP6 := (m6.block _ (Array.getElem?_eq_some_iff.1 bP5).1).trans bP5
  have bQ6 := (m6.block _ (Array.getElem?_eq_some_iff.1 bQ5).1).trans bQ5
  have bX6 := (m6.block _ (Array.getElem?_eq_some_iff.1 bX5).1).trans bX5
  have bY6 := (m6.block _ (Array.getElem?_eq_some_iff.1 bY5).1).trans bY5
  have L6 := L5.trans (m6.mono L5.size)
  have RX6 := Lib.hid ((RX5.out.below m6).more m6.size)
  have RY6 := Lib.hid ((RY5.out.below m6).more m6.size)
  have R56 := Lib.hid ((HR5.out.below m6).more m6.size)
  have HR6 := Lib.hid R6
  have ZZ6 := Lib.hid hz6
  clear q0 q1 q2 q3 bU5 bP5 bQ5 bX5 bY5 RX5 RY5 HR5 R6 hz6
  have CS := Lib.hid (fun W (m : Below w6.heap.size w6 W) => show (W.cell? ⟨w.heap.size + 1, 0, none⟩ = some (.int .u32 ts) ∧ W.cell? ⟨w.heap.size + 1, 1, none⟩ = some (.int .u32 td) ∧ W.cell? ⟨w.heap.size + 1, 2, none⟩ = some (.int .u16 tp) ∧ W.cell? ⟨w.heap.size + 1, 3, none⟩ = some (.int .u16 tq) ∧ W.cell? ⟨w.heap.size + 1, 4, none⟩ = some (.int .u8 kf) ∧ W.cell? ⟨w.heap.size + 1, 5, none⟩ = some (.slice ka kn kc)) ∧ (W.cell? ⟨w.heap.size + 1 + 1, 0, none⟩ = some (.int .u32 ts') ∧ W.cell? ⟨w.heap.size + 1 + 1, 1, none⟩ = some (.int .u32 td') ∧ W.cell? ⟨w.heap.size + 1 + 1, 2, none⟩ = some (.int .u16 tp') ∧ W.cell? ⟨w.heap.size + 1 + 1, 3, none⟩ = some (.int .u16 tq') ∧ W.cell? ⟨w.heap.size + 1 + 1, 4, none⟩ = some (.int .u8 kf') ∧ W.cell? ⟨w.heap.size + 1 + 1, 5, none⟩ = some (.slice ka' kn' kc')) ∧ (W.cell? ⟨bx, 0, none⟩ = some (.int .u32 xa0) ∧ W.cell? ⟨bx, 1, none⟩ = some (.int .u32 xa1) ∧ W.cell? ⟨bx, 2, none⟩ = some (.int .u16 xa2) ∧ W.cell? ⟨bx, 3, none⟩ = some (.int .u16 xa3) ∧ W.cell? ⟨bx, 4, none⟩ = some (.int .u8 xa4) ∧ W.cell? ⟨bx, 5, none⟩ = some (.slice xaa xna xca)) ∧ (W.cell? ⟨bz, 0, none⟩ = some (.int .u32 xb0) ∧ W.cell? ⟨bz, 1, none⟩ = some (.int .u32 xb1) ∧ W.cell? ⟨bz, 2, none⟩ = some (.int .u16 xb2) ∧ W.cell? ⟨bz, 3, none⟩ = some (.int .u16 xb3) ∧ W.cell? ⟨bz, 4, none⟩ = some (.int .u8 xb4) ∧ W.cell? ⟨bz, 5, none⟩ = some (.slice xab xnb xcb)) from
    ⟨pk_cells _ _ _ _ _ _ _ _ ((m.block _ (Array.getElem?_eq_some_iff.1 bP6).1).trans bP6), pk_cells _ _ _ _ _ _ _ _ ((m.block _ (Array.getElem?_eq_some_iff.1 bQ6).1).trans bQ6), pk_cells _ _ _ _ _ _ _ _ ((m.block _ (Array.getElem?_eq_some_iff.1 bX6).1).trans bX6), pk_cells _ _ _ _ _ _ _ _ ((m.block _ (Array.getElem?_eq_some_iff.1 bY6).1).trans bY6)⟩)
  have K1 := Lib.hid (fun W (m : Below w6.heap.size w6 W) => show Calls Tryd.prog 12 #[.agg #[.int .u32 xa0, .int .u32 xa1, .int .u16 xa2, .int .u16 xa3, .int .u8 xa4, .slice xaa xna xca], .agg #[.int .u32 xb0, .int .u32 xb1, .int .u16 xb2, .int .u16 xb3, .int .u8 xb4, .slice xab xnb xcb]] W fun e w' => e = .returned (.bool true) ∧ Below W.heap.size W w' from by
    have h := refPkSame_any xa0 xa1 xa2 xa3 xa4 xaa xna xca xb0 xb1 xb2 xb3 xb4 xab xnb xcb zs zt _ _ W (Nat.le_refl _) (Nat.le_refl _) ((RX6.out.below m).more m.size) ZL.out ((RY6.out.below m).more m.size) ZM.out
    rwa [PI.out.same PJ.out] at h)
  have K2 := Lib.hid (fun W (m : Below w6.heap.size w6 W) => show Calls Tryd.prog 13 #[.slice A5 n5 c5, .slice A6 n6 c6] W fun e w' => e = .returned (.bool true) ∧ W = w' from by
    have h := law5Same_any A5 n5 c5 (mkZ us ud up uq uf ps) A6 n6 c6 (mkZ us ud up uq uf ps) _ _ W ((R56.out.below m).more m.size) ZZ5.out ((HR6.out.below m).more m.size) ZZ6.out
    rwa [show eqB (mkZ us ud up uq uf ps) (mkZ us ud up uq uf ps) = true from eqB_true.2 rfl] at h)
  have K3 := Lib.hid (fun W => pkSyn_any ts td tp tq kf ka kn kc HPL.out.2.2.1 W)
  have K4 := Lib.hid (fun W => refPkSyn_any ts td tp tq kf ka kn kc W)
  have K5 := Lib.hid (fun W => pkCloses_any ts td tp tq kf ka kn kc HPL.out.2.2.1 W)
  have K6 := Lib.hid (fun W => refPkCloses_any ts td tp tq kf ka kn kc W)
  have LX := Lib.hid (fun W (m : Below w6.heap.size w6 W) => L6.trans (m.mono L6.size))
  have K7 := Lib.hid (fun W (m : Below w6.heap.size w6 W) => pkSame_any ts td tp tq kf ka kn kc ts' td' tp' tq' kf' ka' kn' kc' ks ks' _ _ W (Nat.le_refl _) (Nat.le_refl _) (RP.out _ (LX.out W m)) HPL.out.1 (RQ.out _ (LX.out W m)) HPL.out.2.2.2)
  have K8 := Lib.hid (fun W (m : Below w6.heap.size w6 W) => refPkSame_any ts td tp tq kf ka kn kc ts' td' tp' tq' kf' ka' kn' kc' ks ks' _ _ W (Nat.le_refl _) (Nat.le_refl _) (RP.out _ (LX.out W m)) HPL.out.1 (RQ.out _ (LX.out W m)) HPL.out.2.2.2)
  have K9 := Lib.hid (fun W (m : Below w6.heap.size w6 W) => pkOwn_any ts td tp tq kf ka kn kc ks W (RP.out _ (LX.out W m)) HPL.out.1 HPL.out.2.1 hkn)
  have K10 := Lib.hid (fun W (m : Below w6.heap.size w6 W) (A : Option Addr) (c : Nat) (R : Row .u8 W.heap.size W A ks) => show Calls Tryd.prog 12 #[.agg #[.int .u32 ts, .int .u32 td, .int .u16 tp, .int .u16 tq, .int .u8 kf, .slice A kn c], .agg #[.int .u32 ts, .int .u32 td, .int .u16 tp, .int .u16 tq, .int .u8 kf, .slice ka kn kc]] W fun e w' => e = .returned (.bool true) ∧ Below W.heap.size W w' from by
    have h := refPkSame_any ts td tp tq kf A kn c ts td tp tq kf ka kn kc ks ks _ _ W (Nat.le_refl _) (Nat.le_refl _) R HPL.out.1 (RP.out _ (LX.out W m)) HPL.out.1
    rwa [pkB_same] at h)
  have K11 := Lib.hid (fun W (m : Below w6.heap.size w6 W) => TW.out _ (LX.out W m))
  generalize decide (40 + ps.length ≤ 65535) = mo at *
  generalize syB kf = sy at *
  generalize clB kf = cl at *
  generalize pkB ts td tp tq kf ks ts' td' tp' tq' kf' ks' = pb at *
  have e1 : (py == py) = true := by simp
  have e2 : (mo == mo) = true := by simp
  have e3 : (sy == sy) = true := by simp
  have e4 : (cl == cl) = true := by simp
  have e5 : (pb == pb) = true := by simp
  have n0 := (Below.refl w6.heap.size w6).drew
  have H6 := Lib.hid L6
  clear bP6 bQ6 bX6 bY6 L5 L6 m6 RX6 RY6 R56 HR6
  go_wp2_with (fail)
  go_region_held3 (fun W => (W.cell? ⟨w.heap.size + 1, 0, none⟩ = some (.int .u32 ts) ∧ W.cell? ⟨w.heap.size + 1, 1, none⟩ = some (.int .u32 td) ∧ W.cell? ⟨w.heap.size + 1, 2, none⟩ = some (.int .u16 tp) ∧ W.cell? ⟨w.heap.size + 1, 3, none⟩ = some (.int .u16 tq) ∧ W.cell? ⟨w.heap.size + 1, 4, none⟩ = some (.int .u8 kf) ∧ W.cell? ⟨w.heap.size + 1, 5, none⟩ = some (.slice ka kn kc)) ∧ (W.cell? ⟨w.heap.size + 1 + 1, 0, none⟩ = some (.int .u32 ts') ∧ W.cell? ⟨w.heap.size + 1 + 1, 1, none⟩ = some (.int .u32 td') ∧ W.cell? ⟨w.heap.size + 1 + 1, 2, none⟩ = some (.int .u16 tp') ∧ W.cell? ⟨w.heap.size + 1 + 1, 3, none⟩ = some (.int .u16 tq') ∧ W.cell? ⟨w.heap.size + 1 + 1, 4, none⟩ = some (.int .u8 kf') ∧ W.cell? ⟨w.heap.size + 1 + 1, 5, none⟩ = some (.slice ka' kn' kc')) ∧ (W.cell? ⟨bx, 0, none⟩ = some (.int .u32 xa0) ∧ W.cell? ⟨bx, 1, none⟩ = some (.int .u32 xa1) ∧ W.cell? ⟨bx, 2, none⟩ = some (.int .u16 xa2) ∧ W.cell? ⟨bx, 3, none⟩ = some (.int .u16 xa3) ∧ W.cell? ⟨bx, 4, none⟩ = some (.int .u8 xa4) ∧ W.cell? ⟨bx, 5, none⟩ = some (.slice xaa xna xca)) ∧ (W.cell? ⟨bz, 0, none⟩ = some (.int .u32 xb0) ∧ W.cell? ⟨bz, 1, none⟩ = some (.int .u32 xb1) ∧ W.cell? ⟨bz, 2, none⟩ = some (.int .u16 xb2) ∧ W.cell? ⟨bz, 3, none⟩ = some (.int .u16 xb3) ∧ W.cell? ⟨bz, 4, none⟩ = some (.int .u8 xb4) ∧ W.cell? ⟨bz, 5, none⟩ = some (.slice xab xnb xcb)))
    (first | with_reducible exact CS.out _ n11 | with_reducible exact CS.out _ n10 | with_reducible exact CS.out _ n9 | with_reducible exact CS.out _ n8 | with_reducible exact CS.out _ n7 | with_reducible exact CS.out _ n6 | with_reducible exact CS.out _ n5 | with_reducible exact CS.out _ n4 | with_reducible exact CS.out _ n3 | with_reducible exact CS.out _ n1 | with_reducible exact CS.out _ n0)
    (first
      | (go_at_call 12; (with_reducible refine (K1.out w6.drew n0).mono ?_); rintro e v1 ⟨rfl, j1⟩; have n1 := n0.trans (j1.mono n0.size))
      | (go_at_call 13; (with_reducible refine (K2.out v1 n1).mono ?_); rintro e v2 ⟨rfl, rfl⟩)
      | (go_at_call 14; (with_reducible refine (K3.out v1).mono ?_); rintro e v3 ⟨rfl, j3⟩; have n3 := n1.trans (j3.mono n1.size))
      | (go_at_call 15; (with_reducible refine (K4.out v3).mono ?_); rintro e v4 ⟨rfl, j4⟩; have n4 := n3.trans (j4.mono n3.size))
      | (go_at_call 16; (with_reducible refine (K5.out v4).mono ?_); rintro e v5 ⟨rfl, j5⟩; have n5 := n4.trans (j5.mono n4.size))
      | (go_at_call 17; (with_reducible refine (K6.out v5).mono ?_); rintro e v6 ⟨rfl, j6⟩; have n6 := n5.trans (j6.mono n5.size))
      | (go_at_call 18; (with_reducible refine (K7.out v6 n6).mono ?_); rintro e v7 ⟨rfl, j7⟩; have n7 := n6.trans (j7.mono n6.size))
      | (go_at_call 12; (with_reducible refine (K8.out v7 n7).mono ?_); rintro e v8 ⟨rfl, j8⟩; have n8 := n7.trans (j8.mono n7.size))
      | (go_at_call 19; (with_reducible refine (K9.out v8 n8).mono ?_); rintro e v9 ⟨A9, c9, rfl, R9, j9⟩; have n9 := n8.trans (j9.mono n8.size))
      | (go_at_call 12; (with_reducible refine (K10.out v9 n9 A9 c9 R9).mono ?_); rintro e v10 ⟨rfl, j10⟩; have n10 := n9.trans (j10.mono n9.size))
      | (go_at_call 7; (with_reducible refine (K11.out v10 n10).mono ?_); rintro e v11 ⟨rfl, j11⟩; have n11 := n10.trans (j11.mono n10.size)))
  go_wp2
  go_ret
  exact ⟨rfl, H6.out.trans (n11.mono H6.out.size)⟩
end Go.Proofs.YtnncmcfonkhckaaDoor
