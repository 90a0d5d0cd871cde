/- 'handfastlaw03.TcpTells' returns true at every two addresses, all bytes, every two heads and every number, and leaves what lay as it lay. -/
import Derived.Test.YtclofmgnnohhpaaTcpX
namespace Go.Proofs.Ytclofmgnnohhpaa
open Go.RowKit
open SumM

set_option maxRecDepth 100000 in
set_option maxHeartbeats 16000000 in
theorem tcpTells_walk (s d : Int) (a2 : Option Addr) (len2 cap2 : Nat) (z2 : List Int) (sp dp tf hd : Int) (da : Option Addr) (dn dc : Nat) (ps : List Int) (sp' dp' tf' hd' : Int) (da' : Option Addr) (dn' dc' : Nat) (ps' : List Int) (n : Int) (w : World) (w0 : (Lit.int .u32 s).wf = true) (w1 : (Lit.int .u32 d).wf = true) (w2 : IsRow .u8 w a2 len2 cap2 z2) (h : IsTcp w sp dp tf hd da dn dc ps) (h' : IsTcp w sp' dp' tf' hd' da' dn' dc' ps') (_ : (Lit.int .i64 n).wf = true) :
    Calls Try.prog 3 #[.int .u32 s, .int .u32 d, .slice a2 len2 cap2, .agg #[.int .u16 sp, .int .u16 dp, .int .u8 tf, .int .i64 hd, .slice da dn dc], .agg #[.int .u16 sp', .int .u16 dp', .int .u8 tf', .int .i64 hd', .slice da' dn' dc'], .int .i64 n] w fun e w' => e = .returned (.bool true) ∧ Below w.heap.size w w' := by
  have hs := wf_u32.1 w0
  have hd0 := wf_u32.1 w1
  obtain ⟨hN, hhd, hrp, hpl, hpn, hpc⟩ := h
  obtain ⟨hN', hhd', hrp', hpl', hpn', hpc'⟩ := h'
  obtain ⟨hrz, hzl, hnz, hlz, hmz⟩ := w2.row
  clear w0 w1 w2
  generalize z2.take len2 = zs at *
  unfold maxLen at hpc hpc' hmz
  have HN := Lib.hid hN
  have HP := Lib.hid hpl
  have NP := Lib.hid hpn
  have HP' := Lib.hid hpl'
  have ZL := Lib.hid hzl
  have RP := Lib.hid (fun W (m : Below w.heap.size w W) => (hrp.below m).more m.size)
  have RP' := Lib.hid (fun W (m : Below w.heap.size w W) => (hrp'.below m).more m.size)
  have RZ := Lib.hid (fun W (m : Below w.heap.size w W) => (hrz.below m).more m.size)
  have ZI := Lib.hid (row_in hrz)
  clear hN hN' hrp hpl hpn hrp' hpl' hpn' hrz hzl hnz
  have hO0 := heap_alloc_new (w.alloc (.cells #[.int .u16 sp, .int .u16 dp, .int .u8 tf, .int .i64 hd, .slice da dn dc] 26)) (.cells #[.int .u16 sp', .int .u16 dp', .int .u8 tf', .int .i64 hd', .slice da' dn' dc'] 26)
  rw [World.size_alloc] at hO0
  have hH0 := (Below.heap_alloc (w.alloc (.cells #[.int .u16 sp, .int .u16 dp, .int .u8 tf, .int .i64 hd, .slice da dn dc] 26)) (.cells #[.int .u16 sp', .int .u16 dp', .int .u8 tf', .int .i64 hd', .slice da' dn' dc'] 26) w.heap.size (by simp)).trans (heap_alloc_new w (.cells #[.int .u16 sp, .int .u16 dp, .int .u8 tf, .int .i64 hd, .slice da dn dc] 26))
  have L0 := ((Below.refl w.heap.size w).alloc (Nat.le_refl _) (.cells #[.int .u16 sp, .int .u16 dp, .int .u8 tf, .int .i64 hd, .slice da dn dc] 26)).alloc (by simp) (.cells #[.int .u16 sp', .int .u16 dp', .int .u8 tf', .int .i64 hd', .slice da' dn' dc'] 26)
  obtain ⟨q00, q01, q02, q03, q04⟩ := tcp_cells _ _ _ _ _ _ _ hH0
  obtain ⟨q10, q11, q12, q13, q14⟩ := tcp_cells _ _ _ _ _ _ _ hO0
  by_cases hbig : 3000 < len2 ∨ 3000 < dn ∨ 3000 < dn'
  · have hb : (decide ((3000 : Int) < (len2 : Int)) = true) ∨ (decide ((3000 : Int) < (len2 : Int)) = false ∧ decide ((3000 : Int) < (dn : Int)) = true) ∨ (decide ((3000 : Int) < (len2 : Int)) = false ∧ decide ((3000 : Int) < (dn : Int)) = false ∧ decide ((3000 : Int) < (dn' : Int)) = true) := by
      simp only [decide_eq_true_eq, decide_eq_false_iff_not]
      omega
    clear hbig
    rcases hb with p1 | ⟨p1, p2⟩ | ⟨p1, p2, p3⟩
    all_goals
      go_enter Try.func3, Try.ntmps3
      go_wp2_with (go_at_call 7; refine (twakes_any _).mono ?_; rintro e w3 ⟨rfl, m3⟩)
      go_ret
      exact ⟨rfl, L0.trans (m3.mono L0.size)⟩
  have p1 : decide ((3000 : Int) < (len2 : Int)) = false := decide_eq_false (by omega)
  have p2 : decide ((3000 : Int) < (dn : Int)) = false := decide_eq_false (by omega)
  have p3 : decide ((3000 : Int) < (dn' : Int)) = false := decide_eq_false (by omega)
  go_enter Try.func3, Try.ntmps3
  go_wp2_with fail
  generalize (w.alloc (.cells #[.int .u16 sp, .int .u16 dp, .int .u8 tf, .int .i64 hd, .slice da dn dc] 26)).alloc (.cells #[.int .u16 sp', .int .u16 dp', .int .u8 tf', .int .i64 hd', .slice da' dn' dc'] 26) = W0 at *
  have zH := (Array.getElem?_eq_some_iff.1 hH0).1
  have zO := (Array.getElem?_eq_some_iff.1 hO0).1
  have QH := Lib.hid (fun W (mm : Below W0.heap.size W0 W) => (mm.block _ zH).trans hH0)
  have QO := Lib.hid (fun W (mm : Below W0.heap.size W0 W) => (mm.block _ zO).trans hO0)
  clear hH0 hO0 q00 q01 q02 q03 q04 q10 q11 q12 q13 q14
  refine (tcpParse_any s d hs hd0 a2 len2 cap2 zs ZL.out hlz (by omega) W0 (RZ.out _ L0)).mono ?_
  intro e w5 hp5
  obtain ⟨x1, x2, x3, x4, xa, xn, xc, xp, rfl, hx, X2, xm, k5⟩ := tparse_as ZI.out hp5
  have hB5 := heap_alloc_new w5 (.cells #[.int .u16 x1, .int .u16 x2, .int .u8 x3, .int .i64 x4, .slice xa xn xc] 26)
  have l5 := k5.alloc k5.size (.cells #[.int .u16 x1, .int .u16 x2, .int .u8 x3, .int .i64 x4, .slice xa xn xc] 26)
  have L5 := L0.trans (l5.mono L0.size)
  have V2 := X2.allocS (.cells #[.int .u16 x1, .int .u16 x2, .int .u8 x3, .int .i64 x4, .slice xa xn xc] 26)
  have HX := Lib.hid hx
  have XM := Lib.hid xm
  clear hp5 hx xm k5 L0 X2
  go_wp2_with fail
  generalize w5.alloc (.cells #[.int .u16 x1, .int .u16 x2, .int .u8 x3, .int .i64 x4, .slice xa xn xc] 26) = w5' at *
  generalize hb1 : w5.heap.size = b1 at *
  have zX := (Array.getElem?_eq_some_iff.1 hB5).1
  clear hb1
  refine (refTcpParse_any s d hs hd0 a2 len2 cap2 zs ZL.out hlz (by omega) (by omega) w5' (RZ.out _ L5)).mono ?_
  intro e w6 hp6
  obtain ⟨y1, y2, y3, y4, ya, yn, yc, yp, rfl, hy, Y2, ym, k6⟩ := tparse_as ZI.out hp6
  obtain rfl : x1 = y1 := HX.out.h1.trans hy.h1.symm
  obtain rfl : x2 = y2 := HX.out.h2.trans hy.h2.symm
  obtain rfl : x3 = y3 := HX.out.h3.trans hy.h3.symm
  obtain rfl : x4 = y4 := HX.out.h4.trans hy.h4.symm
  obtain rfl : xp = yp := HX.out.h5.trans hy.h5.symm
  obtain rfl : xn = yn := by rw [← ym, XM.out]
  have hB6' := heap_alloc_new w6 (.cells #[.int .u16 x1, .int .u16 x2, .int .u8 x3, .int .i64 x4, .slice ya xn yc] 26)
  have l6 := k6.alloc k6.size (.cells #[.int .u16 x1, .int .u16 x2, .int .u8 x3, .int .i64 x4, .slice ya xn yc] 26)
  have L6 := L5.trans (l6.mono L5.size)
  have M6 := l5.trans (l6.mono l5.size)
  have V4 := V2.step l6
  have T2 := Y2.allocS (.cells #[.int .u16 x1, .int .u16 x2, .int .u8 x3, .int .i64 x4, .slice ya xn yc] 26)
  have hB6 := (l6.block _ zX).trans hB5
  have YM := Lib.hid ym
  clear hp6 hy ym k6 l6 L5 l5 V2 Y2 hB5 HX XM zX
  obtain ⟨q00, q01, q02, q03, q04⟩ := tcp_cells _ _ _ _ _ _ _ (QH.out _ M6)
  go_wp2_with fail
  generalize w6.alloc (.cells #[.int .u16 x1, .int .u16 x2, .int .u8 x3, .int .i64 x4, .slice ya xn yc] 26) = w7 at *
  generalize hb2 : w6.heap.size = b2 at *
  clear hb2
  refine (tcpPut_as s d sp dp tf hd da dn dc ps hs hd0 HN.out hhd (by omega) w7 (RP.out _ L6) HP.out NP.out).mono ?_
  rintro e w8 ⟨A1, m1, C1, rfl, z1, R1, _, _, _, k8⟩
  have L8 := L6.trans (k8.mono L6.size)
  have M8 := M6.trans (k8.mono M6.size)
  have V8 := V4.step k8
  have T8 := T2.step k8
  have hB8 := (k8.block _ (Array.getElem?_eq_some_iff.1 hB6).1).trans hB6
  have hB8' := (k8.block _ (Array.getElem?_eq_some_iff.1 hB6').1).trans hB6'
  have Z1 := Lib.hid z1
  clear q00 q01 q02 q03 q04 z1 k8 L6 M6 V4 T2 hB6 hB6'
  obtain ⟨q00, q01, q02, q03, q04⟩ := tcp_cells _ _ _ _ _ _ _ (QH.out _ M8)
  go_wp2_with fail
  refine (refTcpPut_as s d sp dp tf hd da dn dc ps hs hd0 HN.out hhd (by omega) w8 (RP.out _ L8) HP.out NP.out).mono ?_
  rintro e w9 ⟨A2, m2, C2, rfl, z2', R2, _, _, _, k9⟩
  obtain rfl : m1 = m2 := by rw [← z2', Z1.out]
  have L9 := L8.trans (k9.mono L8.size)
  have M9 := M8.trans (k9.mono M8.size)
  have V9 := V8.step k9
  have T9 := T8.step k9
  have U9 := R1.step k9
  have hB9 := (k9.block _ (Array.getElem?_eq_some_iff.1 hB8).1).trans hB8
  have hB9' := (k9.block _ (Array.getElem?_eq_some_iff.1 hB8').1).trans hB8'
  clear q00 q01 q02 q03 q04 z2' k9 L8 M8 V8 T8 R1 hB8 hB8'
  go_wp2_with fail
  have RS := Lib.hid (fun W (m : Below w9.heap.size w9 W) => show W.cell? ⟨w.heap.size, 0, none⟩ = some (.int .u16 sp) ∧ W.cell? ⟨w.heap.size, 1, none⟩ = some (.int .u16 dp) ∧ W.cell? ⟨w.heap.size, 2, none⟩ = some (.int .u8 tf) ∧ W.cell? ⟨w.heap.size, 3, none⟩ = some (.int .i64 hd) ∧ W.cell? ⟨w.heap.size, 4, none⟩ = some (.slice da dn dc) ∧ W.cell? ⟨w.heap.size + 1, 0, none⟩ = some (.int .u16 sp') ∧ W.cell? ⟨w.heap.size + 1, 1, none⟩ = some (.int .u16 dp') ∧ W.cell? ⟨w.heap.size + 1, 2, none⟩ = some (.int .u8 tf') ∧ W.cell? ⟨w.heap.size + 1, 3, none⟩ = some (.int .i64 hd') ∧ W.cell? ⟨w.heap.size + 1, 4, none⟩ = some (.slice da' dn' dc') ∧ W.cell? ⟨b1, 0, none⟩ = some (.int .u16 x1) ∧ W.cell? ⟨b1, 1, none⟩ = some (.int .u16 x2) ∧ W.cell? ⟨b1, 2, none⟩ = some (.int .u8 x3) ∧ W.cell? ⟨b1, 3, none⟩ = some (.int .i64 x4) ∧ W.cell? ⟨b1, 4, none⟩ = some (.slice xa xn xc) ∧ W.cell? ⟨b2, 0, none⟩ = some (.int .u16 x1) ∧ W.cell? ⟨b2, 1, none⟩ = some (.int .u16 x2) ∧ W.cell? ⟨b2, 2, none⟩ = some (.int .u8 x3) ∧ W.cell? ⟨b2, 3, none⟩ = some (.int .i64 x4) ∧ W.cell? ⟨b2, 4, none⟩ = some (.slice ya xn yc) from by
    obtain ⟨a0, a1, a2, a3, a4⟩ := tcp_cells _ _ _ _ _ _ _ (QH.out W (M9.trans (m.mono M9.size)))
    obtain ⟨b0, b1, b2, b3, b4⟩ := tcp_cells _ _ _ _ _ _ _ (QO.out W (M9.trans (m.mono M9.size)))
    obtain ⟨c0, c1, c2, c3, c4⟩ := tcp_cells _ _ _ _ _ _ _ ((m.block _ (Array.getElem?_eq_some_iff.1 hB9).1).trans hB9)
    obtain ⟨d0, d1, d2, d3, d4⟩ := tcp_cells _ _ _ _ _ _ _ ((m.block _ (Array.getElem?_eq_some_iff.1 hB9').1).trans hB9')
    exact ⟨a0, a1, a2, a3, a4, b0, b1, b2, b3, b4, c0, c1, c2, c3, c4, d0, d1, d2, d3, d4⟩)
  have BX := Lib.hid (fun W (m : Below w9.heap.size w9 W) => V9.below m)
  have BY := Lib.hid (fun W (m : Below w9.heap.size w9 W) => T9.below m)
  have BU := Lib.hid (fun W (m : Below w9.heap.size w9 W) => U9.below m)
  have BV := Lib.hid (fun W (m : Below w9.heap.size w9 W) => R2.below m)
  have BL := Lib.hid (fun W (m : Below w9.heap.size w9 W) => L9.trans (m.mono L9.size))
  have hqq : eqB (tputB s d sp dp tf hd dn ps) (tputB s d sp dp tf hd dn ps) = true := by simp [eqB]
  have hqp : eqB (psOf s d n) (psOf s d n) = true := by simp [eqB]
  have PSI := Lib.hid (in_wf8 (psOf_in hs hd0 n))
  have sx : tsameB x1 x2 x3 x4 xp x1 x2 x3 x4 xp = true := by simp [tsameB]
  have HQQ := Lib.hid hqq
  have HQP := Lib.hid hqp
  have SX := Lib.hid sx
  have nn0 := (Below.refl w9.heap.size w9).drew
  clear hqq hqp sx U9 R2 V9 T9 hB9 hB9' L9 M9
  go_region_held3 (fun W => W.cell? ⟨w.heap.size, 0, none⟩ = some (.int .u16 sp) ∧ W.cell? ⟨w.heap.size, 1, none⟩ = some (.int .u16 dp) ∧ W.cell? ⟨w.heap.size, 2, none⟩ = some (.int .u8 tf) ∧ W.cell? ⟨w.heap.size, 3, none⟩ = some (.int .i64 hd) ∧ W.cell? ⟨w.heap.size, 4, none⟩ = some (.slice da dn dc) ∧ W.cell? ⟨w.heap.size + 1, 0, none⟩ = some (.int .u16 sp') ∧ W.cell? ⟨w.heap.size + 1, 1, none⟩ = some (.int .u16 dp') ∧ W.cell? ⟨w.heap.size + 1, 2, none⟩ = some (.int .u8 tf') ∧ W.cell? ⟨w.heap.size + 1, 3, none⟩ = some (.int .i64 hd') ∧ W.cell? ⟨w.heap.size + 1, 4, none⟩ = some (.slice da' dn' dc') ∧ W.cell? ⟨b1, 0, none⟩ = some (.int .u16 x1) ∧ W.cell? ⟨b1, 1, none⟩ = some (.int .u16 x2) ∧ W.cell? ⟨b1, 2, none⟩ = some (.int .u8 x3) ∧ W.cell? ⟨b1, 3, none⟩ = some (.int .i64 x4) ∧ W.cell? ⟨b1, 4, none⟩ = some (.slice xa xn xc) ∧ W.cell? ⟨b2, 0, none⟩ = some (.int .u16 x1) ∧ W.cell? ⟨b2, 1, none⟩ = some (.int .u16 x2) ∧ W.cell? ⟨b2, 2, none⟩ = some (.int .u8 x3) ∧ W.cell? ⟨b2, 3, none⟩ = some (.int .i64 x4) ∧ W.cell? ⟨b2, 4, none⟩ = some (.slice ya xn yc))
    (first | with_reducible exact RS.out _ nn8 | with_reducible exact RS.out _ nn7 | with_reducible exact RS.out _ nn6 | with_reducible exact RS.out _ nn4 | with_reducible exact RS.out _ nn3 | with_reducible exact RS.out _ nn1 | with_reducible exact RS.out _ nn0)
    (first
      | (go_at_call 12; (with_reducible refine (refTcpSame_any x1 x2 x3 x4 xa xn xc x1 x2 x3 x4 ya xn yc xp xp _ _ _ nn0.size nn0.size (BX.out _ nn0) YM.out (BY.out _ nn0) YM.out).mono ?_); rintro e v1 ⟨rfl, k1⟩; rw [SX.out]; have nn1 := nn0.trans (k1.mono nn0.size))
      | (go_at_call 13; (with_reducible refine (lawSame_any A1 m1 C1 _ A2 m1 C2 _ _ _ v1 (BU.out _ nn1) Z1.out (BV.out _ nn1) Z1.out).mono ?_); rintro e v2 ⟨rfl, rfl⟩; rw [HQQ.out])
      | (go_at_call 14; (with_reducible refine (pseudo_any s d n hs hd0 v1).mono ?_); rintro e v3 ⟨rfl, hv3⟩; have k3 : Below v1.heap.size v1 v3 := (by rw [hv3]; exact psW_below s d n v1); have nn3 := nn1.trans (k3.mono nn1.size); have R3 : Row .u8 v3.heap.size v3 (some ⟨v1.heap.size, 0, none⟩) (psOf s d n) := (by rw [hv3, psW_size]; exact Row.built .u8 v1 50 (psOf s d n) PSI.out); clear hv3)
      | (go_at_call 15; (with_reducible refine (rpseudo_any s d n hs hd0 v3).mono ?_); rintro e v4 ⟨A4, c4, rfl, O4, k4⟩; have nn4 := nn3.trans (k4.mono nn3.size); have R4 := Row.of_own O4 PSI.out)
      | (go_at_call 13; (with_reducible refine (lawSame_any _ 12 12 _ A4 12 c4 _ _ _ v4 (R3.below k4) rfl R4 rfl).mono ?_); rintro e v5 ⟨rfl, rfl⟩; rw [HQP.out])
      | (go_at_call 16; (with_reducible refine (tcpSame_any sp dp tf hd da dn dc sp' dp' tf' hd' da' dn' dc' ps ps' _ _ _ (Nat.le_refl _) (Nat.le_refl _) (RP.out _ (BL.out _ nn4)) HP.out (RP'.out _ (BL.out _ nn4)) HP'.out).mono ?_); rintro e v6 ⟨rfl, k6⟩; have nn6 := nn4.trans (k6.mono nn4.size))
      | (go_at_call 12; (with_reducible refine (refTcpSame_any sp dp tf hd da dn dc sp' dp' tf' hd' da' dn' dc' ps ps' _ _ _ (Nat.le_refl _) (Nat.le_refl _) (RP.out _ (BL.out _ nn6)) HP.out (RP'.out _ (BL.out _ nn6)) HP'.out).mono ?_); rintro e v7 ⟨rfl, k7⟩; have nn7 := nn6.trans (k7.mono nn6.size))
      | (go_at_call 7; (with_reducible refine (twakes_any v7).mono ?_); rintro e v8 ⟨rfl, k8⟩; have nn8 := nn7.trans (k8.mono nn7.size)))
  all_goals go_wp2
  all_goals go_ret
  all_goals exact ⟨rfl, BL.out _ nn8⟩
end Go.Proofs.Ytclofmgnnohhpaa
