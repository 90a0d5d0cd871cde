/- handfastlaw11.wakes returns true. -/
import Derived.Test.YthgoopdekllanaaShV
import Derived.Test.YthgoopdekllanaaShY
import Derived.Deep.RegionHeldLaw
namespace Go.Proofs.Ythgoopdekllanaa
open Go.RowKit Go.Shelf
open SumM

attribute [local go_sem] Oper.semAt_some
attribute [local go_sem ↓] zero_tab
attribute [local go_sem ↓] nm_ldT nm_stT

def rsW : List SR := [(3, 1, 0, 2, 9)]
def pbW : List Int := [0, 0, 0, 0, 0, 5, 0, 0, 0, 0, 0, 7, 1, 3, 2, 1, 0, 0, 0, 2, 0, 0, 0, 0, 0, 9]
set_option maxRecDepth 100000 in
theorem wk11a : dlS elT nwT = (4, 7, rsW, 0) ∧ spB 4 7 rsW = pbW ∧ spE 4 7 rsW = 0 ∧ tkS pbW = (4, 7, rsW, 0) := ⟨by kernel_rfl, by kernel_rfl, by kernel_rfl, by kernel_rfl⟩
set_option maxRecDepth 100000 in
theorem wk11b : ofS nwT = (-1, 7, allS nwT, 0) ∧ dlS nwT elT = (0, 0, [], 2) ∧ spB 0 0 [] = [] ∧ spE 0 0 [] = 2 ∧ tkS (pbW.take 25) = (0, 0, [], 61) ∧ tkS (pbW ++ [0]) = (0, 0, [], 60) ∧ shOk 4 7 rsW = true ∧ shOk 0 0 [] = false ∧ smS 4 7 rsW 4 7 rsW = true ∧ smS 4 7 rsW (-1) 7 (allS nwT) = false := ⟨by kernel_rfl, by kernel_rfl, by kernel_rfl, by kernel_rfl, by kernel_rfl, by kernel_rfl, by kernel_rfl, by kernel_rfl, by kernel_rfl, by kernel_rfl⟩
theorem wk11c : In 255 pbW := by unfold In pbW; decide
theorem wk11d : nwT 13 = 1 ∧ nwT 14 = 0 ∧ nwT 15 = 2 ∧ nwT 16 = 9 := ⟨rfl, rfl, rfl, rfl⟩
theorem lenW : rsW.length = 1 ∧ pbW.length = 26 := ⟨rfl, rfl⟩

set_option maxRecDepth 100000 in
set_option maxHeartbeats 16000000 in
theorem wakes_any (w : World) :
    Calls Try.prog 10 #[] w fun e w' => e = .returned (.bool true) ∧ Below w.heap.size w w' := by
  obtain ⟨i0, hi, hz0, hz1, hz2⟩ := info_parts Try.infoU8
  have HK := Lib.hid (And.intro wk11a wk11b)
  have KD := Lib.hid (fun W => wk11a.1 ▸ sDelta_any elT nwT W)
  have KD2 := Lib.hid (fun W => wk11b.2.1 ▸ sDelta_any nwT elT W)
  have KO := Lib.hid (fun W => wk11b.1 ▸ sOf_any nwT W)
  have KP := Lib.hid (fun (sa : Option Addr) (sc : Nat) (W : World) (h : SRow5 W.heap.size W sa rsW) => show Calls Try.prog 15 #[.agg #[.int .i64 4, .int .i64 7, .slice sa 1 sc]] W (fun e w' => ∃ v, e = .returned (.tuple #[v, .int .i64 0]) ∧ w'.ownsRow W.heap.size 5 1 v 26 (pbW.map (Value.int .u8)) ∧ Below W.heap.size W w') from by
    have := sPut_any 4 7 sa 1 sc rsW rfl (by omega) W h
    unfold SPut at this
    rw [wk11a.2.1, wk11a.2.2.1] at this
    exact this)
  have KP0 := Lib.hid (fun (W : World) => show Calls Try.prog 15 #[.agg #[.int .i64 0, .int .i64 0, .slice none 0 0]] W (fun e w' => ∃ v, e = .returned (.tuple #[v, .int .i64 2]) ∧ Below W.heap.size W w') from by
    have := sPut_any 0 0 none 0 0 [] rfl (by omega) W (SRow.nil _ _ _ _ _)
    unfold SPut at this
    rw [wk11b.2.2.1, wk11b.2.2.2.1] at this
    exact this.mono fun e w' ⟨v, h1, _, h3⟩ => ⟨v, h1, h3⟩)
  have KT := Lib.hid (fun (a : Option Addr) (cap : Nat) (hc : 26 ≤ cap) (W : World) (h : Row .u8 W.heap.size W a pbW) => wk11a.2.2.2 ▸ sTake_any a 26 cap pbW rfl hc (by omega) W h)
  have KT1 := Lib.hid (fun (a : Option Addr) (cap : Nat) (hc : 25 ≤ cap) (W : World) (h : Row .u8 W.heap.size W a (pbW.take 25)) => wk11b.2.2.2.2.1 ▸ sTake_any a 25 cap (pbW.take 25) rfl hc (by omega) W h)
  have KT2 := Lib.hid (fun (a : Option Addr) (cap : Nat) (hc : 27 ≤ cap) (W : World) (h : Row .u8 W.heap.size W a (pbW ++ [0])) => wk11b.2.2.2.2.2.1 ▸ sTake_any a 27 cap (pbW ++ [0]) rfl hc (by omega) W h)
  go_enter Try.func10, Try.ntmps10
  go_wp2_with fail
  refine (tables_any w).mono ?_
  rintro e w1 ⟨rfl, m1⟩
  have y1 : NB w1.heap.size 26 65 zeroT ((w1.alloc (.cells (numL 65 zeroT).toArray 26)).alloc (.cells (numL 65 zeroT).toArray 26)) := blkN (heap_alloc_new w1 _) _
  have y2 : NB (w1.heap.size + 1) 26 65 zeroT ((w1.alloc (.cells (numL 65 zeroT).toArray 26)).alloc (.cells (numL 65 zeroT).toArray 26)) := newN _ _ _ (by simp)
  have s1 := st_tab y1 elT
  have s2 := st_tab (T := zeroT) (w := ((w1.alloc (.cells (numL 65 zeroT).toArray 26)).alloc (.cells (numL 65 zeroT).toArray 26)).setCells w1.heap.size 0 (numL 65 elT)) (b := w1.heap.size + 1) ((nb_other (by omega) _ _ _).trans y2) nwT
  have M1 := ((Below.refl w1.heap.size w1).alloc (Nat.le_refl _) (.cells (numL 65 zeroT).toArray 26)).alloc (by simp) (.cells (numL 65 zeroT).toArray 26)
  have HA := Lib.hid (show NB w1.heap.size 26 65 elT ((((w1.alloc (.cells (numL 65 zeroT).toArray 26)).alloc (.cells (numL 65 zeroT).toArray 26)).setCells w1.heap.size 0 (numL 65 elT)).setCells (w1.heap.size + 1) 0 (numL 65 nwT)) ∧ NB (w1.heap.size + 1) 26 65 nwT ((((w1.alloc (.cells (numL 65 zeroT).toArray 26)).alloc (.cells (numL 65 zeroT).toArray 26)).setCells w1.heap.size 0 (numL 65 elT)).setCells (w1.heap.size + 1) 0 (numL 65 nwT)) ∧ Below w.heap.size w ((((w1.alloc (.cells (numL 65 zeroT).toArray 26)).alloc (.cells (numL 65 zeroT).toArray 26)).setCells w1.heap.size 0 (numL 65 elT)).setCells (w1.heap.size + 1) 0 (numL 65 nwT)) from
    ⟨(nb_other (by omega) _ _ _).trans (nb_full y1 elT), nb_full ((nb_other (by omega) _ _ _).trans y2) nwT, m1.trans ((below_setCells (w1.heap.size + 1) (by omega) _ 0 w1 _ (below_setCells w1.heap.size (Nat.le_refl _) _ 0 w1 _ M1)).mono m1.size)⟩)
  clear y1 y2 m1 M1
  generalize hq1 : elT = tq at *
  generalize hq2 : nwT = tn at *
  have HQ := Lib.hid (And.intro hq1 hq2)
  clear hq1 hq2
  go_upto_region 2 with fail
  clear s1 s2
  generalize ((((w1.alloc (.cells (numL 65 zeroT).toArray 26)).alloc (.cells (numL 65 zeroT).toArray 26)).setCells w1.heap.size 0 (numL 65 tq)).setCells (w1.heap.size + 1) 0 (numL 65 tn)) = W1 at *
  generalize w1.heap.size = b1 at *
  have l1 := ld_tab HA.out.1
  have l2 := ld_tab HA.out.2.1
  go_wp2_with fail
  refine (KD.out W1).mono ?_
  rintro e w2 hr
  obtain ⟨S1, c1, rfl, hc0, hc1, O2, m2⟩ := hr.slice (n := 1) rfl
  replace O2 : w2.ownsRow w.heap.size 63 5 (.slice S1 1 c1) 1 (flatS rowC rsW) := ownS_base O2 HA.out.2.2.size
  have HC1 := Lib.hid (And.intro hc0 (show 1 ≤ c1 from hc1))
  have M2 := m2.trans ((Below.refl w2.heap.size w2).alloc (Nat.le_refl _) (.cells #[.int .i64 4, .int .i64 7, .slice S1 1 c1] 29) |>.mono m2.size)
  have HB := Lib.hid (show NB b1 26 65 tq (w2.alloc (.cells #[.int .i64 4, .int .i64 7, .slice S1 1 c1] 29)) ∧ NB (b1 + 1) 26 65 tn (w2.alloc (.cells #[.int .i64 4, .int .i64 7, .slice S1 1 c1] 29)) ∧ Below w.heap.size w (w2.alloc (.cells #[.int .i64 4, .int .i64 7, .slice S1 1 c1] 29)) ∧ (w2.alloc (.cells #[.int .i64 4, .int .i64 7, .slice S1 1 c1] 29)).heap[w2.heap.size]? = some (.cells #[.int .i64 4, .int .i64 7, .slice S1 1 c1] 29 (0, 0)) ∧ (w2.alloc (.cells #[.int .i64 4, .int .i64 7, .slice S1 1 c1] 29)).ownsRow w.heap.size 63 5 (.slice S1 1 c1) 1 (flatS rowC rsW) from
    ⟨nb_below HA.out.1 M2, nb_below HA.out.2.1 M2, HA.out.2.2.trans (M2.mono HA.out.2.2.size), heap_alloc_new w2 _, ownS_below O2 ((Below.refl w2.heap.size w2).alloc (Nat.le_refl _) _)⟩)
  clear m2 M2 O2 hc0 hc1 l1 l2 HA
  have zz := heap_alloc_new w2 (.cells #[.int .i64 0, .int .i64 0, .slice none 0 0] 29)
  obtain ⟨z0, z1, z2⟩ := sh_cells _ _ _ _ _ zz
  have f0 := sh_frozen zz 0
  have f1 := sh_frozen zz 1
  have f2 := sh_frozen zz 2
  clear zz
  go_upto_region 3 with fail
  clear z0 z1 z2 f0 f1 f2
  generalize w2.alloc (.cells #[.int .i64 4, .int .i64 7, .slice S1 1 c1] 29) = W2 at *
  generalize w2.heap.size = b3 at *
  have HP3 := Lib.hid (KP.out S1 c1 W2 (SRow.of_own rowC_len (by decide) HB.out.2.2.2.2))
  obtain ⟨q0, q1, q2⟩ := sh_cells _ _ _ _ _ HB.out.2.2.2.1
  go_wp2_with fail
  refine HP3.out.mono ?_
  rintro e w3 ⟨v, rfl, O3, m3⟩
  obtain ⟨P, cp, rfl, hc0, hc1, hc2⟩ := ownS_slice O3
  replace O3 : w3.ownsRow w.heap.size 5 1 (.slice P 26 cp) 26 (pbW.map (Value.int .u8)) := ownS_base O3 HB.out.2.2.1.size
  obtain ⟨gp, hgp, _, _⟩ := own_addr O3 (by omega)
  subst hgp
  have HC2 := Lib.hid hc1
  have HB3 := Lib.hid (show NB b1 26 65 tq w3 ∧ NB (b1 + 1) 26 65 tn w3 ∧ Below w.heap.size w w3 ∧ w3.heap[b3]? = some (.cells #[.int .i64 4, .int .i64 7, .slice S1 1 c1] 29 (0, 0)) ∧ w3.ownsRow w.heap.size 63 5 (.slice S1 1 c1) 1 (flatS rowC rsW) ∧ w3.ownsRow w.heap.size 5 1 (.slice (some ⟨gp, 0, none⟩) 26 cp) 26 (pbW.map (Value.int .u8)) from
    ⟨nb_below HB.out.1 m3, nb_below HB.out.2.1 m3, HB.out.2.2.1.trans (m3.mono HB.out.2.2.1.size), bb HB.out.2.2.2.1 m3, ownS_below HB.out.2.2.2.2 m3, O3⟩)
  clear q0 q1 q2 hc0 hc1 hc2 O3 m3 HP3 HB
  have HT3 := Lib.hid (KT.out (some ⟨gp, 0, none⟩) cp HC2.out w3 (Row.of_own HB3.out.2.2.2.2.2 (in_wf8 wk11c)))
  go_wp2_with fail
  refine HT3.out.mono ?_
  rintro e w4 hr
  obtain ⟨S2, c2, rfl, hc0, hc1, O4, m4⟩ := hr.slice (n := 1) rfl
  replace O4 : w4.ownsRow w.heap.size 63 5 (.slice S2 1 c2) 1 (flatS rowC rsW) := ownS_base O4 HB3.out.2.2.1.size
  have M4 := m4.trans (((Below.refl w4.heap.size w4).alloc (Nat.le_refl _) (.cells #[.int .i64 4, .int .i64 7, .slice S2 1 c2] 29)).mono m4.size)
  have HB4 := Lib.hid (show NB b1 26 65 tq (w4.alloc (.cells #[.int .i64 4, .int .i64 7, .slice S2 1 c2] 29)) ∧ NB (b1 + 1) 26 65 tn (w4.alloc (.cells #[.int .i64 4, .int .i64 7, .slice S2 1 c2] 29)) ∧ Below w.heap.size w (w4.alloc (.cells #[.int .i64 4, .int .i64 7, .slice S2 1 c2] 29)) ∧ (w4.alloc (.cells #[.int .i64 4, .int .i64 7, .slice S2 1 c2] 29)).heap[b3]? = some (.cells #[.int .i64 4, .int .i64 7, .slice S1 1 c1] 29 (0, 0)) ∧ (w4.alloc (.cells #[.int .i64 4, .int .i64 7, .slice S2 1 c2] 29)).ownsRow w.heap.size 63 5 (.slice S1 1 c1) 1 (flatS rowC rsW) ∧ (w4.alloc (.cells #[.int .i64 4, .int .i64 7, .slice S2 1 c2] 29)).ownsRow w.heap.size 5 1 (.slice (some ⟨gp, 0, none⟩) 26 cp) 26 (pbW.map (Value.int .u8)) ∧ (w4.alloc (.cells #[.int .i64 4, .int .i64 7, .slice S2 1 c2] 29)).heap[w4.heap.size]? = some (.cells #[.int .i64 4, .int .i64 7, .slice S2 1 c2] 29 (0, 0)) ∧ (w4.alloc (.cells #[.int .i64 4, .int .i64 7, .slice S2 1 c2] 29)).ownsRow w.heap.size 63 5 (.slice S2 1 c2) 1 (flatS rowC rsW) from
    ⟨nb_below HB3.out.1 M4, nb_below HB3.out.2.1 M4, HB3.out.2.2.1.trans (M4.mono HB3.out.2.2.1.size), bb HB3.out.2.2.2.1 M4, ownS_below HB3.out.2.2.2.2.1 M4, ownS_below HB3.out.2.2.2.2.2 M4, heap_alloc_new w4 _, ownS_below O4 ((Below.refl w4.heap.size w4).alloc (Nat.le_refl _) _)⟩)
  clear m4 M4 O4 hc0 hc1 HB3 HT3
  have zz := heap_alloc_new w4 (.cells #[.int .i64 0, .int .i64 0, .slice none 0 0] 29)
  obtain ⟨z0, z1, z2⟩ := sh_cells _ _ _ _ _ zz
  have f0 := sh_frozen zz 0
  have f1 := sh_frozen zz 1
  have f2 := sh_frozen zz 2
  clear zz
  go_upto_region 5 with fail
  clear z0 z1 z2 f0 f1 f2
  generalize w4.alloc (.cells #[.int .i64 4, .int .i64 7, .slice S2 1 c2] 29) = W4 at *
  generalize w4.heap.size = b7 at *
  have l2 := ld_tab HB4.out.2.1
  go_wp2_with fail
  refine (KO.out W4).mono ?_
  rintro e w5 hr
  obtain ⟨S3, c3, rfl, hc0, hc1, O5, m5⟩ := hr.slice (allS_len _)
  replace O5 : w5.ownsRow w.heap.size 63 5 (.slice S3 16 c3) 16 (flatS rowC (allS tn)) := ownS_base O5 HB4.out.2.2.1.size
  have HC3 := Lib.hid (show 16 ≤ c3 from hc1)
  have M5 := m5.trans (((Below.refl w5.heap.size w5).alloc (Nat.le_refl _) (.cells #[.int .i64 (-1), .int .i64 7, .slice S3 16 c3] 29)).mono m5.size)
  have HB5 := Lib.hid (show NB b1 26 65 tq (w5.alloc (.cells #[.int .i64 (-1), .int .i64 7, .slice S3 16 c3] 29)) ∧ NB (b1 + 1) 26 65 tn (w5.alloc (.cells #[.int .i64 (-1), .int .i64 7, .slice S3 16 c3] 29)) ∧ Below w.heap.size w (w5.alloc (.cells #[.int .i64 (-1), .int .i64 7, .slice S3 16 c3] 29)) ∧ (w5.alloc (.cells #[.int .i64 (-1), .int .i64 7, .slice S3 16 c3] 29)).heap[b3]? = some (.cells #[.int .i64 4, .int .i64 7, .slice S1 1 c1] 29 (0, 0)) ∧ (w5.alloc (.cells #[.int .i64 (-1), .int .i64 7, .slice S3 16 c3] 29)).ownsRow w.heap.size 63 5 (.slice S1 1 c1) 1 (flatS rowC rsW) ∧ (w5.alloc (.cells #[.int .i64 (-1), .int .i64 7, .slice S3 16 c3] 29)).ownsRow w.heap.size 5 1 (.slice (some ⟨gp, 0, none⟩) 26 cp) 26 (pbW.map (Value.int .u8)) ∧ (w5.alloc (.cells #[.int .i64 (-1), .int .i64 7, .slice S3 16 c3] 29)).heap[b7]? = some (.cells #[.int .i64 4, .int .i64 7, .slice S2 1 c2] 29 (0, 0)) ∧ (w5.alloc (.cells #[.int .i64 (-1), .int .i64 7, .slice S3 16 c3] 29)).ownsRow w.heap.size 63 5 (.slice S2 1 c2) 1 (flatS rowC rsW) ∧ (w5.alloc (.cells #[.int .i64 (-1), .int .i64 7, .slice S3 16 c3] 29)).heap[w5.heap.size]? = some (.cells #[.int .i64 (-1), .int .i64 7, .slice S3 16 c3] 29 (0, 0)) ∧ (w5.alloc (.cells #[.int .i64 (-1), .int .i64 7, .slice S3 16 c3] 29)).ownsRow w.heap.size 63 5 (.slice S3 16 c3) 16 (flatS rowC (allS tn)) from
    ⟨nb_below HB4.out.1 M5, nb_below HB4.out.2.1 M5, HB4.out.2.2.1.trans (M5.mono HB4.out.2.2.1.size), bb HB4.out.2.2.2.1 M5, ownS_below HB4.out.2.2.2.2.1 M5, ownS_below HB4.out.2.2.2.2.2.1 M5, bb HB4.out.2.2.2.2.2.2.1 M5, ownS_below HB4.out.2.2.2.2.2.2.2 M5, heap_alloc_new w5 _, ownS_below O5 ((Below.refl w5.heap.size w5).alloc (Nat.le_refl _) _)⟩)
  clear m5 M5 O5 hc0 hc1 HB4 l2
  have zz := heap_alloc_new w5 (.cells #[.int .i64 0, .int .i64 0, .slice none 0 0] 29)
  obtain ⟨z0, z1, z2⟩ := sh_cells _ _ _ _ _ zz
  have f0 := sh_frozen zz 0
  have f1 := sh_frozen zz 1
  have f2 := sh_frozen zz 2
  clear zz
  go_upto_region 6 with fail
  clear z0 z1 z2 f0 f1 f2
  generalize w5.alloc (.cells #[.int .i64 (-1), .int .i64 7, .slice S3 16 c3] 29) = W5 at *
  generalize w5.heap.size = b9 at *
  have HW5 := Lib.hid (Below.refl W5.heap.size W5)
  have l1 := ld_tab HB5.out.1
  have l2 := ld_tab HB5.out.2.1
  go_wp2_with fail
  refine (KD2.out W5).mono ?_
  rintro e w6 hr
  obtain ⟨S4, c4, rfl, hc0, hc1, O6, m6⟩ := hr.slice (n := 0) rfl
  have M6 := Lib.hid (m6.trans (((Below.refl w6.heap.size w6).alloc (Nat.le_refl _) (.cells #[.int .i64 0, .int .i64 0, .slice S4 0 c4] 29)).mono m6.size))
  clear m6 O6 hc0 hc1 l1 l2 HW5
  have zz := heap_alloc_new w6 (.cells #[.int .i64 0, .int .i64 0, .slice none 0 0] 29)
  obtain ⟨z0, z1, z2⟩ := sh_cells _ _ _ _ _ zz
  have f0 := sh_frozen zz 0
  have f1 := sh_frozen zz 1
  have f2 := sh_frozen zz 2
  clear zz
  go_upto_region 7 with fail
  clear z0 z1 z2 f0 f1 f2
  generalize w6.alloc (.cells #[.int .i64 0, .int .i64 0, .slice S4 0 c4] 29) = W6 at *
  generalize w6.heap.size = b11 at *
  go_wp2_with fail
  refine (KP0.out W6).mono ?_
  rintro e w7 ⟨v7, rfl, m7⟩
  have M7 := Lib.hid (M6.out.trans (m7.mono M6.out.size))
  clear m7 M6
  have O7 := Lib.hid (ownS_below HB5.out.2.2.2.2.2.1 M7.out)
  have HT7 := Lib.hid (KT1.out (some ⟨gp, 0, none⟩) cp (by have := HC2.out; omega) w7 ((Row.of_own O7.out (in_wf8 wk11c)).take 25))
  have g1 : (25 : Int) ≤ (cp : Int) := by have := HC2.out; omega
  go_wp2_with fail
  refine HT7.out.mono ?_
  rintro e w8 hr
  obtain ⟨S5, c5, rfl, hc0, hc1, O8, m8⟩ := hr.slice (n := 0) rfl
  have M8 := Lib.hid (M7.out.trans ((m8.trans (((Below.refl w8.heap.size w8).alloc (Nat.le_refl _) (.cells #[.int .i64 0, .int .i64 0, .slice S5 0 c5] 29)).mono m8.size)).mono M7.out.size))
  clear m8 O8 hc0 hc1 M7 HT7 O7
  have zz := heap_alloc_new w8 (.cells #[.int .i64 0, .int .i64 0, .slice none 0 0] 29)
  obtain ⟨z0, z1, z2⟩ := sh_cells _ _ _ _ _ zz
  have f0 := sh_frozen zz 0
  have f1 := sh_frozen zz 1
  have f2 := sh_frozen zz 2
  clear zz
  go_upto_region 9 with fail
  clear z0 z1 z2 f0 f1 f2 g1
  generalize w8.alloc (.cells #[.int .i64 0, .int .i64 0, .slice S5 0 c5] 29) = W8 at *
  generalize w8.heap.size = b15 at *
  have O8 := ownS_below HB5.out.2.2.2.2.2.1 M8.out
  have R8 := Lib.hid (Row.of_own O8 (in_wf8 wk11c))
  clear O8
  have O0 := own_built W8 W8.heap.size (Nat.le_refl _) 5 [] 0 rfl (by unfold maxLen; omega)
  have HO0 := Lib.hid O0
  clear O0
  go_wp2_with (first
    | (at_builtin; refine wpList_append_row _ rfl (.tmp 65) (.tmp 66) 30 rfl W8.heap.size 5 i0 (.int .u8 0) 1 Try.underlying30 hi hz0 hz1 hz2 rfl _ 0 [] rfl HO0.out .u8 _ (some ⟨gp, 0, none⟩) 26 cp pbW rfl rfl (R8.out.allocS _) (fun h => by cases h) (by unfold maxLen; omega) (by omega) (by simp) ?_; intro v5 w9 O9 g9; simp only [Nat.zero_add, List.nil_append] at O9; have M9 := Lib.hid (((Below.refl W8.heap.size W8).alloc (Nat.le_refl _) (.cells #[] 5)).grown g9 (by simp) (fun j hj => by cases hj; exact Nat.le_refl _)); clear g9; obtain ⟨g9, c9, rfl, hg9⟩ := own_form O9 (by omega); have HO9 := Lib.hid O9; have HG9 := Lib.hid hg9; clear O9 hg9)
    | (at_builtin; refine wpList_append_row _ rfl (.tmp 67) (.tmp 68) 30 rfl W8.heap.size 5 i0 (.int .u8 0) 1 Try.underlying30 hi hz0 hz1 hz2 rfl _ 26 (pbW.map (Value.int .u8)) rfl (own_below HO9.out ((Below.refl _ w9).alloc (Nat.le_refl _) (.cells #[.int .u8 0] 5))) .u8 _ _ 1 1 [0] rfl rfl (Row.built .u8 w9 5 [0] (by intro n hn; rw [List.mem_singleton.1 hn]; exact wf_u8.2 ⟨by omega, by omega⟩)) (fun h => by cases h) (by unfold maxLen; omega) (by omega) (by have := M9.out.size; simp; omega) ?_; intro v6 w10 O10 g10; have M10 := Lib.hid (M9.out.trans (((Below.refl W8.heap.size w9).alloc M9.out.size (.cells #[.int .u8 0] 5)).grown g10 (by have := M9.out.size; simp; omega) (fun j hj => by cases hj; exact HG9.out))); clear g10; obtain ⟨A10, c10, rfl, hc0, hc1, hc2⟩ := ownS_slice O10; have HO10 := Lib.hid O10; have HC10 := Lib.hid hc1; clear O10 hc0 hc1 hc2))
  have HT10 := Lib.hid (KT2.out A10 c10 HC10.out w10 (Row.of_own (k := .u8) (zs := pbW ++ [0]) (base := W8.heap.size) (e := 5) (n := 27) (by have := HO10.out; rw [← List.map_append] at this; exact this) (in_wf8 (by
    intro x hx
    rcases List.mem_append.1 hx with h | h
    · exact wk11c x h
    · rw [List.mem_singleton.1 h]
      omega))))
  refine HT10.out.mono ?_
  rintro e w11 hr
  obtain ⟨S6, c6, rfl, hc0, hc1, O11, m11⟩ := hr.slice (n := 0) rfl
  have M11 := Lib.hid (M8.out.trans ((M10.out.trans ((m11.trans (((Below.refl w11.heap.size w11).alloc (Nat.le_refl _) (.cells #[.int .i64 0, .int .i64 0, .slice S6 0 c6] 29)).mono m11.size)).mono M10.out.size)).mono M8.out.size))
  clear m11 O11 hc0 hc1 HT10 M10 HO10 HC10 M9 HO9 HG9 HO0 R8 M8
  have zz := heap_alloc_new w11 (.cells #[.int .i64 0, .int .i64 0, .slice none 0 0] 29)
  obtain ⟨z0, z1, z2⟩ := sh_cells _ _ _ _ _ zz
  have f0 := sh_frozen zz 0
  have f1 := sh_frozen zz 1
  have f2 := sh_frozen zz 2
  clear zz
  go_upto_region 10 with fail
  clear z0 z1 z2 f0 f1 f2
  generalize w11.alloc (.cells #[.int .i64 0, .int .i64 0, .slice S6 0 c6] 29) = W11 at *
  generalize w11.heap.size = b17 at *
  have HF := Lib.hid (show NB (b1 + 1) 26 65 tn W11 ∧ Below w.heap.size w W11 ∧ W11.heap[b3]? = some (.cells #[.int .i64 4, .int .i64 7, .slice S1 1 c1] 29 (0, 0)) ∧ W11.ownsRow w.heap.size 63 5 (.slice S1 1 c1) 1 (flatS rowC rsW) ∧ W11.heap[b7]? = some (.cells #[.int .i64 4, .int .i64 7, .slice S2 1 c2] 29 (0, 0)) ∧ W11.ownsRow w.heap.size 63 5 (.slice S2 1 c2) 1 (flatS rowC rsW) ∧ W11.heap[b9]? = some (.cells #[.int .i64 (-1), .int .i64 7, .slice S3 16 c3] 29 (0, 0)) ∧ W11.ownsRow w.heap.size 63 5 (.slice S3 16 c3) 16 (flatS rowC (allS tn)) from
    ⟨nb_below HB5.out.2.1 M11.out, HB5.out.2.2.1.trans (M11.out.mono HB5.out.2.2.1.size), bb HB5.out.2.2.2.1 M11.out, ownS_below HB5.out.2.2.2.2.1 M11.out, bb HB5.out.2.2.2.2.2.2.1 M11.out, ownS_below HB5.out.2.2.2.2.2.2.2.1 M11.out, bb HB5.out.2.2.2.2.2.2.2.2.1 M11.out, ownS_below HB5.out.2.2.2.2.2.2.2.2.2 M11.out⟩)
  clear HB5 M11
  obtain ⟨q0, q1, q2⟩ := sh_cells _ _ _ _ _ HF.out.2.2.1
  go_upto_region 12 with fail
  clear q0 q1 q2
  simp only [List.append]
  obtain ⟨bs, os, rfl, hbs⟩ := sr_addr (SRow.of_own rowC_len (by decide) HF.out.2.2.2.1) (by rw [lenW.1]; omega)
  have nc := (Below.refl W11.heap.size W11).drew
  have CS := Lib.hid (fun W (m : Below W11.heap.size W11 W) => show W.cell? ⟨b3, 0, none⟩ = some (.int .i64 4) ∧ W.cell? ⟨b3, 1, none⟩ = some (.int .i64 7) ∧ W.cell? ⟨b3, 2, none⟩ = some (.slice (some ⟨bs, os, none⟩) 1 c1) ∧ W.cell? ⟨b7, 0, none⟩ = some (.int .i64 4) ∧ W.cell? ⟨b7, 1, none⟩ = some (.int .i64 7) ∧ W.cell? ⟨b7, 2, none⟩ = some (.slice S2 1 c2) ∧ W.cell? ⟨b9, 0, none⟩ = some (.int .i64 (-1)) ∧ W.cell? ⟨b9, 1, none⟩ = some (.int .i64 7) ∧ W.cell? ⟨b9, 2, none⟩ = some (.slice S3 16 c3) ∧ W.cell? ⟨bs, os, none⟩ = some (.int .i64 3) ∧ W.cell? ⟨bs, os + 1, none⟩ = some (.int .i64 1) ∧ W.cell? ⟨bs, os + 2, none⟩ = some (.int .i64 0) ∧ W.cell? ⟨bs, os + 3, none⟩ = some (.int .i64 2) ∧ W.cell? ⟨bs, os + 4, none⟩ = some (.int .i64 9) ∧ W.cell? ⟨b1 + 1, 13, none⟩ = some (.int .i64 1) ∧ W.cell? ⟨b1 + 1, 14, none⟩ = some (.int .i64 0) ∧ W.cell? ⟨b1 + 1, 15, none⟩ = some (.int .i64 2) ∧ W.cell? ⟨b1 + 1, 16, none⟩ = some (.int .i64 9) from by
    obtain ⟨a0, a1, a2⟩ := sh_cells _ _ _ _ _ (bb HF.out.2.2.1 m)
    obtain ⟨d0, d1, d2⟩ := sh_cells _ _ _ _ _ (bb HF.out.2.2.2.2.1 m)
    obtain ⟨e0, e1, e2⟩ := sh_cells _ _ _ _ _ (bb HF.out.2.2.2.2.2.2.1 m)
    obtain ⟨x0, x1, x2, x3, x4⟩ := sr_at (SRow.of_own rowC_len (by decide) (ownS_below HF.out.2.2.2.1 m)) 0 (by rw [lenW.1]; omega)
    simp only [Nat.zero_mul, Nat.add_zero] at x0 x1 x2 x3 x4
    have hN := nb_below HF.out.1 m
    have n0 := nb_cell hN (show 13 < 65 by omega)
    have n1 := nb_cell hN (show 14 < 65 by omega)
    have n2 := nb_cell hN (show 15 < 65 by omega)
    have n3 := nb_cell hN (show 16 < 65 by omega)
    rw [← HQ.out.2] at n0 n1 n2 n3
    rw [wk11d.1] at n0
    rw [wk11d.2.1] at n1
    rw [wk11d.2.2.1] at n2
    rw [wk11d.2.2.2] at n3
    exact ⟨a0, a1, a2, d0, d1, d2, e0, e1, e2, x0, x1, x2, x3, x4, n0, n1, n2, n3⟩)
  have KS1 := Lib.hid (fun W (m : Below W11.heap.size W11 W) => show Calls Try.prog 19 #[.agg #[.int .i64 4, .int .i64 7, .slice S2 1 c2], .agg #[.int .i64 4, .int .i64 7, .slice (some ⟨bs, os, none⟩) 1 c1]] W (fun e w' => e = .returned (.bool true) ∧ Below W.heap.size W w') from
    HK.out.2.2.2.2.2.2.2.2.2.1 ▸ r11Same_any 4 7 S2 1 c2 4 7 (some ⟨bs, os, none⟩) 1 c1 rsW rsW rfl (by omega) rfl (by omega) W (SRow.of_own rowC_len (by decide) (ownS_below HF.out.2.2.2.2.2.1 m)) (SRow.of_own rowC_len (by decide) (ownS_below HF.out.2.2.2.1 m)))
  have KR1 := Lib.hid (fun W (m : Below W11.heap.size W11 W) => show Calls Try.prog 21 #[.agg #[.int .i64 4, .int .i64 7, .slice (some ⟨bs, os, none⟩) 1 c1]] W (fun e w' => e = .returned (.bool true) ∧ Below W.heap.size W w') from
    HK.out.2.2.2.2.2.2.2.1 ▸ sRight_any 4 7 (some ⟨bs, os, none⟩) 1 c1 rsW rfl (by omega) W (SRow.of_own rowC_len (by decide) (ownS_below HF.out.2.2.2.1 m)))
  have KR0 := Lib.hid (fun W (_ : Below W11.heap.size W11 W) => show Calls Try.prog 21 #[.agg #[.int .i64 0, .int .i64 0, .slice none 0 0]] W (fun e w' => e = .returned (.bool false) ∧ Below W.heap.size W w') from
    HK.out.2.2.2.2.2.2.2.2.1 ▸ sRight_any 0 0 none 0 0 [] rfl (by omega) W (SRow.nil _ _ _ _ _))
  have KOw := Lib.hid (fun W (m : Below W11.heap.size W11 W) => show Calls Try.prog 24 #[.agg #[.int .i64 4, .int .i64 7, .slice (some ⟨bs, os, none⟩) 1 c1]] W (fun e w' => ∃ So co, e = .returned (.agg #[.int .i64 4, .int .i64 7, .slice So 1 co]) ∧ (1 ≤ co ∧ SRow5 w'.heap.size w' So rsW) ∧ Below W.heap.size W w') from
    (sOwn_any 4 7 (some ⟨bs, os, none⟩) 1 c1 rsW rfl (by omega) (fun h => by cases h) W (SRow.of_own rowC_len (by decide) (ownS_below HF.out.2.2.2.1 m))).mono fun e w' ⟨v, h1, h2, h3⟩ => by
      simp only [lenW.1] at h2
      obtain ⟨So, co, rfl, _, k2, _⟩ := ownS_slice h2
      exact ⟨So, co, h1, ⟨k2, SRow.of_own rowC_len (by decide) h2⟩, h3⟩)
  have KS2 := Lib.hid (fun W (m : Below W11.heap.size W11 W) (So : Option Addr) (co : Nat) (hco : 1 ≤ co) (hSo : SRow5 W.heap.size W So rsW) => show Calls Try.prog 23 #[.agg #[.int .i64 4, .int .i64 7, .slice So 1 co], .agg #[.int .i64 4, .int .i64 7, .slice (some ⟨bs, os, none⟩) 1 c1]] W (fun e w' => e = .returned (.bool true) ∧ Below W.heap.size W w') from
    HK.out.2.2.2.2.2.2.2.2.2.1 ▸ sSame_any 4 7 So 1 co 4 7 (some ⟨bs, os, none⟩) 1 c1 rsW rsW rfl (by omega) rfl hco HC1.out.2 W hSo (SRow.of_own rowC_len (by decide) (ownS_below HF.out.2.2.2.1 m)))
  have KS3 := Lib.hid (fun W (m : Below W11.heap.size W11 W) => show Calls Try.prog 23 #[.agg #[.int .i64 4, .int .i64 7, .slice (some ⟨bs, os, none⟩) 1 c1], .agg #[.int .i64 (-1), .int .i64 7, .slice S3 16 c3]] W (fun e w' => e = .returned (.bool false) ∧ Below W.heap.size W w') from
    HK.out.2.2.2.2.2.2.2.2.2.2 ▸ sSame_any 4 7 (some ⟨bs, os, none⟩) 1 c1 (-1) 7 S3 16 c3 rsW (allS tn) rfl (by omega) (allS_len _) HC1.out.2 HC3.out W (SRow.of_own rowC_len (by decide) (ownS_below HF.out.2.2.2.1 m)) (SRow.of_own rowC_len (by decide) (ownS_below HF.out.2.2.2.2.2.2.2 m)))
  have HL := Lib.hid HF.out.2.1
  clear HF HQ HK KD KD2 KO KP KP0 KT KT1 KT2 HC1 HC2 HC3 hi hz0 hz1 hz2
  refine wp_region_held_drew (S := fun W => W.cell? ⟨b3, 0, none⟩ = some (.int .i64 4) ∧ W.cell? ⟨b3, 1, none⟩ = some (.int .i64 7) ∧ W.cell? ⟨b3, 2, none⟩ = some (.slice (some ⟨bs, os, none⟩) 1 c1) ∧ W.cell? ⟨b7, 0, none⟩ = some (.int .i64 4) ∧ W.cell? ⟨b7, 1, none⟩ = some (.int .i64 7) ∧ W.cell? ⟨b7, 2, none⟩ = some (.slice S2 1 c2) ∧ W.cell? ⟨b9, 0, none⟩ = some (.int .i64 (-1)) ∧ W.cell? ⟨b9, 1, none⟩ = some (.int .i64 7) ∧ W.cell? ⟨b9, 2, none⟩ = some (.slice S3 16 c3) ∧ W.cell? ⟨bs, os, none⟩ = some (.int .i64 3) ∧ W.cell? ⟨bs, os + 1, none⟩ = some (.int .i64 1) ∧ W.cell? ⟨bs, os + 2, none⟩ = some (.int .i64 0) ∧ W.cell? ⟨bs, os + 3, none⟩ = some (.int .i64 2) ∧ W.cell? ⟨bs, os + 4, none⟩ = some (.int .i64 9) ∧ W.cell? ⟨b1 + 1, 13, none⟩ = some (.int .i64 1) ∧ W.cell? ⟨b1 + 1, 14, none⟩ = some (.int .i64 0) ∧ W.cell? ⟨b1 + 1, 15, none⟩ = some (.int .i64 2) ∧ W.cell? ⟨b1 + 1, 16, none⟩ = some (.int .i64 9)) (by as_aux_lemma => kernel_rfl) (CS.out _ nc) (fun hHeld => ?_)
  refine wpAnyH_take (i := 0) (oi := { dst := some 77, op := Op.move (Operand.tmp 4), type := 33, pos := "law.go:38", after := #[], guard := none }) (v := ?_) rfl (by as_aux_lemma => kernel_rfl) (by as_aux_lemma => kernel_rfl) (by as_aux_lemma => kernel_rfl) (fun _ _ _ h => h) (Or.inl ⟨by rfl, ?_⟩) (by assumption) ?_
  rotate_left
  · intro w hSw
    (try dsimp only at hSw)
    first | (go_simp; done) | (go_simp; with_reducible rfl)
  (try simp only [Act.put, List.setIfInBounds_toArray, List.set_cons_zero, List.set_cons_succ])
  refine wpAnyH_take (i := 1) (oi := { dst := some 78, op := Op.binOp BinOp.eql 33 (Operand.tmp 77) (Operand.const (Value.int IntKind.i64 0)) 33, type := 4, pos := "law.go:38", after := #[{ on := 0, ground := Ground.data }], guard := none }) (v := ?_) rfl (by as_aux_lemma => kernel_rfl) (by as_aux_lemma => kernel_rfl) (by as_aux_lemma => kernel_rfl) (fun _ _ _ h => h) (Or.inl ⟨by rfl, ?_⟩) (by assumption) ?_
  rotate_left
  · intro w hSw
    (try dsimp only at hSw)
    first | (go_simp; done) | (go_simp; with_reducible rfl)
  (try simp only [Act.put, List.setIfInBounds_toArray, List.set_cons_zero, List.set_cons_succ])
  refine wpAnyH_take (i := 2) (oi := { dst := some 79, op := Op.move (Operand.tmp 78), type := 4, pos := "law.go:38", after := #[{ on := 1, ground := Ground.data }], guard := none }) (v := ?_) rfl (by as_aux_lemma => kernel_rfl) (by as_aux_lemma => kernel_rfl) (by as_aux_lemma => kernel_rfl) (fun _ _ _ h => h) (Or.inl ⟨by rfl, ?_⟩) (by assumption) ?_
  rotate_left
  · intro w hSw
    (try dsimp only at hSw)
    first | (go_simp; done) | (go_simp; with_reducible rfl)
  (try simp only [Act.put, List.setIfInBounds_toArray, List.set_cons_zero, List.set_cons_succ])
  refine wpAnyH_take (i := 3) (oi := { dst := some 80, op := Op.fieldAddr 29 (Operand.tmp 3) 0, type := 0, pos := "law.go:38", after := #[{ on := 2, ground := Ground.guard }], guard := some (2, true) }) (v := ?_) rfl (by as_aux_lemma => kernel_rfl) (by as_aux_lemma => kernel_rfl) (by as_aux_lemma => kernel_rfl) (fun _ _ _ h => h) (Or.inl ⟨by rfl, ?_⟩) (by assumption) ?_
  rotate_left
  · intro w hSw
    (try dsimp only at hSw)
    first | (go_simp; done) | (go_simp; with_reducible rfl)
  (try simp only [Act.put, List.setIfInBounds_toArray, List.set_cons_zero, List.set_cons_succ])
  refine wpAnyH_take (i := 4) (oi := { dst := some 81, op := Op.load 3 (Operand.tmp 80), type := 3, pos := "law.go:38", after := #[{ on := 3, ground := Ground.data }, { on := 2, ground := Ground.guard }], guard := some (2, true) }) (v := ?_) rfl (by as_aux_lemma => kernel_rfl) (by as_aux_lemma => kernel_rfl) (by as_aux_lemma => kernel_rfl) (fun _ _ _ h => h) (Or.inl ⟨by rfl, ?_⟩) (by assumption) ?_
  rotate_left
  · intro w hSw
    (try dsimp only at hSw)
    first | (go_simp; done) | (go_simp; with_reducible rfl)
  (try simp only [Act.put, List.setIfInBounds_toArray, List.set_cons_zero, List.set_cons_succ])
  refine wpAnyH_take (i := 5) (oi := { dst := some 82, op := Op.binOp BinOp.eql 3 (Operand.tmp 81) (Operand.const (Value.int IntKind.i64 4)) 3, type := 4, pos := "law.go:38", after := #[{ on := 4, ground := Ground.data }, { on := 2, ground := Ground.guard }], guard := some (2, true) }) (v := ?_) rfl (by as_aux_lemma => kernel_rfl) (by as_aux_lemma => kernel_rfl) (by as_aux_lemma => kernel_rfl) (fun _ _ _ h => h) (Or.inl ⟨by rfl, ?_⟩) (by assumption) ?_
  rotate_left
  · intro w hSw
    (try dsimp only at hSw)
    first | (go_simp; done) | (go_simp; with_reducible rfl)
  (try simp only [Act.put, List.setIfInBounds_toArray, List.set_cons_zero, List.set_cons_succ])
  refine wpAnyH_take (i := 6) (oi := { dst := some 83, op := Op.pick (Operand.tmp 79) (Operand.tmp 82) (Operand.const (Value.bool false)), type := 4, pos := "law.go:38", after := #[{ on := 2, ground := Ground.data }, { on := 5, ground := Ground.data }], guard := none }) (v := ?_) rfl (by as_aux_lemma => kernel_rfl) (by as_aux_lemma => kernel_rfl) (by as_aux_lemma => kernel_rfl) (fun _ _ _ h => h) (Or.inl ⟨by rfl, ?_⟩) (by assumption) ?_
  rotate_left
  · intro w hSw
    (try dsimp only at hSw)
    first | (go_simp; done) | (go_simp; with_reducible rfl)
  (try simp only [Act.put, List.setIfInBounds_toArray, List.set_cons_zero, List.set_cons_succ])
  refine wpAnyH_take (i := 7) (oi := { dst := some 84, op := Op.move (Operand.tmp 83), type := 4, pos := "law.go:38", after := #[{ on := 6, ground := Ground.data }, { on := 2, ground := Ground.chain }], guard := none }) (v := ?_) rfl (by as_aux_lemma => kernel_rfl) (by as_aux_lemma => kernel_rfl) (by as_aux_lemma => kernel_rfl) (fun _ _ _ h => h) (Or.inl ⟨by rfl, ?_⟩) (by assumption) ?_
  rotate_left
  · intro w hSw
    (try dsimp only at hSw)
    first | (go_simp; done) | (go_simp; with_reducible rfl)
  (try simp only [Act.put, List.setIfInBounds_toArray, List.set_cons_zero, List.set_cons_succ])
  refine wpAnyH_take (i := 8) (oi := { dst := some 85, op := Op.fieldAddr 29 (Operand.tmp 3) 1, type := 0, pos := "law.go:38", after := #[{ on := 7, ground := Ground.guard }], guard := some (7, true) }) (v := ?_) rfl (by as_aux_lemma => kernel_rfl) (by as_aux_lemma => kernel_rfl) (by as_aux_lemma => kernel_rfl) (fun _ _ _ h => h) (Or.inl ⟨by rfl, ?_⟩) (by assumption) ?_
  rotate_left
  · intro w hSw
    (try dsimp only at hSw)
    first | (go_simp; done) | (go_simp; with_reducible rfl)
  (try simp only [Act.put, List.setIfInBounds_toArray, List.set_cons_zero, List.set_cons_succ])
  refine wpAnyH_take (i := 9) (oi := { dst := some 86, op := Op.load 3 (Operand.tmp 85), type := 3, pos := "law.go:38", after := #[{ on := 8, ground := Ground.data }, { on := 7, ground := Ground.guard }], guard := some (7, true) }) (v := ?_) rfl (by as_aux_lemma => kernel_rfl) (by as_aux_lemma => kernel_rfl) (by as_aux_lemma => kernel_rfl) (fun _ _ _ h => h) (Or.inl ⟨by rfl, ?_⟩) (by assumption) ?_
  rotate_left
  · intro w hSw
    (try dsimp only at hSw)
    first | (go_simp; done) | (go_simp; with_reducible rfl)
  (try simp only [Act.put, List.setIfInBounds_toArray, List.set_cons_zero, List.set_cons_succ])
  refine wpAnyH_take (i := 10) (oi := { dst := some 87, op := Op.binOp BinOp.eql 3 (Operand.tmp 86) (Operand.const (Value.int IntKind.i64 7)) 3, type := 4, pos := "law.go:38", after := #[{ on := 9, ground := Ground.data }, { on := 7, ground := Ground.guard }], guard := some (7, true) }) (v := ?_) rfl (by as_aux_lemma => kernel_rfl) (by as_aux_lemma => kernel_rfl) (by as_aux_lemma => kernel_rfl) (fun _ _ _ h => h) (Or.inl ⟨by rfl, ?_⟩) (by assumption) ?_
  rotate_left
  · intro w hSw
    (try dsimp only at hSw)
    first | (go_simp; done) | (go_simp; with_reducible rfl)
  (try simp only [Act.put, List.setIfInBounds_toArray, List.set_cons_zero, List.set_cons_succ])
  refine wpAnyH_take (i := 11) (oi := { dst := some 88, op := Op.pick (Operand.tmp 84) (Operand.tmp 87) (Operand.const (Value.bool false)), type := 4, pos := "law.go:38", after := #[{ on := 7, ground := Ground.data }, { on := 10, ground := Ground.data }], guard := none }) (v := ?_) rfl (by as_aux_lemma => kernel_rfl) (by as_aux_lemma => kernel_rfl) (by as_aux_lemma => kernel_rfl) (fun _ _ _ h => h) (Or.inl ⟨by rfl, ?_⟩) (by assumption) ?_
  rotate_left
  · intro w hSw
    (try dsimp only at hSw)
    first | (go_simp; done) | (go_simp; with_reducible rfl)
  (try simp only [Act.put, List.setIfInBounds_toArray, List.set_cons_zero, List.set_cons_succ])
  refine wpAnyH_take (i := 12) (oi := { dst := some 89, op := Op.move (Operand.tmp 88), type := 4, pos := "law.go:38", after := #[{ on := 11, ground := Ground.data }, { on := 7, ground := Ground.chain }], guard := none }) (v := ?_) rfl (by as_aux_lemma => kernel_rfl) (by as_aux_lemma => kernel_rfl) (by as_aux_lemma => kernel_rfl) (fun _ _ _ h => h) (Or.inl ⟨by rfl, ?_⟩) (by assumption) ?_
  rotate_left
  · intro w hSw
    (try dsimp only at hSw)
    first | (go_simp; done) | (go_simp; with_reducible rfl)
  (try simp only [Act.put, List.setIfInBounds_toArray, List.set_cons_zero, List.set_cons_succ])
  refine wpAnyH_take (i := 13) (oi := { dst := some 90, op := Op.fieldAddr 29 (Operand.tmp 3) 2, type := 0, pos := "law.go:38", after := #[{ on := 12, ground := Ground.guard }], guard := some (12, true) }) (v := ?_) rfl (by as_aux_lemma => kernel_rfl) (by as_aux_lemma => kernel_rfl) (by as_aux_lemma => kernel_rfl) (fun _ _ _ h => h) (Or.inl ⟨by rfl, ?_⟩) (by assumption) ?_
  rotate_left
  · intro w hSw
    (try dsimp only at hSw)
    first | (go_simp; done) | (go_simp; with_reducible rfl)
  (try simp only [Act.put, List.setIfInBounds_toArray, List.set_cons_zero, List.set_cons_succ])
  refine wpAnyH_take (i := 14) (oi := { dst := some 91, op := Op.load 27 (Operand.tmp 90), type := 27, pos := "law.go:38", after := #[{ on := 13, ground := Ground.data }, { on := 12, ground := Ground.guard }], guard := some (12, true) }) (v := ?_) rfl (by as_aux_lemma => kernel_rfl) (by as_aux_lemma => kernel_rfl) (by as_aux_lemma => kernel_rfl) (fun _ _ _ h => h) (Or.inl ⟨by rfl, ?_⟩) (by assumption) ?_
  rotate_left
  · intro w hSw
    (try dsimp only at hSw)
    first | (go_simp; done) | (go_simp; with_reducible rfl)
  (try simp only [Act.put, List.setIfInBounds_toArray, List.set_cons_zero, List.set_cons_succ])
  refine wpAnyH_take (i := 15) (oi := { dst := some 92, op := Op.indexAddr 27 (Operand.tmp 91) (Operand.const (Value.int IntKind.i64 0)), type := 0, pos := "law.go:38", after := #[{ on := 14, ground := Ground.data }, { on := 12, ground := Ground.guard }], guard := some (12, true) }) (v := ?_) rfl (by as_aux_lemma => kernel_rfl) (by as_aux_lemma => kernel_rfl) (by as_aux_lemma => kernel_rfl) (fun _ _ _ h => h) (Or.inl ⟨by rfl, ?_⟩) (by assumption) ?_
  rotate_left
  · intro w hSw
    (try dsimp only at hSw)
    first | (go_simp; done) | (go_simp; with_reducible rfl)
  (try simp only [Act.put, List.setIfInBounds_toArray, List.set_cons_zero, List.set_cons_succ])
  refine wpAnyH_take (i := 16) (oi := { dst := some 93, op := Op.load 63 (Operand.tmp 92), type := 63, pos := "law.go:38", after := #[{ on := 15, ground := Ground.data }, { on := 12, ground := Ground.guard }], guard := some (12, true) }) (v := ?_) rfl (by as_aux_lemma => kernel_rfl) (by as_aux_lemma => kernel_rfl) (by as_aux_lemma => kernel_rfl) (fun _ _ _ h => h) (Or.inl ⟨by rfl, ?_⟩) (by assumption) ?_
  rotate_left
  · intro w hSw
    (try dsimp only at hSw)
    first | (go_simp; done) | (go_simp; with_reducible rfl)
  (try simp only [Act.put, List.setIfInBounds_toArray, List.set_cons_zero, List.set_cons_succ])
  refine wpAnyH_take (i := 17) (oi := { dst := some 94, op := Op.fieldAddr 26 (Operand.tmp 2) 1, type := 0, pos := "law.go:38", after := #[{ on := 12, ground := Ground.guard }], guard := some (12, true) }) (v := ?_) rfl (by as_aux_lemma => kernel_rfl) (by as_aux_lemma => kernel_rfl) (by as_aux_lemma => kernel_rfl) (fun _ _ _ h => h) (Or.inl ⟨by rfl, ?_⟩) (by assumption) ?_
  rotate_left
  · intro w hSw
    (try dsimp only at hSw)
    first | (go_simp; done) | (go_simp; with_reducible rfl)
  (try simp only [Act.put, List.setIfInBounds_toArray, List.set_cons_zero, List.set_cons_succ])
  refine wpAnyH_take (i := 18) (oi := { dst := some 95, op := Op.indexAddr 24 (Operand.tmp 94) (Operand.const (Value.int IntKind.i64 3)), type := 0, pos := "law.go:38", after := #[{ on := 17, ground := Ground.data }, { on := 12, ground := Ground.guard }], guard := some (12, true) }) (v := ?_) rfl (by as_aux_lemma => kernel_rfl) (by as_aux_lemma => kernel_rfl) (by as_aux_lemma => kernel_rfl) (fun _ _ _ h => h) (Or.inl ⟨by rfl, ?_⟩) (by assumption) ?_
  rotate_left
  · intro w hSw
    (try dsimp only at hSw)
    first | (go_simp; done) | (go_simp; with_reducible rfl)
  (try simp only [Act.put, List.setIfInBounds_toArray, List.set_cons_zero, List.set_cons_succ])
  refine wpAnyH_take (i := 19) (oi := { dst := some 96, op := Op.load 23 (Operand.tmp 95), type := 23, pos := "law.go:38", after := #[{ on := 18, ground := Ground.data }, { on := 12, ground := Ground.guard }], guard := some (12, true) }) (v := ?_) rfl (by as_aux_lemma => kernel_rfl) (by as_aux_lemma => kernel_rfl) (by as_aux_lemma => kernel_rfl) (fun _ _ _ h => h) (Or.inl ⟨by rfl, ?_⟩) (by assumption) ?_
  rotate_left
  · intro w hSw
    (try dsimp only at hSw)
    first | (go_simp; done) | (go_simp; with_reducible rfl)
  (try simp only [Act.put, List.setIfInBounds_toArray, List.set_cons_zero, List.set_cons_succ])
  refine wpAnyH_take (i := 20) (oi := { dst := some 97, op := Op.build 63 #[(0, Operand.const (Value.int IntKind.i64 3)), (1, Operand.tmp 96)], type := 63, pos := "law.go:38", after := #[{ on := 19, ground := Ground.data }, { on := 12, ground := Ground.guard }], guard := some (12, true) }) (v := ?_) rfl (by as_aux_lemma => kernel_rfl) (by as_aux_lemma => kernel_rfl) (by as_aux_lemma => kernel_rfl) (fun _ _ _ h => h) (Or.inl ⟨by rfl, ?_⟩) (by assumption) ?_
  rotate_left
  · intro w hSw
    (try dsimp only at hSw)
    first | (go_simp; done) | (go_simp; with_reducible rfl)
  (try simp only [Act.put, List.setIfInBounds_toArray, List.set_cons_zero, List.set_cons_succ])
  refine wpAnyH_take (i := 21) (oi := { dst := some 98, op := Op.binOp BinOp.eql 63 (Operand.tmp 93) (Operand.tmp 97) 63, type := 4, pos := "law.go:38", after := #[{ on := 16, ground := Ground.data }, { on := 20, ground := Ground.data }, { on := 12, ground := Ground.guard }], guard := some (12, true) }) (v := ?_) rfl (by as_aux_lemma => kernel_rfl) (by as_aux_lemma => kernel_rfl) (by as_aux_lemma => kernel_rfl) (fun _ _ _ h => h) (Or.inl ⟨by rfl, ?_⟩) (by assumption) ?_
  rotate_left
  · intro w hSw
    (try dsimp only at hSw)
    first | (go_simp; done) | (go_simp; with_reducible rfl)
  (try simp only [Act.put, List.setIfInBounds_toArray, List.set_cons_zero, List.set_cons_succ])
  refine wpAnyH_take (i := 22) (oi := { dst := some 99, op := Op.pick (Operand.tmp 89) (Operand.tmp 98) (Operand.const (Value.bool false)), type := 4, pos := "law.go:38", after := #[{ on := 12, ground := Ground.data }, { on := 21, ground := Ground.data }], guard := none }) (v := ?_) rfl (by as_aux_lemma => kernel_rfl) (by as_aux_lemma => kernel_rfl) (by as_aux_lemma => kernel_rfl) (fun _ _ _ h => h) (Or.inl ⟨by rfl, ?_⟩) (by assumption) ?_
  rotate_left
  · intro w hSw
    (try dsimp only at hSw)
    first | (go_simp; done) | (go_simp; with_reducible rfl)
  (try simp only [Act.put, List.setIfInBounds_toArray, List.set_cons_zero, List.set_cons_succ])
  refine wpAnyH_take (i := 23) (oi := { dst := some 100, op := Op.move (Operand.tmp 99), type := 4, pos := "law.go:38", after := #[{ on := 22, ground := Ground.data }, { on := 12, ground := Ground.chain }], guard := none }) (v := ?_) rfl (by as_aux_lemma => kernel_rfl) (by as_aux_lemma => kernel_rfl) (by as_aux_lemma => kernel_rfl) (fun _ _ _ h => h) (Or.inl ⟨by rfl, ?_⟩) (by assumption) ?_
  rotate_left
  · intro w hSw
    (try dsimp only at hSw)
    first | (go_simp; done) | (go_simp; with_reducible rfl)
  (try simp only [Act.put, List.setIfInBounds_toArray, List.set_cons_zero, List.set_cons_succ])
  refine wpAnyH_take (i := 24) (oi := { dst := some 101, op := Op.move (Operand.tmp 6), type := 33, pos := "law.go:38", after := #[{ on := 23, ground := Ground.guard }], guard := some (23, true) }) (v := ?_) rfl (by as_aux_lemma => kernel_rfl) (by as_aux_lemma => kernel_rfl) (by as_aux_lemma => kernel_rfl) (fun _ _ _ h => h) (Or.inl ⟨by rfl, ?_⟩) (by assumption) ?_
  rotate_left
  · intro w hSw
    (try dsimp only at hSw)
    first | (go_simp; done) | (go_simp; with_reducible rfl)
  (try simp only [Act.put, List.setIfInBounds_toArray, List.set_cons_zero, List.set_cons_succ])
  refine wpAnyH_take (i := 25) (oi := { dst := some 102, op := Op.binOp BinOp.eql 33 (Operand.tmp 101) (Operand.const (Value.int IntKind.i64 0)) 33, type := 4, pos := "law.go:38", after := #[{ on := 24, ground := Ground.data }, { on := 23, ground := Ground.guard }], guard := some (23, true) }) (v := ?_) rfl (by as_aux_lemma => kernel_rfl) (by as_aux_lemma => kernel_rfl) (by as_aux_lemma => kernel_rfl) (fun _ _ _ h => h) (Or.inl ⟨by rfl, ?_⟩) (by assumption) ?_
  rotate_left
  · intro w hSw
    (try dsimp only at hSw)
    first | (go_simp; done) | (go_simp; with_reducible rfl)
  (try simp only [Act.put, List.setIfInBounds_toArray, List.set_cons_zero, List.set_cons_succ])
  refine wpAnyH_take (i := 26) (oi := { dst := some 103, op := Op.pick (Operand.tmp 100) (Operand.tmp 102) (Operand.const (Value.bool false)), type := 4, pos := "law.go:38", after := #[{ on := 23, ground := Ground.data }, { on := 25, ground := Ground.data }], guard := none }) (v := ?_) rfl (by as_aux_lemma => kernel_rfl) (by as_aux_lemma => kernel_rfl) (by as_aux_lemma => kernel_rfl) (fun _ _ _ h => h) (Or.inl ⟨by rfl, ?_⟩) (by assumption) ?_
  rotate_left
  · intro w hSw
    (try dsimp only at hSw)
    first | (go_simp; done) | (go_simp; with_reducible rfl)
  (try simp only [Act.put, List.setIfInBounds_toArray, List.set_cons_zero, List.set_cons_succ])
  refine wpAnyH_take (i := 27) (oi := { dst := some 104, op := Op.move (Operand.tmp 103), type := 4, pos := "law.go:38", after := #[{ on := 26, ground := Ground.data }, { on := 23, ground := Ground.chain }], guard := none }) (v := ?_) rfl (by as_aux_lemma => kernel_rfl) (by as_aux_lemma => kernel_rfl) (by as_aux_lemma => kernel_rfl) (fun _ _ _ h => h) (Or.inl ⟨by rfl, ?_⟩) (by assumption) ?_
  rotate_left
  · intro w hSw
    (try dsimp only at hSw)
    first | (go_simp; done) | (go_simp; with_reducible rfl)
  (try simp only [Act.put, List.setIfInBounds_toArray, List.set_cons_zero, List.set_cons_succ])
  refine wpAnyH_take (i := 28) (oi := { dst := some 105, op := Op.move (Operand.tmp 5), type := 30, pos := "law.go:38", after := #[{ on := 27, ground := Ground.guard }], guard := some (27, true) }) (v := ?_) rfl (by as_aux_lemma => kernel_rfl) (by as_aux_lemma => kernel_rfl) (by as_aux_lemma => kernel_rfl) (fun _ _ _ h => h) (Or.inl ⟨by rfl, ?_⟩) (by assumption) ?_
  rotate_left
  · intro w hSw
    (try dsimp only at hSw)
    first | (go_simp; done) | (go_simp; with_reducible rfl)
  (try simp only [Act.put, List.setIfInBounds_toArray, List.set_cons_zero, List.set_cons_succ])
  refine wpAnyH_take (i := 29) (oi := { dst := some 106, op := Op.call { callee := Callee.builtin Builtin.len, args := #[Operand.tmp 105], argTypes := #[30] }, type := 3, pos := "law.go:38", after := #[{ on := 28, ground := Ground.data }, { on := 27, ground := Ground.guard }], guard := some (27, true) }) (v := ?_) rfl (by as_aux_lemma => kernel_rfl) (by as_aux_lemma => kernel_rfl) (by as_aux_lemma => kernel_rfl) (fun _ _ _ h => h) (Or.inl ⟨by rfl, ?_⟩) (by assumption) ?_
  rotate_left
  · intro w hSw
    (try dsimp only at hSw)
    first | (go_simp; done) | (go_simp; with_reducible rfl)
  (try simp only [Act.put, List.setIfInBounds_toArray, List.set_cons_zero, List.set_cons_succ])
  refine wpAnyH_take (i := 30) (oi := { dst := some 107, op := Op.binOp BinOp.eql 3 (Operand.tmp 106) (Operand.const (Value.int IntKind.i64 26)) 3, type := 4, pos := "law.go:38", after := #[{ on := 29, ground := Ground.data }, { on := 27, ground := Ground.guard }], guard := some (27, true) }) (v := ?_) rfl (by as_aux_lemma => kernel_rfl) (by as_aux_lemma => kernel_rfl) (by as_aux_lemma => kernel_rfl) (fun _ _ _ h => h) (Or.inl ⟨by rfl, ?_⟩) (by assumption) ?_
  rotate_left
  · intro w hSw
    (try dsimp only at hSw)
    first | (go_simp; done) | (go_simp; with_reducible rfl)
  (try simp only [Act.put, List.setIfInBounds_toArray, List.set_cons_zero, List.set_cons_succ])
  refine wpAnyH_take (i := 31) (oi := { dst := some 108, op := Op.pick (Operand.tmp 104) (Operand.tmp 107) (Operand.const (Value.bool false)), type := 4, pos := "law.go:38", after := #[{ on := 27, ground := Ground.data }, { on := 30, ground := Ground.data }], guard := none }) (v := ?_) rfl (by as_aux_lemma => kernel_rfl) (by as_aux_lemma => kernel_rfl) (by as_aux_lemma => kernel_rfl) (fun _ _ _ h => h) (Or.inl ⟨by rfl, ?_⟩) (by assumption) ?_
  rotate_left
  · intro w hSw
    (try dsimp only at hSw)
    first | (go_simp; done) | (go_simp; with_reducible rfl)
  (try simp only [Act.put, List.setIfInBounds_toArray, List.set_cons_zero, List.set_cons_succ])
  refine wpAnyH_take (i := 32) (oi := { dst := some 109, op := Op.move (Operand.tmp 108), type := 4, pos := "law.go:38", after := #[{ on := 31, ground := Ground.data }, { on := 27, ground := Ground.chain }], guard := none }) (v := ?_) rfl (by as_aux_lemma => kernel_rfl) (by as_aux_lemma => kernel_rfl) (by as_aux_lemma => kernel_rfl) (fun _ _ _ h => h) (Or.inl ⟨by rfl, ?_⟩) (by assumption) ?_
  rotate_left
  · intro w hSw
    (try dsimp only at hSw)
    first | (go_simp; done) | (go_simp; with_reducible rfl)
  (try simp only [Act.put, List.setIfInBounds_toArray, List.set_cons_zero, List.set_cons_succ])
  refine wpAnyH_take (i := 33) (oi := { dst := some 110, op := Op.move (Operand.tmp 8), type := 33, pos := "law.go:38", after := #[{ on := 32, ground := Ground.guard }], guard := some (32, true) }) (v := ?_) rfl (by as_aux_lemma => kernel_rfl) (by as_aux_lemma => kernel_rfl) (by as_aux_lemma => kernel_rfl) (fun _ _ _ h => h) (Or.inl ⟨by rfl, ?_⟩) (by assumption) ?_
  rotate_left
  · intro w hSw
    (try dsimp only at hSw)
    first | (go_simp; done) | (go_simp; with_reducible rfl)
  (try simp only [Act.put, List.setIfInBounds_toArray, List.set_cons_zero, List.set_cons_succ])
  refine wpAnyH_take (i := 34) (oi := { dst := some 111, op := Op.binOp BinOp.eql 33 (Operand.tmp 110) (Operand.const (Value.int IntKind.i64 0)) 33, type := 4, pos := "law.go:38", after := #[{ on := 33, ground := Ground.data }, { on := 32, ground := Ground.guard }], guard := some (32, true) }) (v := ?_) rfl (by as_aux_lemma => kernel_rfl) (by as_aux_lemma => kernel_rfl) (by as_aux_lemma => kernel_rfl) (fun _ _ _ h => h) (Or.inl ⟨by rfl, ?_⟩) (by assumption) ?_
  rotate_left
  · intro w hSw
    (try dsimp only at hSw)
    first | (go_simp; done) | (go_simp; with_reducible rfl)
  (try simp only [Act.put, List.setIfInBounds_toArray, List.set_cons_zero, List.set_cons_succ])
  refine wpAnyH_take (i := 35) (oi := { dst := some 112, op := Op.pick (Operand.tmp 109) (Operand.tmp 111) (Operand.const (Value.bool false)), type := 4, pos := "law.go:38", after := #[{ on := 32, ground := Ground.data }, { on := 34, ground := Ground.data }], guard := none }) (v := ?_) rfl (by as_aux_lemma => kernel_rfl) (by as_aux_lemma => kernel_rfl) (by as_aux_lemma => kernel_rfl) (fun _ _ _ h => h) (Or.inl ⟨by rfl, ?_⟩) (by assumption) ?_
  rotate_left
  · intro w hSw
    (try dsimp only at hSw)
    first | (go_simp; done) | (go_simp; with_reducible rfl)
  (try simp only [Act.put, List.setIfInBounds_toArray, List.set_cons_zero, List.set_cons_succ])
  refine wpAnyH_take (i := 36) (oi := { dst := some 113, op := Op.move (Operand.tmp 112), type := 4, pos := "law.go:38", after := #[{ on := 35, ground := Ground.data }, { on := 32, ground := Ground.chain }], guard := none }) (v := ?_) rfl (by as_aux_lemma => kernel_rfl) (by as_aux_lemma => kernel_rfl) (by as_aux_lemma => kernel_rfl) (fun _ _ _ h => h) (Or.inl ⟨by rfl, ?_⟩) (by assumption) ?_
  rotate_left
  · intro w hSw
    (try dsimp only at hSw)
    first | (go_simp; done) | (go_simp; with_reducible rfl)
  (try simp only [Act.put, List.setIfInBounds_toArray, List.set_cons_zero, List.set_cons_succ])
  refine wpAnyH_take (i := 37) (oi := { dst := some 114, op := Op.load 29 (Operand.tmp 7), type := 29, pos := "law.go:38", after := #[{ on := 36, ground := Ground.guard }], guard := some (36, true) }) (v := ?_) rfl (by as_aux_lemma => kernel_rfl) (by as_aux_lemma => kernel_rfl) (by as_aux_lemma => kernel_rfl) (fun _ _ _ h => h) (Or.inl ⟨by rfl, ?_⟩) (by assumption) ?_
  rotate_left
  · intro w hSw
    (try dsimp only at hSw)
    first | (go_simp; done) | (go_simp; with_reducible rfl)
  (try simp only [Act.put, List.setIfInBounds_toArray, List.set_cons_zero, List.set_cons_succ])
  refine wpAnyH_take (i := 38) (oi := { dst := some 115, op := Op.load 29 (Operand.tmp 3), type := 29, pos := "law.go:38", after := #[{ on := 36, ground := Ground.guard }], guard := some (36, true) }) (v := ?_) rfl (by as_aux_lemma => kernel_rfl) (by as_aux_lemma => kernel_rfl) (by as_aux_lemma => kernel_rfl) (fun _ _ _ h => h) (Or.inl ⟨by rfl, ?_⟩) (by assumption) ?_
  rotate_left
  · intro w hSw
    (try dsimp only at hSw)
    first | (go_simp; done) | (go_simp; with_reducible rfl)
  (try simp only [Act.put, List.setIfInBounds_toArray, List.set_cons_zero, List.set_cons_succ])
  refine wpAnyH_ready (rs := [39]) (by as_aux_lemma => kernel_rfl) (by simp) ?_
  refine AllReadyH.cons (o := { dst := some 116, op := Op.call { callee := Callee.value (Operand.func 19), args := #[Operand.tmp 114, Operand.tmp 115], argTypes := #[29, 29] }, type := 4, pos := "law.go:38", after := #[{ on := 37, ground := Ground.data }, { on := 38, ground := Ground.data }, { on := 36, ground := Ground.chain }, { on := 36, ground := Ground.guard }], guard := some (36, true) }) rfl (fun K hK => ?_) AllReadyH.nil
  go_simp
  refine (KS1.out _ nc).mono ?_
  rintro e wx ⟨rfl, jx⟩
  replace nc := nc.trans (jx.mono nc.size)
  clear jx
  refine hK.out _ _ (CS.out _ nc) (fun hHeld => ?_)
  clear hK K
  (try simp only [Act.put, List.setIfInBounds_toArray, List.set_cons_zero, List.set_cons_succ])
  refine wpAnyH_take (i := 40) (oi := { dst := some 117, op := Op.pick (Operand.tmp 113) (Operand.tmp 116) (Operand.const (Value.bool false)), type := 4, pos := "law.go:38", after := #[{ on := 36, ground := Ground.data }, { on := 39, ground := Ground.data }], guard := none }) (v := ?_) rfl (by as_aux_lemma => kernel_rfl) (by as_aux_lemma => kernel_rfl) (by as_aux_lemma => kernel_rfl) (fun _ _ _ h => h) (Or.inl ⟨by rfl, ?_⟩) (by assumption) ?_
  rotate_left
  · intro w hSw
    (try dsimp only at hSw)
    first | (go_simp; done) | (go_simp; with_reducible rfl)
  (try simp only [Act.put, List.setIfInBounds_toArray, List.set_cons_zero, List.set_cons_succ])
  refine wpAnyH_take (i := 41) (oi := { dst := some 118, op := Op.move (Operand.tmp 117), type := 4, pos := "law.go:38", after := #[{ on := 40, ground := Ground.data }, { on := 39, ground := Ground.chain }], guard := none }) (v := ?_) rfl (by as_aux_lemma => kernel_rfl) (by as_aux_lemma => kernel_rfl) (by as_aux_lemma => kernel_rfl) (fun _ _ _ h => h) (Or.inl ⟨by rfl, ?_⟩) (by assumption) ?_
  rotate_left
  · intro w hSw
    (try dsimp only at hSw)
    first | (go_simp; done) | (go_simp; with_reducible rfl)
  (try simp only [Act.put, List.setIfInBounds_toArray, List.set_cons_zero, List.set_cons_succ])
  refine wpAnyH_take (i := 42) (oi := { dst := some 119, op := Op.move (Operand.tmp 10), type := 33, pos := "law.go:38", after := #[{ on := 41, ground := Ground.guard }], guard := some (41, true) }) (v := ?_) rfl (by as_aux_lemma => kernel_rfl) (by as_aux_lemma => kernel_rfl) (by as_aux_lemma => kernel_rfl) (fun _ _ _ h => h) (Or.inl ⟨by rfl, ?_⟩) (by assumption) ?_
  rotate_left
  · intro w hSw
    (try dsimp only at hSw)
    first | (go_simp; done) | (go_simp; with_reducible rfl)
  (try simp only [Act.put, List.setIfInBounds_toArray, List.set_cons_zero, List.set_cons_succ])
  refine wpAnyH_take (i := 43) (oi := { dst := some 120, op := Op.binOp BinOp.eql 33 (Operand.tmp 119) (Operand.const (Value.int IntKind.i64 0)) 33, type := 4, pos := "law.go:38", after := #[{ on := 42, ground := Ground.data }, { on := 41, ground := Ground.guard }], guard := some (41, true) }) (v := ?_) rfl (by as_aux_lemma => kernel_rfl) (by as_aux_lemma => kernel_rfl) (by as_aux_lemma => kernel_rfl) (fun _ _ _ h => h) (Or.inl ⟨by rfl, ?_⟩) (by assumption) ?_
  rotate_left
  · intro w hSw
    (try dsimp only at hSw)
    first | (go_simp; done) | (go_simp; with_reducible rfl)
  (try simp only [Act.put, List.setIfInBounds_toArray, List.set_cons_zero, List.set_cons_succ])
  refine wpAnyH_take (i := 44) (oi := { dst := some 121, op := Op.pick (Operand.tmp 118) (Operand.tmp 120) (Operand.const (Value.bool false)), type := 4, pos := "law.go:38", after := #[{ on := 41, ground := Ground.data }, { on := 43, ground := Ground.data }], guard := none }) (v := ?_) rfl (by as_aux_lemma => kernel_rfl) (by as_aux_lemma => kernel_rfl) (by as_aux_lemma => kernel_rfl) (fun _ _ _ h => h) (Or.inl ⟨by rfl, ?_⟩) (by assumption) ?_
  rotate_left
  · intro w hSw
    (try dsimp only at hSw)
    first | (go_simp; done) | (go_simp; with_reducible rfl)
  (try simp only [Act.put, List.setIfInBounds_toArray, List.set_cons_zero, List.set_cons_succ])
  refine wpAnyH_take (i := 45) (oi := { dst := some 122, op := Op.move (Operand.tmp 121), type := 4, pos := "law.go:38", after := #[{ on := 44, ground := Ground.data }, { on := 41, ground := Ground.chain }], guard := none }) (v := ?_) rfl (by as_aux_lemma => kernel_rfl) (by as_aux_lemma => kernel_rfl) (by as_aux_lemma => kernel_rfl) (fun _ _ _ h => h) (Or.inl ⟨by rfl, ?_⟩) (by assumption) ?_
  rotate_left
  · intro w hSw
    (try dsimp only at hSw)
    first | (go_simp; done) | (go_simp; with_reducible rfl)
  (try simp only [Act.put, List.setIfInBounds_toArray, List.set_cons_zero, List.set_cons_succ])
  refine wpAnyH_take (i := 46) (oi := { dst := some 123, op := Op.fieldAddr 29 (Operand.tmp 9) 0, type := 0, pos := "law.go:38", after := #[{ on := 45, ground := Ground.guard }], guard := some (45, true) }) (v := ?_) rfl (by as_aux_lemma => kernel_rfl) (by as_aux_lemma => kernel_rfl) (by as_aux_lemma => kernel_rfl) (fun _ _ _ h => h) (Or.inl ⟨by rfl, ?_⟩) (by assumption) ?_
  rotate_left
  · intro w hSw
    (try dsimp only at hSw)
    first | (go_simp; done) | (go_simp; with_reducible rfl)
  (try simp only [Act.put, List.setIfInBounds_toArray, List.set_cons_zero, List.set_cons_succ])
  refine wpAnyH_take (i := 47) (oi := { dst := some 124, op := Op.load 3 (Operand.tmp 123), type := 3, pos := "law.go:38", after := #[{ on := 46, ground := Ground.data }, { on := 45, ground := Ground.guard }], guard := some (45, true) }) (v := ?_) rfl (by as_aux_lemma => kernel_rfl) (by as_aux_lemma => kernel_rfl) (by as_aux_lemma => kernel_rfl) (fun _ _ _ h => h) (Or.inl ⟨by rfl, ?_⟩) (by assumption) ?_
  rotate_left
  · intro w hSw
    (try dsimp only at hSw)
    first | (go_simp; done) | (go_simp; with_reducible rfl)
  (try simp only [Act.put, List.setIfInBounds_toArray, List.set_cons_zero, List.set_cons_succ])
  refine wpAnyH_take (i := 48) (oi := { dst := some 125, op := Op.binOp BinOp.eql 3 (Operand.tmp 124) (Operand.const (Value.int IntKind.i64 (-1))) 3, type := 4, pos := "law.go:38", after := #[{ on := 47, ground := Ground.data }, { on := 45, ground := Ground.guard }], guard := some (45, true) }) (v := ?_) rfl (by as_aux_lemma => kernel_rfl) (by as_aux_lemma => kernel_rfl) (by as_aux_lemma => kernel_rfl) (fun _ _ _ h => h) (Or.inl ⟨by rfl, ?_⟩) (by assumption) ?_
  rotate_left
  · intro w hSw
    (try dsimp only at hSw)
    first | (go_simp; done) | (go_simp; with_reducible rfl)
  (try simp only [Act.put, List.setIfInBounds_toArray, List.set_cons_zero, List.set_cons_succ])
  refine wpAnyH_take (i := 49) (oi := { dst := some 126, op := Op.pick (Operand.tmp 122) (Operand.tmp 125) (Operand.const (Value.bool false)), type := 4, pos := "law.go:38", after := #[{ on := 45, ground := Ground.data }, { on := 48, ground := Ground.data }], guard := none }) (v := ?_) rfl (by as_aux_lemma => kernel_rfl) (by as_aux_lemma => kernel_rfl) (by as_aux_lemma => kernel_rfl) (fun _ _ _ h => h) (Or.inl ⟨by rfl, ?_⟩) (by assumption) ?_
  rotate_left
  · intro w hSw
    (try dsimp only at hSw)
    first | (go_simp; done) | (go_simp; with_reducible rfl)
  (try simp only [Act.put, List.setIfInBounds_toArray, List.set_cons_zero, List.set_cons_succ])
  refine wpAnyH_take (i := 50) (oi := { dst := some 127, op := Op.move (Operand.tmp 126), type := 4, pos := "law.go:38", after := #[{ on := 49, ground := Ground.data }, { on := 45, ground := Ground.chain }], guard := none }) (v := ?_) rfl (by as_aux_lemma => kernel_rfl) (by as_aux_lemma => kernel_rfl) (by as_aux_lemma => kernel_rfl) (fun _ _ _ h => h) (Or.inl ⟨by rfl, ?_⟩) (by assumption) ?_
  rotate_left
  · intro w hSw
    (try dsimp only at hSw)
    first | (go_simp; done) | (go_simp; with_reducible rfl)
  (try simp only [Act.put, List.setIfInBounds_toArray, List.set_cons_zero, List.set_cons_succ])
  refine wpAnyH_take (i := 51) (oi := { dst := some 128, op := Op.fieldAddr 29 (Operand.tmp 9) 2, type := 0, pos := "law.go:38", after := #[{ on := 50, ground := Ground.guard }], guard := some (50, true) }) (v := ?_) rfl (by as_aux_lemma => kernel_rfl) (by as_aux_lemma => kernel_rfl) (by as_aux_lemma => kernel_rfl) (fun _ _ _ h => h) (Or.inl ⟨by rfl, ?_⟩) (by assumption) ?_
  rotate_left
  · intro w hSw
    (try dsimp only at hSw)
    first | (go_simp; done) | (go_simp; with_reducible rfl)
  (try simp only [Act.put, List.setIfInBounds_toArray, List.set_cons_zero, List.set_cons_succ])
  refine wpAnyH_take (i := 52) (oi := { dst := some 129, op := Op.load 27 (Operand.tmp 128), type := 27, pos := "law.go:38", after := #[{ on := 51, ground := Ground.data }, { on := 50, ground := Ground.guard }], guard := some (50, true) }) (v := ?_) rfl (by as_aux_lemma => kernel_rfl) (by as_aux_lemma => kernel_rfl) (by as_aux_lemma => kernel_rfl) (fun _ _ _ h => h) (Or.inl ⟨by rfl, ?_⟩) (by assumption) ?_
  rotate_left
  · intro w hSw
    (try dsimp only at hSw)
    first | (go_simp; done) | (go_simp; with_reducible rfl)
  (try simp only [Act.put, List.setIfInBounds_toArray, List.set_cons_zero, List.set_cons_succ])
  refine wpAnyH_take (i := 53) (oi := { dst := some 130, op := Op.call { callee := Callee.builtin Builtin.len, args := #[Operand.tmp 129], argTypes := #[27] }, type := 3, pos := "law.go:38", after := #[{ on := 52, ground := Ground.data }, { on := 50, ground := Ground.guard }], guard := some (50, true) }) (v := ?_) rfl (by as_aux_lemma => kernel_rfl) (by as_aux_lemma => kernel_rfl) (by as_aux_lemma => kernel_rfl) (fun _ _ _ h => h) (Or.inl ⟨by rfl, ?_⟩) (by assumption) ?_
  rotate_left
  · intro w hSw
    (try dsimp only at hSw)
    first | (go_simp; done) | (go_simp; with_reducible rfl)
  (try simp only [Act.put, List.setIfInBounds_toArray, List.set_cons_zero, List.set_cons_succ])
  refine wpAnyH_take (i := 54) (oi := { dst := some 131, op := Op.binOp BinOp.eql 3 (Operand.tmp 130) (Operand.const (Value.int IntKind.i64 16)) 3, type := 4, pos := "law.go:38", after := #[{ on := 53, ground := Ground.data }, { on := 50, ground := Ground.guard }], guard := some (50, true) }) (v := ?_) rfl (by as_aux_lemma => kernel_rfl) (by as_aux_lemma => kernel_rfl) (by as_aux_lemma => kernel_rfl) (fun _ _ _ h => h) (Or.inl ⟨by rfl, ?_⟩) (by assumption) ?_
  rotate_left
  · intro w hSw
    (try dsimp only at hSw)
    first | (go_simp; done) | (go_simp; with_reducible rfl)
  (try simp only [Act.put, List.setIfInBounds_toArray, List.set_cons_zero, List.set_cons_succ])
  refine wpAnyH_take (i := 55) (oi := { dst := some 132, op := Op.pick (Operand.tmp 127) (Operand.tmp 131) (Operand.const (Value.bool false)), type := 4, pos := "law.go:38", after := #[{ on := 50, ground := Ground.data }, { on := 54, ground := Ground.data }], guard := none }) (v := ?_) rfl (by as_aux_lemma => kernel_rfl) (by as_aux_lemma => kernel_rfl) (by as_aux_lemma => kernel_rfl) (fun _ _ _ h => h) (Or.inl ⟨by rfl, ?_⟩) (by assumption) ?_
  rotate_left
  · intro w hSw
    (try dsimp only at hSw)
    first | (go_simp; done) | (go_simp; with_reducible rfl)
  (try simp only [Act.put, List.setIfInBounds_toArray, List.set_cons_zero, List.set_cons_succ])
  refine wpAnyH_take (i := 56) (oi := { dst := some 133, op := Op.move (Operand.tmp 132), type := 4, pos := "law.go:38", after := #[{ on := 55, ground := Ground.data }, { on := 50, ground := Ground.chain }], guard := none }) (v := ?_) rfl (by as_aux_lemma => kernel_rfl) (by as_aux_lemma => kernel_rfl) (by as_aux_lemma => kernel_rfl) (fun _ _ _ h => h) (Or.inl ⟨by rfl, ?_⟩) (by assumption) ?_
  rotate_left
  · intro w hSw
    (try dsimp only at hSw)
    first | (go_simp; done) | (go_simp; with_reducible rfl)
  (try simp only [Act.put, List.setIfInBounds_toArray, List.set_cons_zero, List.set_cons_succ])
  refine wpAnyH_take (i := 57) (oi := { dst := some 134, op := Op.move (Operand.tmp 12), type := 33, pos := "law.go:38", after := #[{ on := 56, ground := Ground.guard }], guard := some (56, true) }) (v := ?_) rfl (by as_aux_lemma => kernel_rfl) (by as_aux_lemma => kernel_rfl) (by as_aux_lemma => kernel_rfl) (fun _ _ _ h => h) (Or.inl ⟨by rfl, ?_⟩) (by assumption) ?_
  rotate_left
  · intro w hSw
    (try dsimp only at hSw)
    first | (go_simp; done) | (go_simp; with_reducible rfl)
  (try simp only [Act.put, List.setIfInBounds_toArray, List.set_cons_zero, List.set_cons_succ])
  refine wpAnyH_take (i := 58) (oi := { dst := some 135, op := Op.binOp BinOp.eql 33 (Operand.tmp 134) (Operand.const (Value.int IntKind.i64 2)) 33, type := 4, pos := "law.go:38", after := #[{ on := 57, ground := Ground.data }, { on := 56, ground := Ground.guard }], guard := some (56, true) }) (v := ?_) rfl (by as_aux_lemma => kernel_rfl) (by as_aux_lemma => kernel_rfl) (by as_aux_lemma => kernel_rfl) (fun _ _ _ h => h) (Or.inl ⟨by rfl, ?_⟩) (by assumption) ?_
  rotate_left
  · intro w hSw
    (try dsimp only at hSw)
    first | (go_simp; done) | (go_simp; with_reducible rfl)
  (try simp only [Act.put, List.setIfInBounds_toArray, List.set_cons_zero, List.set_cons_succ])
  refine wpAnyH_take (i := 59) (oi := { dst := some 136, op := Op.pick (Operand.tmp 133) (Operand.tmp 135) (Operand.const (Value.bool false)), type := 4, pos := "law.go:38", after := #[{ on := 56, ground := Ground.data }, { on := 58, ground := Ground.data }], guard := none }) (v := ?_) rfl (by as_aux_lemma => kernel_rfl) (by as_aux_lemma => kernel_rfl) (by as_aux_lemma => kernel_rfl) (fun _ _ _ h => h) (Or.inl ⟨by rfl, ?_⟩) (by assumption) ?_
  rotate_left
  · intro w hSw
    (try dsimp only at hSw)
    first | (go_simp; done) | (go_simp; with_reducible rfl)
  (try simp only [Act.put, List.setIfInBounds_toArray, List.set_cons_zero, List.set_cons_succ])
  refine wpAnyH_take (i := 60) (oi := { dst := some 137, op := Op.move (Operand.tmp 136), type := 4, pos := "law.go:38", after := #[{ on := 59, ground := Ground.data }, { on := 56, ground := Ground.chain }], guard := none }) (v := ?_) rfl (by as_aux_lemma => kernel_rfl) (by as_aux_lemma => kernel_rfl) (by as_aux_lemma => kernel_rfl) (fun _ _ _ h => h) (Or.inl ⟨by rfl, ?_⟩) (by assumption) ?_
  rotate_left
  · intro w hSw
    (try dsimp only at hSw)
    first | (go_simp; done) | (go_simp; with_reducible rfl)
  (try simp only [Act.put, List.setIfInBounds_toArray, List.set_cons_zero, List.set_cons_succ])
  refine wpAnyH_take (i := 61) (oi := { dst := some 138, op := Op.move (Operand.tmp 14), type := 33, pos := "law.go:38", after := #[{ on := 60, ground := Ground.guard }], guard := some (60, true) }) (v := ?_) rfl (by as_aux_lemma => kernel_rfl) (by as_aux_lemma => kernel_rfl) (by as_aux_lemma => kernel_rfl) (fun _ _ _ h => h) (Or.inl ⟨by rfl, ?_⟩) (by assumption) ?_
  rotate_left
  · intro w hSw
    (try dsimp only at hSw)
    first | (go_simp; done) | (go_simp; with_reducible rfl)
  (try simp only [Act.put, List.setIfInBounds_toArray, List.set_cons_zero, List.set_cons_succ])
  refine wpAnyH_take (i := 62) (oi := { dst := some 139, op := Op.binOp BinOp.eql 33 (Operand.tmp 138) (Operand.const (Value.int IntKind.i64 2)) 33, type := 4, pos := "law.go:38", after := #[{ on := 61, ground := Ground.data }, { on := 60, ground := Ground.guard }], guard := some (60, true) }) (v := ?_) rfl (by as_aux_lemma => kernel_rfl) (by as_aux_lemma => kernel_rfl) (by as_aux_lemma => kernel_rfl) (fun _ _ _ h => h) (Or.inl ⟨by rfl, ?_⟩) (by assumption) ?_
  rotate_left
  · intro w hSw
    (try dsimp only at hSw)
    first | (go_simp; done) | (go_simp; with_reducible rfl)
  (try simp only [Act.put, List.setIfInBounds_toArray, List.set_cons_zero, List.set_cons_succ])
  refine wpAnyH_take (i := 63) (oi := { dst := some 140, op := Op.pick (Operand.tmp 137) (Operand.tmp 139) (Operand.const (Value.bool false)), type := 4, pos := "law.go:38", after := #[{ on := 60, ground := Ground.data }, { on := 62, ground := Ground.data }], guard := none }) (v := ?_) rfl (by as_aux_lemma => kernel_rfl) (by as_aux_lemma => kernel_rfl) (by as_aux_lemma => kernel_rfl) (fun _ _ _ h => h) (Or.inl ⟨by rfl, ?_⟩) (by assumption) ?_
  rotate_left
  · intro w hSw
    (try dsimp only at hSw)
    first | (go_simp; done) | (go_simp; with_reducible rfl)
  (try simp only [Act.put, List.setIfInBounds_toArray, List.set_cons_zero, List.set_cons_succ])
  refine wpAnyH_take (i := 64) (oi := { dst := some 141, op := Op.move (Operand.tmp 140), type := 4, pos := "law.go:38", after := #[{ on := 63, ground := Ground.data }, { on := 60, ground := Ground.chain }], guard := none }) (v := ?_) rfl (by as_aux_lemma => kernel_rfl) (by as_aux_lemma => kernel_rfl) (by as_aux_lemma => kernel_rfl) (fun _ _ _ h => h) (Or.inl ⟨by rfl, ?_⟩) (by assumption) ?_
  rotate_left
  · intro w hSw
    (try dsimp only at hSw)
    first | (go_simp; done) | (go_simp; with_reducible rfl)
  (try simp only [Act.put, List.setIfInBounds_toArray, List.set_cons_zero, List.set_cons_succ])
  refine wpAnyH_take (i := 65) (oi := { dst := some 142, op := Op.move (Operand.tmp 16), type := 33, pos := "law.go:38", after := #[{ on := 64, ground := Ground.guard }], guard := some (64, true) }) (v := ?_) rfl (by as_aux_lemma => kernel_rfl) (by as_aux_lemma => kernel_rfl) (by as_aux_lemma => kernel_rfl) (fun _ _ _ h => h) (Or.inl ⟨by rfl, ?_⟩) (by assumption) ?_
  rotate_left
  · intro w hSw
    (try dsimp only at hSw)
    first | (go_simp; done) | (go_simp; with_reducible rfl)
  (try simp only [Act.put, List.setIfInBounds_toArray, List.set_cons_zero, List.set_cons_succ])
  refine wpAnyH_take (i := 66) (oi := { dst := some 143, op := Op.binOp BinOp.eql 33 (Operand.tmp 142) (Operand.const (Value.int IntKind.i64 61)) 33, type := 4, pos := "law.go:38", after := #[{ on := 65, ground := Ground.data }, { on := 64, ground := Ground.guard }], guard := some (64, true) }) (v := ?_) rfl (by as_aux_lemma => kernel_rfl) (by as_aux_lemma => kernel_rfl) (by as_aux_lemma => kernel_rfl) (fun _ _ _ h => h) (Or.inl ⟨by rfl, ?_⟩) (by assumption) ?_
  rotate_left
  · intro w hSw
    (try dsimp only at hSw)
    first | (go_simp; done) | (go_simp; with_reducible rfl)
  (try simp only [Act.put, List.setIfInBounds_toArray, List.set_cons_zero, List.set_cons_succ])
  refine wpAnyH_take (i := 67) (oi := { dst := some 144, op := Op.pick (Operand.tmp 141) (Operand.tmp 143) (Operand.const (Value.bool false)), type := 4, pos := "law.go:38", after := #[{ on := 64, ground := Ground.data }, { on := 66, ground := Ground.data }], guard := none }) (v := ?_) rfl (by as_aux_lemma => kernel_rfl) (by as_aux_lemma => kernel_rfl) (by as_aux_lemma => kernel_rfl) (fun _ _ _ h => h) (Or.inl ⟨by rfl, ?_⟩) (by assumption) ?_
  rotate_left
  · intro w hSw
    (try dsimp only at hSw)
    first | (go_simp; done) | (go_simp; with_reducible rfl)
  (try simp only [Act.put, List.setIfInBounds_toArray, List.set_cons_zero, List.set_cons_succ])
  refine wpAnyH_take (i := 68) (oi := { dst := some 145, op := Op.move (Operand.tmp 144), type := 4, pos := "law.go:38", after := #[{ on := 67, ground := Ground.data }, { on := 64, ground := Ground.chain }], guard := none }) (v := ?_) rfl (by as_aux_lemma => kernel_rfl) (by as_aux_lemma => kernel_rfl) (by as_aux_lemma => kernel_rfl) (fun _ _ _ h => h) (Or.inl ⟨by rfl, ?_⟩) (by assumption) ?_
  rotate_left
  · intro w hSw
    (try dsimp only at hSw)
    first | (go_simp; done) | (go_simp; with_reducible rfl)
  (try simp only [Act.put, List.setIfInBounds_toArray, List.set_cons_zero, List.set_cons_succ])
  refine wpAnyH_take (i := 69) (oi := { dst := some 146, op := Op.move (Operand.tmp 18), type := 33, pos := "law.go:38", after := #[{ on := 68, ground := Ground.guard }], guard := some (68, true) }) (v := ?_) rfl (by as_aux_lemma => kernel_rfl) (by as_aux_lemma => kernel_rfl) (by as_aux_lemma => kernel_rfl) (fun _ _ _ h => h) (Or.inl ⟨by rfl, ?_⟩) (by assumption) ?_
  rotate_left
  · intro w hSw
    (try dsimp only at hSw)
    first | (go_simp; done) | (go_simp; with_reducible rfl)
  (try simp only [Act.put, List.setIfInBounds_toArray, List.set_cons_zero, List.set_cons_succ])
  refine wpAnyH_take (i := 70) (oi := { dst := some 147, op := Op.binOp BinOp.eql 33 (Operand.tmp 146) (Operand.const (Value.int IntKind.i64 60)) 33, type := 4, pos := "law.go:38", after := #[{ on := 69, ground := Ground.data }, { on := 68, ground := Ground.guard }], guard := some (68, true) }) (v := ?_) rfl (by as_aux_lemma => kernel_rfl) (by as_aux_lemma => kernel_rfl) (by as_aux_lemma => kernel_rfl) (fun _ _ _ h => h) (Or.inl ⟨by rfl, ?_⟩) (by assumption) ?_
  rotate_left
  · intro w hSw
    (try dsimp only at hSw)
    first | (go_simp; done) | (go_simp; with_reducible rfl)
  (try simp only [Act.put, List.setIfInBounds_toArray, List.set_cons_zero, List.set_cons_succ])
  refine wpAnyH_take (i := 71) (oi := { dst := some 148, op := Op.pick (Operand.tmp 145) (Operand.tmp 147) (Operand.const (Value.bool false)), type := 4, pos := "law.go:38", after := #[{ on := 68, ground := Ground.data }, { on := 70, ground := Ground.data }], guard := none }) (v := ?_) rfl (by as_aux_lemma => kernel_rfl) (by as_aux_lemma => kernel_rfl) (by as_aux_lemma => kernel_rfl) (fun _ _ _ h => h) (Or.inl ⟨by rfl, ?_⟩) (by assumption) ?_
  rotate_left
  · intro w hSw
    (try dsimp only at hSw)
    first | (go_simp; done) | (go_simp; with_reducible rfl)
  (try simp only [Act.put, List.setIfInBounds_toArray, List.set_cons_zero, List.set_cons_succ])
  refine wpAnyH_take (i := 72) (oi := { dst := some 149, op := Op.move (Operand.tmp 148), type := 4, pos := "law.go:38", after := #[{ on := 71, ground := Ground.data }, { on := 68, ground := Ground.chain }], guard := none }) (v := ?_) rfl (by as_aux_lemma => kernel_rfl) (by as_aux_lemma => kernel_rfl) (by as_aux_lemma => kernel_rfl) (fun _ _ _ h => h) (Or.inl ⟨by rfl, ?_⟩) (by assumption) ?_
  rotate_left
  · intro w hSw
    (try dsimp only at hSw)
    first | (go_simp; done) | (go_simp; with_reducible rfl)
  (try simp only [Act.put, List.setIfInBounds_toArray, List.set_cons_zero, List.set_cons_succ])
  refine wpAnyH_take (i := 73) (oi := { dst := some 150, op := Op.load 29 (Operand.tmp 3), type := 29, pos := "law.go:38", after := #[{ on := 72, ground := Ground.guard }], guard := some (72, true) }) (v := ?_) rfl (by as_aux_lemma => kernel_rfl) (by as_aux_lemma => kernel_rfl) (by as_aux_lemma => kernel_rfl) (fun _ _ _ h => h) (Or.inl ⟨by rfl, ?_⟩) (by assumption) ?_
  rotate_left
  · intro w hSw
    (try dsimp only at hSw)
    first | (go_simp; done) | (go_simp; with_reducible rfl)
  (try simp only [Act.put, List.setIfInBounds_toArray, List.set_cons_zero, List.set_cons_succ])
  refine wpAnyH_ready (rs := [74]) (by as_aux_lemma => kernel_rfl) (by simp) ?_
  refine AllReadyH.cons (o := { dst := some 151, op := Op.call { callee := Callee.value (Operand.func 21), args := #[Operand.tmp 150], argTypes := #[29] }, type := 4, pos := "law.go:38", after := #[{ on := 73, ground := Ground.data }, { on := 72, ground := Ground.chain }, { on := 72, ground := Ground.guard }], guard := some (72, true) }) rfl (fun K hK => ?_) AllReadyH.nil
  go_simp
  refine (KR1.out _ nc).mono ?_
  rintro e wx ⟨rfl, jx⟩
  replace nc := nc.trans (jx.mono nc.size)
  clear jx
  refine hK.out _ _ (CS.out _ nc) (fun hHeld => ?_)
  clear hK K
  (try simp only [Act.put, List.setIfInBounds_toArray, List.set_cons_zero, List.set_cons_succ])
  refine wpAnyH_take (i := 75) (oi := { dst := some 152, op := Op.pick (Operand.tmp 149) (Operand.tmp 151) (Operand.const (Value.bool false)), type := 4, pos := "law.go:38", after := #[{ on := 72, ground := Ground.data }, { on := 74, ground := Ground.data }], guard := none }) (v := ?_) rfl (by as_aux_lemma => kernel_rfl) (by as_aux_lemma => kernel_rfl) (by as_aux_lemma => kernel_rfl) (fun _ _ _ h => h) (Or.inl ⟨by rfl, ?_⟩) (by assumption) ?_
  rotate_left
  · intro w hSw
    (try dsimp only at hSw)
    first | (go_simp; done) | (go_simp; with_reducible rfl)
  (try simp only [Act.put, List.setIfInBounds_toArray, List.set_cons_zero, List.set_cons_succ])
  refine wpAnyH_take (i := 76) (oi := { dst := some 153, op := Op.move (Operand.tmp 152), type := 4, pos := "law.go:38", after := #[{ on := 75, ground := Ground.data }, { on := 74, ground := Ground.chain }], guard := none }) (v := ?_) rfl (by as_aux_lemma => kernel_rfl) (by as_aux_lemma => kernel_rfl) (by as_aux_lemma => kernel_rfl) (fun _ _ _ h => h) (Or.inl ⟨by rfl, ?_⟩) (by assumption) ?_
  rotate_left
  · intro w hSw
    (try dsimp only at hSw)
    first | (go_simp; done) | (go_simp; with_reducible rfl)
  (try simp only [Act.put, List.setIfInBounds_toArray, List.set_cons_zero, List.set_cons_succ])
  refine wpAnyH_take (i := 77) (oi := { dst := some 154, op := Op.build 29 #[], type := 29, pos := "law.go:38", after := #[{ on := 76, ground := Ground.guard }], guard := some (76, true) }) (v := ?_) rfl (by as_aux_lemma => kernel_rfl) (by as_aux_lemma => kernel_rfl) (by as_aux_lemma => kernel_rfl) (fun _ _ _ h => h) (Or.inl ⟨by rfl, ?_⟩) (by assumption) ?_
  rotate_left
  · intro w hSw
    (try dsimp only at hSw)
    first | (go_simp; done) | (go_simp; with_reducible rfl)
  (try simp only [Act.put, List.setIfInBounds_toArray, List.set_cons_zero, List.set_cons_succ])
  refine wpAnyH_ready (rs := [78]) (by as_aux_lemma => kernel_rfl) (by simp) ?_
  refine AllReadyH.cons (o := { dst := some 155, op := Op.call { callee := Callee.value (Operand.func 21), args := #[Operand.tmp 154], argTypes := #[29] }, type := 4, pos := "law.go:38", after := #[{ on := 77, ground := Ground.data }, { on := 76, ground := Ground.chain }, { on := 76, ground := Ground.guard }], guard := some (76, true) }) rfl (fun K hK => ?_) AllReadyH.nil
  go_simp
  refine (KR0.out _ nc).mono ?_
  rintro e wx ⟨rfl, jx⟩
  replace nc := nc.trans (jx.mono nc.size)
  clear jx
  refine hK.out _ _ (CS.out _ nc) (fun hHeld => ?_)
  clear hK K
  (try simp only [Act.put, List.setIfInBounds_toArray, List.set_cons_zero, List.set_cons_succ])
  refine wpAnyH_take (i := 79) (oi := { dst := some 156, op := Op.unOp UnOp.not 4 (Operand.tmp 155), type := 4, pos := "law.go:38", after := #[{ on := 78, ground := Ground.data }, { on := 76, ground := Ground.guard }], guard := some (76, true) }) (v := ?_) rfl (by as_aux_lemma => kernel_rfl) (by as_aux_lemma => kernel_rfl) (by as_aux_lemma => kernel_rfl) (fun _ _ _ h => h) (Or.inl ⟨by rfl, ?_⟩) (by assumption) ?_
  rotate_left
  · intro w hSw
    (try dsimp only at hSw)
    first | (go_simp; done) | (go_simp; with_reducible rfl)
  (try simp only [Act.put, List.setIfInBounds_toArray, List.set_cons_zero, List.set_cons_succ])
  refine wpAnyH_take (i := 80) (oi := { dst := some 157, op := Op.pick (Operand.tmp 153) (Operand.tmp 156) (Operand.const (Value.bool false)), type := 4, pos := "law.go:38", after := #[{ on := 76, ground := Ground.data }, { on := 79, ground := Ground.data }], guard := none }) (v := ?_) rfl (by as_aux_lemma => kernel_rfl) (by as_aux_lemma => kernel_rfl) (by as_aux_lemma => kernel_rfl) (fun _ _ _ h => h) (Or.inl ⟨by rfl, ?_⟩) (by assumption) ?_
  rotate_left
  · intro w hSw
    (try dsimp only at hSw)
    first | (go_simp; done) | (go_simp; with_reducible rfl)
  (try simp only [Act.put, List.setIfInBounds_toArray, List.set_cons_zero, List.set_cons_succ])
  refine wpAnyH_take (i := 81) (oi := { dst := some 158, op := Op.move (Operand.tmp 157), type := 4, pos := "law.go:38", after := #[{ on := 80, ground := Ground.data }, { on := 78, ground := Ground.chain }], guard := none }) (v := ?_) rfl (by as_aux_lemma => kernel_rfl) (by as_aux_lemma => kernel_rfl) (by as_aux_lemma => kernel_rfl) (fun _ _ _ h => h) (Or.inl ⟨by rfl, ?_⟩) (by assumption) ?_
  rotate_left
  · intro w hSw
    (try dsimp only at hSw)
    first | (go_simp; done) | (go_simp; with_reducible rfl)
  (try simp only [Act.put, List.setIfInBounds_toArray, List.set_cons_zero, List.set_cons_succ])
  refine wpAnyH_take (i := 82) (oi := { dst := some 159, op := Op.load 29 (Operand.tmp 3), type := 29, pos := "law.go:38", after := #[{ on := 81, ground := Ground.guard }], guard := some (81, true) }) (v := ?_) rfl (by as_aux_lemma => kernel_rfl) (by as_aux_lemma => kernel_rfl) (by as_aux_lemma => kernel_rfl) (fun _ _ _ h => h) (Or.inl ⟨by rfl, ?_⟩) (by assumption) ?_
  rotate_left
  · intro w hSw
    (try dsimp only at hSw)
    first | (go_simp; done) | (go_simp; with_reducible rfl)
  (try simp only [Act.put, List.setIfInBounds_toArray, List.set_cons_zero, List.set_cons_succ])
  refine wpAnyH_take (i := 84) (oi := { dst := some 161, op := Op.load 29 (Operand.tmp 3), type := 29, pos := "law.go:38", after := #[{ on := 81, ground := Ground.guard }], guard := some (81, true) }) (v := ?_) rfl (by as_aux_lemma => kernel_rfl) (by as_aux_lemma => kernel_rfl) (by as_aux_lemma => kernel_rfl) (fun _ _ _ h => h) (Or.inl ⟨by rfl, ?_⟩) (by assumption) ?_
  rotate_left
  · intro w hSw
    (try dsimp only at hSw)
    first | (go_simp; done) | (go_simp; with_reducible rfl)
  (try simp only [Act.put, List.setIfInBounds_toArray, List.set_cons_zero, List.set_cons_succ])
  refine wpAnyH_ready (rs := [83]) (by as_aux_lemma => kernel_rfl) (by simp) ?_
  refine AllReadyH.cons (o := { dst := some 160, op := Op.call { callee := Callee.value (Operand.func 24), args := #[Operand.tmp 159], argTypes := #[29] }, type := 29, pos := "law.go:38", after := #[{ on := 82, ground := Ground.data }, { on := 81, ground := Ground.chain }, { on := 81, ground := Ground.guard }], guard := some (81, true) }) rfl (fun K hK => ?_) AllReadyH.nil
  go_simp
  refine (KOw.out _ nc).mono ?_
  rintro e wx ⟨So, co, rfl, hOo, jx⟩
  have HOo := Lib.hid hOo
  clear hOo
  replace nc := nc.trans (jx.mono nc.size)
  clear jx
  refine hK.out _ _ (CS.out _ nc) (fun hHeld => ?_)
  clear hK K
  (try simp only [Act.put, List.setIfInBounds_toArray, List.set_cons_zero, List.set_cons_succ])
  refine wpAnyH_ready (rs := [85]) (by as_aux_lemma => kernel_rfl) (by simp) ?_
  refine AllReadyH.cons (o := { dst := some 162, op := Op.call { callee := Callee.value (Operand.func 23), args := #[Operand.tmp 160, Operand.tmp 161], argTypes := #[29, 29] }, type := 4, pos := "law.go:38", after := #[{ on := 83, ground := Ground.data }, { on := 84, ground := Ground.data }, { on := 83, ground := Ground.chain }, { on := 81, ground := Ground.guard }], guard := some (81, true) }) rfl (fun K hK => ?_) AllReadyH.nil
  go_simp
  refine (KS2.out _ nc So co HOo.out.1 HOo.out.2).mono ?_
  rintro e wx ⟨rfl, jx⟩
  replace nc := nc.trans (jx.mono nc.size)
  clear jx
  refine hK.out _ _ (CS.out _ nc) (fun hHeld => ?_)
  clear hK K
  (try simp only [Act.put, List.setIfInBounds_toArray, List.set_cons_zero, List.set_cons_succ])
  refine wpAnyH_take (i := 86) (oi := { dst := some 163, op := Op.pick (Operand.tmp 158) (Operand.tmp 162) (Operand.const (Value.bool false)), type := 4, pos := "law.go:38", after := #[{ on := 81, ground := Ground.data }, { on := 85, ground := Ground.data }], guard := none }) (v := ?_) rfl (by as_aux_lemma => kernel_rfl) (by as_aux_lemma => kernel_rfl) (by as_aux_lemma => kernel_rfl) (fun _ _ _ h => h) (Or.inl ⟨by rfl, ?_⟩) (by assumption) ?_
  rotate_left
  · intro w hSw
    (try dsimp only at hSw)
    first | (go_simp; done) | (go_simp; with_reducible rfl)
  (try simp only [Act.put, List.setIfInBounds_toArray, List.set_cons_zero, List.set_cons_succ])
  refine wpAnyH_take (i := 87) (oi := { dst := some 164, op := Op.move (Operand.tmp 163), type := 4, pos := "law.go:38", after := #[{ on := 86, ground := Ground.data }, { on := 85, ground := Ground.chain }], guard := none }) (v := ?_) rfl (by as_aux_lemma => kernel_rfl) (by as_aux_lemma => kernel_rfl) (by as_aux_lemma => kernel_rfl) (fun _ _ _ h => h) (Or.inl ⟨by rfl, ?_⟩) (by assumption) ?_
  rotate_left
  · intro w hSw
    (try dsimp only at hSw)
    first | (go_simp; done) | (go_simp; with_reducible rfl)
  (try simp only [Act.put, List.setIfInBounds_toArray, List.set_cons_zero, List.set_cons_succ])
  refine wpAnyH_take (i := 88) (oi := { dst := some 165, op := Op.load 29 (Operand.tmp 3), type := 29, pos := "law.go:38", after := #[{ on := 87, ground := Ground.guard }], guard := some (87, true) }) (v := ?_) rfl (by as_aux_lemma => kernel_rfl) (by as_aux_lemma => kernel_rfl) (by as_aux_lemma => kernel_rfl) (fun _ _ _ h => h) (Or.inl ⟨by rfl, ?_⟩) (by assumption) ?_
  rotate_left
  · intro w hSw
    (try dsimp only at hSw)
    first | (go_simp; done) | (go_simp; with_reducible rfl)
  (try simp only [Act.put, List.setIfInBounds_toArray, List.set_cons_zero, List.set_cons_succ])
  refine wpAnyH_take (i := 89) (oi := { dst := some 166, op := Op.load 29 (Operand.tmp 9), type := 29, pos := "law.go:38", after := #[{ on := 87, ground := Ground.guard }], guard := some (87, true) }) (v := ?_) rfl (by as_aux_lemma => kernel_rfl) (by as_aux_lemma => kernel_rfl) (by as_aux_lemma => kernel_rfl) (fun _ _ _ h => h) (Or.inl ⟨by rfl, ?_⟩) (by assumption) ?_
  rotate_left
  · intro w hSw
    (try dsimp only at hSw)
    first | (go_simp; done) | (go_simp; with_reducible rfl)
  (try simp only [Act.put, List.setIfInBounds_toArray, List.set_cons_zero, List.set_cons_succ])
  refine wpAnyH_ready (rs := [90]) (by as_aux_lemma => kernel_rfl) (by simp) ?_
  refine AllReadyH.cons (o := { dst := some 167, op := Op.call { callee := Callee.value (Operand.func 23), args := #[Operand.tmp 165, Operand.tmp 166], argTypes := #[29, 29] }, type := 4, pos := "law.go:38", after := #[{ on := 88, ground := Ground.data }, { on := 89, ground := Ground.data }, { on := 87, ground := Ground.chain }, { on := 87, ground := Ground.guard }], guard := some (87, true) }) rfl (fun K hK => ?_) AllReadyH.nil
  go_simp
  refine (KS3.out _ nc).mono ?_
  rintro e wx ⟨rfl, jx⟩
  replace nc := nc.trans (jx.mono nc.size)
  clear jx
  refine hK.out _ _ (CS.out _ nc) (fun hHeld => ?_)
  clear hK K
  (try simp only [Act.put, List.setIfInBounds_toArray, List.set_cons_zero, List.set_cons_succ])
  refine wpAnyH_take (i := 91) (oi := { dst := some 168, op := Op.unOp UnOp.not 4 (Operand.tmp 167), type := 4, pos := "law.go:38", after := #[{ on := 90, ground := Ground.data }, { on := 87, ground := Ground.guard }], guard := some (87, true) }) (v := ?_) rfl (by as_aux_lemma => kernel_rfl) (by as_aux_lemma => kernel_rfl) (by as_aux_lemma => kernel_rfl) (fun _ _ _ h => h) (Or.inl ⟨by rfl, ?_⟩) (by assumption) ?_
  rotate_left
  · intro w hSw
    (try dsimp only at hSw)
    first | (go_simp; done) | (go_simp; with_reducible rfl)
  (try simp only [Act.put, List.setIfInBounds_toArray, List.set_cons_zero, List.set_cons_succ])
  refine wpAnyH_take (i := 92) (oi := { dst := some 169, op := Op.pick (Operand.tmp 164) (Operand.tmp 168) (Operand.const (Value.bool false)), type := 4, pos := "law.go:38", after := #[{ on := 87, ground := Ground.data }, { on := 91, ground := Ground.data }], guard := none }) (v := ?_) rfl (by as_aux_lemma => kernel_rfl) (by as_aux_lemma => kernel_rfl) (by as_aux_lemma => kernel_rfl) (fun _ _ _ h => h) (Or.inl ⟨by rfl, ?_⟩) (by assumption) ?_
  rotate_left
  · intro w hSw
    (try dsimp only at hSw)
    first | (go_simp; done) | (go_simp; with_reducible rfl)
  (try simp only [Act.put, List.setIfInBounds_toArray, List.set_cons_zero, List.set_cons_succ])
  refine wpAnyH_take (i := 93) (oi := { dst := some 0, op := Op.assign (Operand.tmp 169), type := 4, pos := "law.go:38", after := #[{ on := 92, ground := Ground.data }, { on := 90, ground := Ground.chain }, { on := 0, ground := Ground.phase }, { on := 1, ground := Ground.phase }, { on := 2, ground := Ground.phase }, { on := 3, ground := Ground.phase }, { on := 4, ground := Ground.phase }, { on := 5, ground := Ground.phase }, { on := 6, ground := Ground.phase }, { on := 7, ground := Ground.phase }, { on := 8, ground := Ground.phase }, { on := 9, ground := Ground.phase }, { on := 10, ground := Ground.phase }, { on := 11, ground := Ground.phase }, { on := 12, ground := Ground.phase }, { on := 13, ground := Ground.phase }, { on := 14, ground := Ground.phase }, { on := 15, ground := Ground.phase }, { on := 16, ground := Ground.phase }, { on := 17, ground := Ground.phase }, { on := 18, ground := Ground.phase }, { on := 19, ground := Ground.phase }, { on := 20, ground := Ground.phase }, { on := 21, ground := Ground.phase }, { on := 22, ground := Ground.phase }, { on := 23, ground := Ground.phase }, { on := 24, ground := Ground.phase }, { on := 25, ground := Ground.phase }, { on := 26, ground := Ground.phase }, { on := 27, ground := Ground.phase }, { on := 28, ground := Ground.phase }, { on := 29, ground := Ground.phase }, { on := 30, ground := Ground.phase }, { on := 31, ground := Ground.phase }, { on := 32, ground := Ground.phase }, { on := 33, ground := Ground.phase }, { on := 34, ground := Ground.phase }, { on := 35, ground := Ground.phase }, { on := 36, ground := Ground.phase }, { on := 37, ground := Ground.phase }, { on := 38, ground := Ground.phase }, { on := 39, ground := Ground.phase }, { on := 40, ground := Ground.phase }, { on := 41, ground := Ground.phase }, { on := 42, ground := Ground.phase }, { on := 43, ground := Ground.phase }, { on := 44, ground := Ground.phase }, { on := 45, ground := Ground.phase }, { on := 46, ground := Ground.phase }, { on := 47, ground := Ground.phase }, { on := 48, ground := Ground.phase }, { on := 49, ground := Ground.phase }, { on := 50, ground := Ground.phase }, { on := 51, ground := Ground.phase }, { on := 52, ground := Ground.phase }, { on := 53, ground := Ground.phase }, { on := 54, ground := Ground.phase }, { on := 55, ground := Ground.phase }, { on := 56, ground := Ground.phase }, { on := 57, ground := Ground.phase }, { on := 58, ground := Ground.phase }, { on := 59, ground := Ground.phase }, { on := 60, ground := Ground.phase }, { on := 61, ground := Ground.phase }, { on := 62, ground := Ground.phase }, { on := 63, ground := Ground.phase }, { on := 64, ground := Ground.phase }, { on := 65, ground := Ground.phase }, { on := 66, ground := Ground.phase }, { on := 67, ground := Ground.phase }, { on := 68, ground := Ground.phase }, { on := 69, ground := Ground.phase }, { on := 70, ground := Ground.phase }, { on := 71, ground := Ground.phase }, { on := 72, ground := Ground.phase }, { on := 73, ground := Ground.phase }, { on := 74, ground := Ground.phase }, { on := 75, ground := Ground.phase }, { on := 76, ground := Ground.phase }, { on := 77, ground := Ground.phase }, { on := 78, ground := Ground.phase }, { on := 79, ground := Ground.phase }, { on := 80, ground := Ground.phase }, { on := 81, ground := Ground.phase }, { on := 82, ground := Ground.phase }, { on := 83, ground := Ground.phase }, { on := 84, ground := Ground.phase }, { on := 85, ground := Ground.phase }, { on := 86, ground := Ground.phase }, { on := 87, ground := Ground.phase }, { on := 88, ground := Ground.phase }, { on := 89, ground := Ground.phase }, { on := 90, ground := Ground.phase }, { on := 91, ground := Ground.phase }, { on := 92, ground := Ground.phase }], guard := none }) (v := ?_) rfl (by as_aux_lemma => kernel_rfl) (by as_aux_lemma => kernel_rfl) (by as_aux_lemma => kernel_rfl) (fun _ _ _ h => h) (Or.inl ⟨by rfl, ?_⟩) (by assumption) ?_
  rotate_left
  · intro w hSw
    (try dsimp only at hSw)
    first | (go_simp; done) | (go_simp; with_reducible rfl)
  (try simp only [Act.put, List.setIfInBounds_toArray, List.set_cons_zero])
  refine wpAnyH_done (by as_aux_lemma => kernel_rfl) ?_ _
  have L := HL.out.trans (nc.mono HL.out.size)
  clear CS hHeld
  go_wp2
  go_ret
  exact ⟨rfl, L⟩
end Go.Proofs.Ythgoopdekllanaa
