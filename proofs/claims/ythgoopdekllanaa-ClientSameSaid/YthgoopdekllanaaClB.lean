/- Clients: which may be, a new one, its version, its rows: package client's, the document's. -/
import Derived.Test.YthgoopdekllanaaClA
import Derived.Test.YthgoopdekllanaaShA
namespace Go.Proofs.Ythgoopdekllanaa
open Go.RowKit Go.Shelf
open SumM

attribute [local go_sem] Oper.semAt_some guard_undef
attribute [local go_sem ↓] nm_ldT nm_stT nm_ldC nm_stC nm_buT nm_buC
attribute [local go_sem ↓] zero_tab zero_cli
theorem grd_tab : Try.prog.eqGuardType Try.prog.depth 26 = false := by kernel_rfl
theorem grd_cli : Try.prog.eqGuardType Try.prog.depth 45 = false := by kernel_rfl
attribute [local go_sem] grd_tab grd_cli
attribute [local go_sem] buS_tab buS_cli0

set_option maxRecDepth 100000 in
set_option maxHeartbeats 2000000 in
theorem cRight_any (h : Bool) (T : Nat → Int) (w : World) : Calls Try.prog 33 #[cliV h T] w fun e w' => e = .returned (.bool (rgC h T)) ∧ Below w.heap.size w w' := by
  have bC := heap_alloc_new w (.cells (cliL h T).toArray 45)
  have L0 := (Below.refl w.heap.size w).alloc (Nat.le_refl _) (.cells (cliL h T).toArray 45)
  have HD := Lib.hid (show rgC h T = if h = true then rgT T else eqN 65 T zeroT from rfl)
  go_enter Try.func33, Try.ntmps33
  go_upto_region 1 with (fail)
  generalize w.alloc (.cells (cliL h T).toArray 45) = W0 at *
  have hh := cb_has bC
  have l0 := ld_cli bC
  have l1 := ld_ctab bC
  have HB := Lib.hid L0
  clear L0 bC
  cases h
  · have hE : ∀ W, (Op.equalIn 10000 45 (cliV false T) (cliV false zeroT)).run Try.prog W = .ok (eqN 65 T zeroT) W := fun W => run_eqC false T false zeroT W
    go_wp2
    go_ret
    exact ⟨ret_bool HD.out.symm, HB.out⟩
  · go_wp2_with fail
    refine (right_any T W0).mono ?_
    rintro e w1 ⟨rfl, m1⟩
    have HM := Lib.hid (HB.out.trans (m1.mono HB.out.size))
    clear hh l0 l1 m1
    go_wp2
    go_ret
    exact ⟨ret_bool HD.out.symm, HM.out⟩

set_option maxRecDepth 100000 in
set_option maxHeartbeats 2000000 in
theorem r12Right_any (h : Bool) (T : Nat → Int) (w : World) : Calls Try.prog 34 #[cliV h T] w fun e w' => e = .returned (.bool (rgC h T)) ∧ Below w.heap.size w w' := by
  have bC := heap_alloc_new w (.cells (cliL h T).toArray 45)
  have L0 := (Below.refl w.heap.size w).alloc (Nat.le_refl _) (.cells (cliL h T).toArray 45)
  have HD := Lib.hid (show rgC h T = if h = true then rgT T else eqN 65 T zeroT from rfl)
  go_enter Try.func34, Try.ntmps34
  go_upto_region 1 with (fail)
  generalize w.alloc (.cells (cliL h T).toArray 45) = W0 at *
  have hh := cb_has bC
  have l1 := ld_ctab bC
  have HB := Lib.hid L0
  clear L0 bC
  cases h
  · have hE : ∀ W, (Op.equalIn 10000 26 (tabV T) (tabV zeroT)).run Try.prog W = .ok (eqN 65 T zeroT) W := fun W => run_eqT T zeroT W
    go_wp2
    go_ret
    exact ⟨ret_bool HD.out.symm, HB.out⟩
  · go_wp2_with fail
    refine (r10Right_any T W0).mono ?_
    rintro e w1 ⟨rfl, m1⟩
    have HM := Lib.hid (HB.out.trans (m1.mono HB.out.size))
    clear hh l1 m1
    go_wp2
    go_ret
    exact ⟨ret_bool HD.out.symm, HM.out⟩

set_option maxRecDepth 100000 in
set_option maxHeartbeats 2000000 in
theorem cHas_any (h : Bool) (T : Nat → Int) (w : World) : Calls Try.prog 35 #[cliV h T] w fun e w' => e = .returned (.int .i64 (hasC h T)) ∧ Below w.heap.size w w' := by
  have bC := heap_alloc_new w (.cells (cliL h T).toArray 45)
  have L0 := (Below.refl w.heap.size w).alloc (Nat.le_refl _) (.cells (cliL h T).toArray 45)
  have HD := Lib.hid (show hasC h T = if h = true then T 0 else -1 from rfl)
  go_enter Try.func35, Try.ntmps35
  go_upto_region 1 with (fail)
  generalize w.alloc (.cells (cliL h T).toArray 45) = W0 at *
  have hh := cb_has bC
  have hv := cb_ver bC
  have HB := Lib.hid L0
  clear L0 bC
  cases h
  · go_wp2
    go_ret
    exact ⟨by rw [HD.out]; rfl, HB.out⟩
  · go_wp2
    go_ret
    exact ⟨by rw [HD.out]; rfl, HB.out⟩

set_option maxRecDepth 100000 in
set_option maxHeartbeats 2000000 in
theorem r12Has_any (h : Bool) (T : Nat → Int) (w : World) : Calls Try.prog 36 #[cliV h T] w fun e w' => e = .returned (.int .i64 (hasC h T)) ∧ Below w.heap.size w w' := by
  have bC := heap_alloc_new w (.cells (cliL h T).toArray 45)
  have L0 := (Below.refl w.heap.size w).alloc (Nat.le_refl _) (.cells (cliL h T).toArray 45)
  have HD := Lib.hid (show hasC h T = if h = true then T 0 else -1 from rfl)
  go_enter Try.func36, Try.ntmps36
  go_upto_region 1 with (fail)
  generalize w.alloc (.cells (cliL h T).toArray 45) = W0 at *
  have hh := cb_has bC
  have hv := cb_ver bC
  have HB := Lib.hid L0
  clear L0 bC
  cases h
  · go_wp2
    go_ret
    exact ⟨by rw [HD.out]; rfl, HB.out⟩
  · go_wp2
    go_ret
    exact ⟨by rw [HD.out]; rfl, HB.out⟩

set_option maxRecDepth 100000 in
set_option maxHeartbeats 2000000 in
theorem cNew_any (w : World) : Calls Try.prog 37 #[] w fun e w' => e = .returned (cliV false zeroT) ∧ Below w.heap.size w w' := by
  have bC := heap_alloc_new w (.cells (cliL false zeroT).toArray 45)
  have L0 := (Below.refl w.heap.size w).alloc (Nat.le_refl _) (.cells (cliL false zeroT).toArray 45)
  go_enter Try.func37, Try.ntmps37
  go_upto_region 1 with (fail)
  generalize w.alloc (.cells (cliL false zeroT).toArray 45) = W0 at *
  have s0 := st_cli bC false zeroT
  have HS := Lib.hid (cb_full bC false zeroT)
  have HX := Lib.hid (below_setCells w.heap.size (Nat.le_refl _) (cliL false zeroT) 0 w _ L0)
  clear bC L0
  go_wp2
  exact bodyPost_ret (results_cell_row rfl _ _ w.heap.size 45 _ (0, 0) _ rfl HS.out Try.undC rfl (by rw [List.size_toArray, cliL_len]; exact Try.sizC)) rfl ⟨rfl, HX.out⟩

set_option maxRecDepth 100000 in
set_option maxHeartbeats 2000000 in
theorem r12New_any (w : World) : Calls Try.prog 38 #[] w fun e w' => e = .returned (cliV false zeroT) ∧ Below w.heap.size w w' := by
  have bC := heap_alloc_new w (.cells (cliL false zeroT).toArray 45)
  have L0 := (Below.refl w.heap.size w).alloc (Nat.le_refl _) (.cells (cliL false zeroT).toArray 45)
  go_enter Try.func38, Try.ntmps38
  go_upto_region 1 with (fail)
  generalize w.alloc (.cells (cliL false zeroT).toArray 45) = W0 at *
  have s0 := st_cli bC false zeroT
  have HS := Lib.hid (cb_full bC false zeroT)
  have HX := Lib.hid (below_setCells w.heap.size (Nat.le_refl _) (cliL false zeroT) 0 w _ L0)
  clear bC L0
  go_wp2
  exact bodyPost_ret (results_cell_row rfl _ _ w.heap.size 45 _ (0, 0) _ rfl HS.out Try.undC rfl (by rw [List.size_toArray, cliL_len]; exact Try.sizC)) rfl ⟨rfl, HX.out⟩

/-- A client's row of a bucket, and whether there is one. -/
def rwC (h : Bool) (T : Nat → Int) (b : Int) : Ent × Bool := if h = true then rwT T b else (ent0, false)

set_option maxRecDepth 100000 in
set_option maxHeartbeats 2000000 in
theorem cRow_any (h : Bool) (T : Nat → Int) (b : Int) (w : World) : Calls Try.prog 31 #[cliV h T, .int .i64 b] w fun e w' => e = .returned (.tuple #[entV (rwC h T b).1, .bool (rwC h T b).2]) ∧ Below w.heap.size w w' := by
  have bC := blkN (heap_alloc_new w (.cells (cliL h T).toArray 45)) (.cells #[.int .i64 0, .int .i64 0, .int .i64 0, .int .i64 0] 23)
  have bE := newN (w.alloc (.cells (cliL h T).toArray 45)) (.cells #[.int .i64 0, .int .i64 0, .int .i64 0, .int .i64 0] 23) (w.heap.size + 1) (by simp)
  have L0 := ((Below.refl w.heap.size w).alloc (Nat.le_refl _) (.cells (cliL h T).toArray 45)).alloc (by simp) (.cells #[.int .i64 0, .int .i64 0, .int .i64 0, .int .i64 0] 23)
  go_enter Try.func31, Try.ntmps31
  go_upto_region 1 with (fail)
  generalize (w.alloc (.cells (cliL h T).toArray 45)).alloc (.cells #[.int .i64 0, .int .i64 0, .int .i64 0, .int .i64 0] 23) = W0 at *
  have hh := cb_has bC
  have l1 := ld_ctab bC
  cases h
  · obtain ⟨z0, z1, z2, z3⟩ := ent_cells _ _ _ _ bE
    have f0 := ent_frozen bE 0
    have f1 := ent_frozen bE 1
    have f2 := ent_frozen bE 2
    have f3 := ent_frozen bE 3
    have HS := Lib.hid (full_setCells bE [.int .i64 0, .int .i64 0, .int .i64 0, .int .i64 0] rfl)
    have HB := Lib.hid (below_setCells (w.heap.size + 1) (by omega) [.int .i64 0, .int .i64 0, .int .i64 0, .int .i64 0] 0 w _ L0)
    clear bC bE L0
    go_wp2
    exact bodyPost_ret (results_agg_tmp rfl _ _ (w.heap.size + 1) _ _ (0, 0) _ rfl HS.out Try.undE rfl Try.sizE) rfl ⟨rfl, HB.out⟩
  · have HW := Lib.hid (show rwC true T b = rwT T b from rfl)
    go_wp2_with fail
    refine (row_any T b W0).mono ?_
    rintro e w1 ⟨rfl, m1⟩
    have bE := bb bE m1
    have L1 := L0.trans (m1.mono L0.size)
    generalize rwT T b = p at *
    obtain ⟨⟨x0, x1, x2, x3⟩, ok⟩ := p
    obtain ⟨z0, z1, z2, z3⟩ := ent_cells _ _ _ _ bE
    have f0 := ent_frozen bE 0
    have f1 := ent_frozen bE 1
    have f2 := ent_frozen bE 2
    have f3 := ent_frozen bE 3
    have HS := Lib.hid (full_setCells bE [.int .i64 x0, .int .i64 x1, .int .i64 x2, .int .i64 x3] rfl)
    have HB := Lib.hid (below_setCells (w.heap.size + 1) (by omega) [.int .i64 x0, .int .i64 x1, .int .i64 x2, .int .i64 x3] 0 w _ L1)
    clear bC bE L0 L1 hh l1 m1
    go_wp2
    exact bodyPost_ret (results_agg_tmp rfl _ _ (w.heap.size + 1) _ _ (0, 0) _ rfl HS.out Try.undE rfl Try.sizE) rfl ⟨by rw [HW.out]; rfl, HB.out⟩

set_option maxRecDepth 100000 in
set_option maxHeartbeats 2000000 in
theorem r12Row_any (h : Bool) (T : Nat → Int) (b : Int) (w : World) : Calls Try.prog 32 #[cliV h T, .int .i64 b] w fun e w' => e = .returned (.tuple #[entV (rwC h T b).1, .bool (rwC h T b).2]) ∧ Below w.heap.size w w' := by
  have bC := blkN (heap_alloc_new w (.cells (cliL h T).toArray 45)) (.cells #[.int .i64 0, .int .i64 0, .int .i64 0, .int .i64 0] 23)
  have bE := newN (w.alloc (.cells (cliL h T).toArray 45)) (.cells #[.int .i64 0, .int .i64 0, .int .i64 0, .int .i64 0] 23) (w.heap.size + 1) (by simp)
  have L0 := ((Below.refl w.heap.size w).alloc (Nat.le_refl _) (.cells (cliL h T).toArray 45)).alloc (by simp) (.cells #[.int .i64 0, .int .i64 0, .int .i64 0, .int .i64 0] 23)
  go_enter Try.func32, Try.ntmps32
  go_upto_region 1 with (fail)
  generalize (w.alloc (.cells (cliL h T).toArray 45)).alloc (.cells #[.int .i64 0, .int .i64 0, .int .i64 0, .int .i64 0] 23) = W0 at *
  have hh := cb_has bC
  have l1 := ld_ctab bC
  cases h
  · obtain ⟨z0, z1, z2, z3⟩ := ent_cells _ _ _ _ bE
    have f0 := ent_frozen bE 0
    have f1 := ent_frozen bE 1
    have f2 := ent_frozen bE 2
    have f3 := ent_frozen bE 3
    have HS := Lib.hid (full_setCells bE [.int .i64 0, .int .i64 0, .int .i64 0, .int .i64 0] rfl)
    have HB := Lib.hid (below_setCells (w.heap.size + 1) (by omega) [.int .i64 0, .int .i64 0, .int .i64 0, .int .i64 0] 0 w _ L0)
    clear bC bE L0
    go_wp2
    exact bodyPost_ret (results_agg_tmp rfl _ _ (w.heap.size + 1) _ _ (0, 0) _ rfl HS.out Try.undE rfl Try.sizE) rfl ⟨rfl, HB.out⟩
  · have HW := Lib.hid (show rwC true T b = rwT T b from rfl)
    go_wp2_with fail
    refine (r10Row_any T b W0).mono ?_
    rintro e w1 ⟨rfl, m1⟩
    have bE := bb bE m1
    have L1 := L0.trans (m1.mono L0.size)
    generalize rwT T b = p at *
    obtain ⟨⟨x0, x1, x2, x3⟩, ok⟩ := p
    obtain ⟨z0, z1, z2, z3⟩ := ent_cells _ _ _ _ bE
    have f0 := ent_frozen bE 0
    have f1 := ent_frozen bE 1
    have f2 := ent_frozen bE 2
    have f3 := ent_frozen bE 3
    have HS := Lib.hid (full_setCells bE [.int .i64 x0, .int .i64 x1, .int .i64 x2, .int .i64 x3] rfl)
    have HB := Lib.hid (below_setCells (w.heap.size + 1) (by omega) [.int .i64 x0, .int .i64 x1, .int .i64 x2, .int .i64 x3] 0 w _ L1)
    clear bC bE L0 L1 hh l1 m1
    go_wp2
    exact bodyPost_ret (results_agg_tmp rfl _ _ (w.heap.size + 1) _ _ (0, 0) _ rfl HS.out Try.undE rfl Try.sizE) rfl ⟨by rw [HW.out]; rfl, HB.out⟩
end Go.Proofs.Ythgoopdekllanaa
