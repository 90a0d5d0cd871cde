/- A table of a version; what the document says of clients awakes. -/
import Derived.Test.YthgoopdekllanaaClG
import Derived.Test.YthgoopdekllanaaSrB
import Derived.Test.YthgoopdekllanaaShZ
namespace Go.Proofs.Ythgoopdekllanaa
open Go.RowKit Go.Shelf
open SumM

attribute [local go_sem] Oper.semAt_some guard_undef
attribute [local go_sem ↓] nm_ldT nm_stT nm_ldC nm_stC nm_buT nm_buC
attribute [local go_sem ↓] zero_tab zero_cli
attribute [local go_sem] buS_cliT
attribute [local go_sem] grd_tab grd_cli

set_option maxRecDepth 100000 in
set_option maxHeartbeats 2000000 in
theorem at_any (v : Int) (w : World) : Calls Try.prog 57 #[.int .i64 v] w fun e w' => e = .returned (tabV (upd newT 0 v)) ∧ Below w.heap.size w w' := by
  have bR := heap_alloc_new w (.cells (numL 65 zeroT).toArray 26)
  have L0 := (Below.refl w.heap.size w).alloc (Nat.le_refl _) (.cells (numL 65 zeroT).toArray 26)
  go_enter Try.func57, Try.ntmps57
  go_upto_region 1 with fail
  generalize w.alloc (.cells (numL 65 zeroT).toArray 26) = W0 at *
  have h0 := nb_lt bR
  go_wp2_with fail
  refine (r10New_any W0).mono ?_
  rintro e w1 ⟨rfl, m1⟩
  replace bR := bb bR m1
  replace L0 := L0.trans (m1.mono L0.size)
  have s1 := st_new w1 newT
  obtain ⟨bT, m2⟩ := boxT_new w1 newT
  replace bR := bb bR m2
  replace L0 := L0.trans (m2.mono L0.size)
  have hm : w.heap.size < w1.heap.size := Nat.lt_of_lt_of_le h0 m1.size
  clear m1 m2 h0
  go_upto_region 2 with fail
  clear s1
  generalize (w1.alloc (.cells (numL 65 zeroT).toArray 26)).setCells w1.heap.size 0 (numL 65 newT) = W1 at *
  generalize w1.heap.size = m at *
  have c0 := nb_cell bT (o := 0) (by omega)
  have g0 := nb_frozen bT 0
  have HA := Lib.hid (And.intro (nb_put bT 0 v) (And.intro ((Below.heap_setCell W1 ⟨m, 0, none⟩ (.int .i64 v) w.heap.size (by show w.heap.size ≠ m; omega)).trans bR) (L0.setCell (p := ⟨m, 0, none⟩) (by show w.heap.size ≤ m; omega) (.int .i64 v))))
  clear bT bR L0 hm
  go_upto_region 3 with fail
  clear c0 g0
  obtain ⟨bT, bR, L0⟩ := HA.out
  clear HA
  generalize W1.setCell ⟨m, 0, none⟩ (.int .i64 v) = W6 at *
  have l6 := ld_tab bT
  have s6 := st_tab bR (upd newT 0 v)
  have HS := Lib.hid (nb_full bR (upd newT 0 v))
  have HX := Lib.hid (below_setCells w.heap.size (Nat.le_refl _) (numL 65 (upd newT 0 v)) 0 w _ L0)
  clear bT bR L0
  go_wp2
  exact bodyPost_ret (results_cell_row rfl _ _ w.heap.size 26 _ (0, 0) _ rfl HS.out Try.undT rfl (by rw [List.size_toArray, numL_len]; exact Try.sizT)) rfl ⟨rfl, HX.out⟩

def tM0 : Nat → Int := setR (upd newT 0 3) 2 (1, -1, 4, 0)
def uM0 : Nat → Int := setR (upd newT 0 5) 2 (0, 1, 5, 0)
def aM0 : Nat → Int := wiT false zeroT 3 (allS tM0)
def dM0 : List SR := [(2, 0, 1, 5, 0)]
def bM0 : Nat → Int := wiT true aM0 5 dM0
set_option maxRecDepth 100000 in
theorem wk1 : ofS tM0 = (-1, 3, allS tM0, 0) := by kernel_rfl
set_option maxRecDepth 100000 in
theorem wk2 : dlS (upd newT 0 2) uM0 = (2, 5, dM0, 0) := by kernel_rfl
set_option maxRecDepth 100000 in
theorem wk3 : dlS (upd newT 0 7) (upd newT 0 8) = (7, 8, [], 0) := by kernel_rfl
set_option maxRecDepth 100000 in
theorem wk4 : tkR false zeroT 2 5 dM0 = (false, zeroT, false, 120) := by kernel_rfl
set_option maxRecDepth 100000 in
theorem wk5 : tkR false zeroT (-1) 3 (allS tM0) = (true, aM0, true, 0) := by kernel_rfl
set_option maxRecDepth 100000 in
theorem wk6 : tkR true aM0 2 5 dM0 = (true, bM0, true, 0) := by kernel_rfl
set_option maxRecDepth 100000 in
theorem wk7 : tkR true bM0 (-1) 3 (allS tM0) = (true, bM0, false, 0) := by kernel_rfl
set_option maxRecDepth 100000 in
theorem wk8 : tkR true bM0 7 8 [] = (true, bM0, false, 120) := by kernel_rfl
set_option maxRecDepth 100000 in
theorem wk9 : byR true bM0 [] = (true, bM0, false, 61) := by kernel_rfl
set_option maxRecDepth 100000 in
theorem wk10 : rwC true bM0 2 = ((0, 1, 5, 0), true) ∧ rwC false zeroT 2 = ((0, 0, 0, 0), false) ∧ hasC true aM0 = 3 ∧ hasC true bM0 = 5 ∧ hasC false zeroT = -1 ∧ rgC true bM0 = true ∧ rgC false tM0 = false ∧ rowT uM0 2 = (0, 1, 5, 0) ∧ (allS tM0).length = 16 ∧ tM0 0 = 3 ∧ uM0 0 = 5 := by
  refine ⟨?_, ?_, ?_, ?_, ?_, ?_, ?_, ?_, ?_, ?_, ?_⟩ <;> kernel_rfl

end Go.Proofs.Ythgoopdekllanaa
