/- handfastlaw07: wakes. -/
import Derived.Test.YthenbpnlmpeafaaDoorEnV
namespace Go.Proofs.YthenbpnlmpeafaaDoor
open Go.RowKit Go.Shelf
open SumM

set_option maxRecDepth 100000 in
set_option maxHeartbeats 16000000 in
theorem ewakes_any (w : World) (hg : 0 < w.heap.size) (hW : Wid w) : Calls Tryd.prog 8 #[] w fun e w' => e = .returned (.bool true) ∧ Below w.heap.size w w' := by
  obtain ⟨i0, hi, hz0, hz1, hz2⟩ := info_parts Tryd.infoU8
  have HW := Lib.hid (fun W (m : Below w.heap.size w W) => And.intro (Nat.lt_of_lt_of_le hg m.size) (hW.below hg m))
  clear hg hW
  go_enter Tryd.func8, Tryd.ntmps8
  go_wp2_with (fail)
  refine (wrapped_any w).mono ?_
  rintro e w1 ⟨A1, rfl, R1, hn1, m1⟩
  have HN1 := Lib.hid hn1
  have L := m1
  clear m1 hn1
  go_upto_region 2 with (fail)
  have bW := heap_alloc_new w1 (.cells #[.int .u8 1, .int .i64 1, .int .u8 2, .int .i64 3, .int .u8 1, .int .u8 5, .int .i64 3, .int .i64 (-1), .int .i64 7, .int .i64 9, .slice A1 40 40] 29)
  replace R1 := R1.allocS (.cells #[.int .u8 1, .int .i64 1, .int .u8 2, .int .i64 3, .int .u8 1, .int .u8 5, .int .i64 3, .int .i64 (-1), .int .i64 7, .int .i64 9, .slice A1 40 40] 29)
  replace L := L.alloc L.size (.cells #[.int .u8 1, .int .i64 1, .int .u8 2, .int .i64 3, .int .u8 1, .int .u8 5, .int .i64 3, .int .i64 (-1), .int .i64 7, .int .i64 9, .slice A1 40 40] 29)
  generalize w1.alloc (.cells #[.int .u8 1, .int .i64 1, .int .u8 2, .int .i64 3, .int .u8 1, .int .u8 5, .int .i64 3, .int .i64 (-1), .int .i64 7, .int .i64 9, .slice A1 40 40] 29) = W2 at *
  generalize w1.heap.size = aW at *
  obtain ⟨q0, q1, q2, q3, q4, q5, q6, q7, q8, q9, q10⟩ := wr_cells _ _ _ _ _ _ _ _ _ _ _ _ _ bW
  go_wp2_with (fail)
  refine (exPut_any A1 40 W2 (HW.out _ L).1 (HW.out _ L).2 R1 HN1.out).mono ?_
  rintro e w3 ⟨A2, c2, rfl, R2n, hc2, hc2m, m⟩
  clear q0 q1 q2 q3 q4 q5 q6 q7 q8 q9 q10
  replace bW := (m.block _ (Array.getElem?_eq_some_iff.1 bW).1).trans bW
  replace R1 := R1.step m
  replace L := L.trans (m.mono L.size)
  clear m
  have R2 := R2n
  clear R2n
  go_wp2_with (fail)
  refine (exTake_any A2 c2 w3 (HW.out _ L).1 (HW.out _ L).2 R2 hc2 hc2m).mono ?_
  rintro e w4 ⟨A3, c3, rfl, R3n, m⟩
  replace bW := (m.block _ (Array.getElem?_eq_some_iff.1 bW).1).trans bW
  replace R1 := R1.step m
  replace R2 := R2.step m
  replace L := L.trans (m.mono L.size)
  clear m
  have R3 := R3n
  clear R3n
  go_upto_region 4 with (fail)
  replace bW := blk_al bW (.cells #[.int .u8 1, .int .i64 1, .int .u8 2, .int .i64 3, .int .u8 1, .int .u8 5, .int .i64 3, .int .i64 (-1), .int .i64 7, .int .i64 9, .slice A3 40 c3] 29)
  have bV := heap_alloc_new w4 (.cells #[.int .u8 1, .int .i64 1, .int .u8 2, .int .i64 3, .int .u8 1, .int .u8 5, .int .i64 3, .int .i64 (-1), .int .i64 7, .int .i64 9, .slice A3 40 c3] 29)
  replace R1 := R1.allocS (.cells #[.int .u8 1, .int .i64 1, .int .u8 2, .int .i64 3, .int .u8 1, .int .u8 5, .int .i64 3, .int .i64 (-1), .int .i64 7, .int .i64 9, .slice A3 40 c3] 29)
  replace R2 := R2.allocS (.cells #[.int .u8 1, .int .i64 1, .int .u8 2, .int .i64 3, .int .u8 1, .int .u8 5, .int .i64 3, .int .i64 (-1), .int .i64 7, .int .i64 9, .slice A3 40 c3] 29)
  replace R3 := R3.allocS (.cells #[.int .u8 1, .int .i64 1, .int .u8 2, .int .i64 3, .int .u8 1, .int .u8 5, .int .i64 3, .int .i64 (-1), .int .i64 7, .int .i64 9, .slice A3 40 c3] 29)
  replace L := L.alloc L.size (.cells #[.int .u8 1, .int .i64 1, .int .u8 2, .int .i64 3, .int .u8 1, .int .u8 5, .int .i64 3, .int .i64 (-1), .int .i64 7, .int .i64 9, .slice A3 40 c3] 29)
  generalize w4.alloc (.cells #[.int .u8 1, .int .i64 1, .int .u8 2, .int .i64 3, .int .u8 1, .int .u8 5, .int .i64 3, .int .i64 (-1), .int .i64 7, .int .i64 9, .slice A3 40 c3] 29) = W5 at *
  generalize w4.heap.size = aV at *
  obtain ⟨q0, q1, q2, q3, q4, q5, q6, q7, q8, q9, q10⟩ := wr_cells _ _ _ _ _ _ _ _ _ _ _ _ _ bW
  go_wp2_with (fail)
  refine (exAddr_any W5).mono ?_
  rintro e w6 ⟨rfl, m⟩
  clear q0 q1 q2 q3 q4 q5 q6 q7 q8 q9 q10
  replace bW := (m.block _ (Array.getElem?_eq_some_iff.1 bW).1).trans bW
  replace bV := (m.block _ (Array.getElem?_eq_some_iff.1 bV).1).trans bV
  replace R1 := R1.step m
  replace R2 := R2.step m
  replace R3 := R3.step m
  replace L := L.trans (m.mono L.size)
  clear m
  go_wp2_with (fail)
  refine (exNode_any w6).mono ?_
  rintro e w7 ⟨rfl, m⟩
  replace bW := (m.block _ (Array.getElem?_eq_some_iff.1 bW).1).trans bW
  replace bV := (m.block _ (Array.getElem?_eq_some_iff.1 bV).1).trans bV
  replace R1 := R1.step m
  replace R2 := R2.step m
  replace R3 := R3.step m
  replace L := L.trans (m.mono L.size)
  clear m
  go_upto_region 6 with (fail)
  replace bW := blk_al bW (.cells #[.int .u8 2, .int .i64 3] 23)
  replace bV := blk_al bV (.cells #[.int .u8 2, .int .i64 3] 23)
  have bN := heap_alloc_new w7 (.cells #[.int .u8 2, .int .i64 3] 23)
  replace R1 := R1.allocS (.cells #[.int .u8 2, .int .i64 3] 23)
  replace R2 := R2.allocS (.cells #[.int .u8 2, .int .i64 3] 23)
  replace R3 := R3.allocS (.cells #[.int .u8 2, .int .i64 3] 23)
  replace L := L.alloc L.size (.cells #[.int .u8 2, .int .i64 3] 23)
  generalize w7.alloc (.cells #[.int .u8 2, .int .i64 3] 23) = W8 at *
  generalize w7.heap.size = aN at *
  go_wp2_with (fail)
  refine (exAddrNo_any W8).mono ?_
  rintro e w9 ⟨rfl, m⟩
  replace bW := (m.block _ (Array.getElem?_eq_some_iff.1 bW).1).trans bW
  replace bV := (m.block _ (Array.getElem?_eq_some_iff.1 bV).1).trans bV
  replace bN := (m.block _ (Array.getElem?_eq_some_iff.1 bN).1).trans bN
  replace R1 := R1.step m
  replace R2 := R2.step m
  replace R3 := R3.step m
  replace L := L.trans (m.mono L.size)
  clear m
  go_wp2_with (fail)
  refine (exNodeNo_any w9).mono ?_
  rintro e w10 ⟨rfl, m⟩
  replace bW := (m.block _ (Array.getElem?_eq_some_iff.1 bW).1).trans bW
  replace bV := (m.block _ (Array.getElem?_eq_some_iff.1 bV).1).trans bV
  replace bN := (m.block _ (Array.getElem?_eq_some_iff.1 bN).1).trans bN
  replace R1 := R1.step m
  replace R2 := R2.step m
  replace R3 := R3.step m
  replace L := L.trans (m.mono L.size)
  clear m
  go_upto_region 8 with (fail)
  replace bW := blk_al bW (.cells #[.int .u8 0, .int .i64 0] 23)
  replace bV := blk_al bV (.cells #[.int .u8 0, .int .i64 0] 23)
  replace bN := blk_al bN (.cells #[.int .u8 0, .int .i64 0] 23)
  have bM := heap_alloc_new w10 (.cells #[.int .u8 0, .int .i64 0] 23)
  replace R1 := R1.allocS (.cells #[.int .u8 0, .int .i64 0] 23)
  replace R2 := R2.allocS (.cells #[.int .u8 0, .int .i64 0] 23)
  replace R3 := R3.allocS (.cells #[.int .u8 0, .int .i64 0] 23)
  replace L := L.alloc L.size (.cells #[.int .u8 0, .int .i64 0] 23)
  generalize w10.alloc (.cells #[.int .u8 0, .int .i64 0] 23) = W11 at *
  generalize w10.heap.size = aM at *
  obtain ⟨q0, q1, q2, q3, q4, q5, q6, q7, q8, q9, q10⟩ := wr_cells _ _ _ _ _ _ _ _ _ _ _ _ _ bW
  go_upto_region 9 with (fail)
  clear q0 q1 q2 q3 q4 q5 q6 q7 q8 q9 q10
  have V8 := Below.refl W11.heap.size W11
  have bL := heap_alloc_new W11 (.cells #[.int .u8 1, .int .i64 1, .int .u8 2, .int .i64 3, .int .u8 1, .int .u8 5, .int .i64 3, .int .i64 (-1), .int .i64 7, .int .i64 9, .slice A1 40 40] 29)
  have K := V8.alloc V8.size (.cells #[.int .u8 1, .int .i64 1, .int .u8 2, .int .i64 3, .int .u8 1, .int .u8 5, .int .i64 3, .int .i64 (-1), .int .i64 7, .int .i64 9, .slice A1 40 40] 29)
  clear V8
  have RS := Lib.hid (fun W (m : Below W11.heap.size W11 W) => And.intro (R1.step m) (And.intro (R2.step m) (R3.step m)))
  have BS := Lib.hid (fun W (m : Below W11.heap.size W11 W) => show W.heap[aW]? = some (.cells #[.int .u8 1, .int .i64 1, .int .u8 2, .int .i64 3, .int .u8 1, .int .u8 5, .int .i64 3, .int .i64 (-1), .int .i64 7, .int .i64 9, .slice A1 40 40] 29 (0, 0)) ∧ W.heap[aV]? = some (.cells #[.int .u8 1, .int .i64 1, .int .u8 2, .int .i64 3, .int .u8 1, .int .u8 5, .int .i64 3, .int .i64 (-1), .int .i64 7, .int .i64 9, .slice A3 40 c3] 29 (0, 0)) ∧ W.heap[aN]? = some (.cells #[.int .u8 2, .int .i64 3] 23 (0, 0)) from
    ⟨(m.block _ (Array.getElem?_eq_some_iff.1 bW).1).trans bW, (m.block _ (Array.getElem?_eq_some_iff.1 bV).1).trans bV, (m.block _ (Array.getElem?_eq_some_iff.1 bN).1).trans bN⟩)
  have LS := Lib.hid (fun W (m : Below W11.heap.size W11 W) => L.trans (m.mono L.size))
  clear R1 R2 R3 bW bV bN bM L
  generalize W11.alloc (.cells #[.int .u8 1, .int .i64 1, .int .u8 2, .int .i64 3, .int .u8 1, .int .u8 5, .int .i64 3, .int .i64 (-1), .int .i64 7, .int .i64 9, .slice A1 40 40] 29) = W20 at *
  generalize hbl : W11.heap.size = bl at *
  have hlt := (Array.getElem?_eq_some_iff.1 bL).1
  go_upto_region 10 with (at_make; refine wpList_make_lc _ rfl _ _ _ rfl W20.heap.size 5 i0 (.int .u8 0) Tryd.underlying27 hi hz0 hz1 rfl .i64 .i64 65500 65500 65500 65500 rfl rfl rfl rfl (Nat.le_refl _) (by rw [hz2]; omega) (by unfold maxLen; omega) (Nat.le_refl _) ?_; intro w21 hown hgrow; (have bL2 := (hgrow.block _ hlt (by simp)).trans bL); (have c10 := (wr_cells _ _ _ _ _ _ _ _ _ _ _ _ _ bL2).2.2.2.2.2.2.2.2.2.2); (have f10 := wr_frozen bL2 10); (have HG := Lib.hid (And.intro hown (And.intro hgrow bL2))); clear hown hgrow bL2)
  generalize hgl : W20.heap.size = gl at *
  have e22 : (w21.setCell ⟨bl, 10, none⟩ (.slice (some ⟨gl, 0, none⟩) 65500 65500)).heap[bl]? = some (.cells #[.int .u8 1, .int .i64 1, .int .u8 2, .int .i64 3, .int .u8 1, .int .u8 5, .int .i64 3, .int .i64 (-1), .int .i64 7, .int .i64 9, .slice (some ⟨gl, 0, none⟩) 65500 65500] 29 (0, 0)) := heap_setCell_same w21 bl 10 _ _ (.slice (some ⟨gl, 0, none⟩) 65500 65500) HG.out.2.2
  have K22 : Below bl W11 (w21.setCell ⟨bl, 10, none⟩ (.slice (some ⟨gl, 0, none⟩) 65500 65500)) := (K.grown HG.out.2.1 (by have := K.size; omega) (fun k e => by cases e)).setCell (p := ⟨bl, 10, none⟩) (Nat.le_refl _) _
  have o22 : (w21.setCell ⟨bl, 10, none⟩ (.slice (some ⟨gl, 0, none⟩) 65500 65500)).ownsRow gl 5 1 (.slice (some ⟨gl, 0, none⟩) 65500 65500) 65500 (List.replicate 65500 (Value.int .u8 0)) := own_apartN (by decide) [.slice (some ⟨gl, 0, none⟩) 65500 65500] 10 _ _ HG.out.1 HG.out.2.2
  clear HG K bL c10 f10 hlt
  generalize w21.setCell ⟨bl, 10, none⟩ (.slice (some ⟨gl, 0, none⟩) 65500 65500) = W22 at *
  obtain ⟨ls, hls⟩ : ∃ x, List.replicate 65500 (0 : Int) = x := ⟨_, rfl⟩
  have hll : ls.length = 65500 := by rw [← hls]; exact List.length_replicate
  have hlm : List.replicate 65500 (Value.int .u8 0) = ls.map (Value.int .u8) := by rw [← hls, List.map_replicate]
  have hlin : In 255 ls := fun x hx => by
    rw [← hls] at hx
    have := List.eq_of_mem_replicate hx
    omega
  rw [hlm] at o22
  have RL := Row.of_own o22 (in_wf8 hlin)
  have LL := Lib.hid (And.intro hll RL)
  clear hls hlm hlin hll o22 RL
  have n0 := Below.refl W22.heap.size W22
  have RS2 := Lib.hid (fun W (m : Below W22.heap.size W22 W) => And.intro (RS.out W (K22.trans (m.mono (by have := K22.size; omega)))) (LL.out.2.step m))
  have BS2 := Lib.hid (fun W (m : Below W22.heap.size W22 W) => And.intro (BS.out W (K22.trans (m.mono (by have := K22.size; omega)))) ((m.block _ (Array.getElem?_eq_some_iff.1 e22).1).trans e22))
  have LS2 := Lib.hid (fun W (m : Below W22.heap.size W22 W) => LS.out W (K22.trans (m.mono (by have := K22.size; omega))))
  have HLL := Lib.hid LL.out.1
  clear K22 RS BS LS LL e22 hgl hbl
  have CS := Lib.hid (fun W (m : Below W22.heap.size W22 W) => show (W.cell? ⟨aW, 0, none⟩ = some (.int .u8 1) ∧ W.cell? ⟨aW, 1, none⟩ = some (.int .i64 1) ∧ W.cell? ⟨aW, 2, none⟩ = some (.int .u8 2) ∧ W.cell? ⟨aW, 3, none⟩ = some (.int .i64 3) ∧ W.cell? ⟨aW, 4, none⟩ = some (.int .u8 1) ∧ W.cell? ⟨aW, 5, none⟩ = some (.int .u8 5) ∧ W.cell? ⟨aW, 6, none⟩ = some (.int .i64 3) ∧ W.cell? ⟨aW, 7, none⟩ = some (.int .i64 (-1)) ∧ W.cell? ⟨aW, 8, none⟩ = some (.int .i64 7) ∧ W.cell? ⟨aW, 9, none⟩ = some (.int .i64 9) ∧ W.cell? ⟨aW, 10, none⟩ = some (.slice A1 40 40)) ∧ (W.cell? ⟨aV, 0, none⟩ = some (.int .u8 1) ∧ W.cell? ⟨aV, 1, none⟩ = some (.int .i64 1) ∧ W.cell? ⟨aV, 2, none⟩ = some (.int .u8 2) ∧ W.cell? ⟨aV, 3, none⟩ = some (.int .i64 3) ∧ W.cell? ⟨aV, 4, none⟩ = some (.int .u8 1) ∧ W.cell? ⟨aV, 5, none⟩ = some (.int .u8 5) ∧ W.cell? ⟨aV, 6, none⟩ = some (.int .i64 3) ∧ W.cell? ⟨aV, 7, none⟩ = some (.int .i64 (-1)) ∧ W.cell? ⟨aV, 8, none⟩ = some (.int .i64 7) ∧ W.cell? ⟨aV, 9, none⟩ = some (.int .i64 9) ∧ W.cell? ⟨aV, 10, none⟩ = some (.slice A3 40 c3)) ∧ (W.cell? ⟨bl, 0, none⟩ = some (.int .u8 1) ∧ W.cell? ⟨bl, 1, none⟩ = some (.int .i64 1) ∧ W.cell? ⟨bl, 2, none⟩ = some (.int .u8 2) ∧ W.cell? ⟨bl, 3, none⟩ = some (.int .i64 3) ∧ W.cell? ⟨bl, 4, none⟩ = some (.int .u8 1) ∧ W.cell? ⟨bl, 5, none⟩ = some (.int .u8 5) ∧ W.cell? ⟨bl, 6, none⟩ = some (.int .i64 3) ∧ W.cell? ⟨bl, 7, none⟩ = some (.int .i64 (-1)) ∧ W.cell? ⟨bl, 8, none⟩ = some (.int .i64 7) ∧ W.cell? ⟨bl, 9, none⟩ = some (.int .i64 9) ∧ W.cell? ⟨bl, 10, none⟩ = some (.slice (some ⟨gl, 0, none⟩) 65500 65500)) ∧ (W.cell? ⟨aN, 0, none⟩ = some (.int .u8 2) ∧ W.cell? ⟨aN, 1, none⟩ = some (.int .i64 3)) from
    ⟨wr_cells _ _ _ _ _ _ _ _ _ _ _ _ _ (BS2.out W m).1.1, wr_cells _ _ _ _ _ _ _ _ _ _ _ _ _ (BS2.out W m).1.2.1, wr_cells _ _ _ _ _ _ _ _ _ _ _ _ _ (BS2.out W m).2, nod_cells _ _ (BS2.out W m).1.2.2⟩)
  obtain ⟨q0, q1, q2, q3, q4, q5, q6, q7, q8, q9, q10⟩ := (CS.out _ n0).2.2.1
  go_wp2_with (fail)
  refine (exLong_any (some ⟨gl, 0, none⟩) ls HLL.out W22 (HW.out _ (LS2.out _ n0)).1 (HW.out _ (LS2.out _ n0)).2 (RS2.out _ n0).2 (fun h => by cases h)).mono ?_
  rintro e w23 ⟨A23, n23, c23, rfl, m⟩
  replace n0 := n0.trans (m.mono n0.size)
  clear m q0 q1 q2 q3 q4 q5 q6 q7 q8 q9 q10
  go_wp2_with (fail)
  refine (exNone_any w23 (HW.out _ (LS2.out _ n0)).1 (HW.out _ (LS2.out _ n0)).2).mono ?_
  rintro e w24 ⟨A24, n24, c24, rfl, m⟩
  replace n0 := n0.trans (m.mono n0.size)
  clear m
  have hm75 : min (76 : Int) 75 = 75 := by decide
  have hc75 : (75 : Int) ≤ (c2 : Int) := by omega
  obtain ⟨b2, off2, rfl, hb2, _⟩ := (RS2.out _ n0).1.2.1.2 (by rw [ex_len]; omega)
  clear hb2
  go_wp2_with (fail)
  refine (exTake75_any (some ⟨b2, off2, none⟩) c2 w24 (HW.out _ (LS2.out _ n0)).1 (HW.out _ (LS2.out _ n0)).2 (RS2.out _ n0).1.2.1 (by omega) hc2m).mono ?_
  rintro e w25 ⟨rfl, m⟩
  replace n0 := (n0.trans (m.mono n0.size)).alloc (n0.trans (m.mono n0.size)).size (.cells #[.int .u8 0, .int .i64 0, .int .u8 0, .int .i64 0, .int .u8 0, .int .u8 0, .int .i64 0, .int .i64 0, .int .i64 0, .int .i64 0, .slice none 0 0] 29)
  clear m hm75 hc75
  go_wp2_with (fail)
  have L26 := LS2.out _ n0
  have CS3 := Lib.hid (fun W (m : Below (w25.alloc (.cells #[.int .u8 0, .int .i64 0, .int .u8 0, .int .i64 0, .int .u8 0, .int .u8 0, .int .i64 0, .int .i64 0, .int .i64 0, .int .i64 0, .slice none 0 0] 29)).heap.size (w25.alloc (.cells #[.int .u8 0, .int .i64 0, .int .u8 0, .int .i64 0, .int .u8 0, .int .u8 0, .int .i64 0, .int .i64 0, .int .i64 0, .int .i64 0, .slice none 0 0] 29)) W) => CS.out W (n0.trans (m.mono n0.size)))
  have RS3 := Lib.hid (fun W (m : Below (w25.alloc (.cells #[.int .u8 0, .int .i64 0, .int .u8 0, .int .i64 0, .int .u8 0, .int .u8 0, .int .i64 0, .int .i64 0, .int .i64 0, .int .i64 0, .slice none 0 0] 29)).heap.size (w25.alloc (.cells #[.int .u8 0, .int .i64 0, .int .u8 0, .int .i64 0, .int .u8 0, .int .u8 0, .int .i64 0, .int .i64 0, .int .i64 0, .int .i64 0, .slice none 0 0] 29)) W) => RS2.out W (n0.trans (m.mono n0.size)))
  clear CS RS2 BS2 LS2 n0 HW hc2 hc2m
  generalize w25.alloc (.cells #[.int .u8 0, .int .i64 0, .int .u8 0, .int .i64 0, .int .u8 0, .int .u8 0, .int .i64 0, .int .i64 0, .int .i64 0, .int .i64 0, .slice none 0 0] 29) = V at *
  have K1 := Lib.hid (fun W (m : Below V.heap.size V W) => show Calls Tryd.prog 18 #[.agg #[.int .u8 1, .int .i64 1, .int .u8 2, .int .i64 3, .int .u8 1, .int .u8 5, .int .i64 3, .int .i64 (-1), .int .i64 7, .int .i64 9, .slice A3 40 c3], .agg #[.int .u8 1, .int .i64 1, .int .u8 2, .int .i64 3, .int .u8 1, .int .u8 5, .int .i64 3, .int .i64 (-1), .int .i64 7, .int .i64 9, .slice A1 40 40]] W fun e w' => e = .returned (.bool true) ∧ Below W.heap.size W w' from by
    have h := r7Same_any 1 1 2 3 1 5 3 (-1) 7 9 A3 40 c3 1 1 2 3 1 5 3 (-1) 7 9 A1 40 40 exZ exZ _ _ W (Nat.le_refl _) (Nat.le_refl _) (RS3.out W m).1.2.2 rfl (RS3.out W m).1.1 rfl
    rwa [show wrB 1 1 2 3 1 5 3 (-1) 7 9 exZ 1 1 2 3 1 5 3 (-1) 7 9 exZ = true by decide] at h)
  have K3 := Lib.hid (fun W (m : Below V.heap.size V W) => show Calls Tryd.prog 23 #[.agg #[.int .u8 1, .int .i64 1, .int .u8 2, .int .i64 3, .int .u8 1, .int .u8 5, .int .i64 3, .int .i64 (-1), .int .i64 7, .int .i64 9, .slice A1 40 40]] W fun e w' => ∃ A c, e = .returned (.agg #[.int .u8 1, .int .i64 1, .int .u8 2, .int .i64 3, .int .u8 1, .int .u8 5, .int .i64 3, .int .i64 (-1), .int .i64 7, .int .i64 9, .slice A 40 c]) ∧ Row .u8 w'.heap.size w' A exZ ∧ Below W.heap.size W w' from by
    refine (eOwn_any 1 1 2 3 1 5 3 (-1) 7 9 A1 40 40 exZ W (RS3.out W m).1.1 rfl HN1.out (by decide)).mono ?_
    rintro e w' ⟨A, c, rfl, ho, m'⟩
    exact ⟨A, c, rfl, Row.of_own ho (in_wf8 ex_in), m'⟩)
  have K4 := Lib.hid (fun W (m : Below V.heap.size V W) (A : Option Addr) (c : Nat) (R : Row .u8 W.heap.size W A exZ) => show Calls Tryd.prog 22 #[.agg #[.int .u8 1, .int .i64 1, .int .u8 2, .int .i64 3, .int .u8 1, .int .u8 5, .int .i64 3, .int .i64 (-1), .int .i64 7, .int .i64 9, .slice A 40 c], .agg #[.int .u8 1, .int .i64 1, .int .u8 2, .int .i64 3, .int .u8 1, .int .u8 5, .int .i64 3, .int .i64 (-1), .int .i64 7, .int .i64 9, .slice A1 40 40]] W fun e w' => e = .returned (.bool true) ∧ Below W.heap.size W w' from by
    have h := eSame_any 1 1 2 3 1 5 3 (-1) 7 9 A 40 c 1 1 2 3 1 5 3 (-1) 7 9 A1 40 40 exZ exZ _ _ W (Nat.le_refl _) (Nat.le_refl _) R rfl (RS3.out W m).1.1 rfl
    rwa [show wrB 1 1 2 3 1 5 3 (-1) 7 9 exZ 1 1 2 3 1 5 3 (-1) 7 9 exZ = true by decide] at h)
  have K5 := Lib.hid (fun W (m : Below V.heap.size V W) => show Calls Tryd.prog 22 #[.agg #[.int .u8 1, .int .i64 1, .int .u8 2, .int .i64 3, .int .u8 1, .int .u8 5, .int .i64 3, .int .i64 (-1), .int .i64 7, .int .i64 9, .slice A1 40 40], .agg #[.int .u8 1, .int .i64 1, .int .u8 2, .int .i64 3, .int .u8 1, .int .u8 5, .int .i64 3, .int .i64 (-1), .int .i64 7, .int .i64 9, .slice (some ⟨gl, 0, none⟩) 65500 65500]] W fun e w' => e = .returned (.bool false) ∧ Below W.heap.size W w' from by
    have h := eSame_any 1 1 2 3 1 5 3 (-1) 7 9 A1 40 40 1 1 2 3 1 5 3 (-1) 7 9 (some ⟨gl, 0, none⟩) 65500 65500 exZ ls _ _ W (Nat.le_refl _) (Nat.le_refl _) (RS3.out W m).1.1 rfl (RS3.out W m).2 HLL.out
    have hne : eqB exZ ls = false := by
      rw [Bool.eq_false_iff]
      intro h2
      have h3 := eqB_true.1 h2
      have h4 := HLL.out
      rw [← h3] at h4
      exact absurd h4 (by decide)
    rwa [show wrB 1 1 2 3 1 5 3 (-1) 7 9 exZ 1 1 2 3 1 5 3 (-1) 7 9 ls = false by unfold wrB; rw [hne]; simp] at h)
  have E1 := fun W => run_eqD 2 3 2 3 W
  rw [show eqD (2, 3) (2, 3) = true by decide] at E1
  have n0 := (Below.refl V.heap.size V).drew
  clear RS3
  simp only [List.append]
  go_region_held3 (fun W => (W.cell? ⟨aW, 0, none⟩ = some (.int .u8 1) ∧ W.cell? ⟨aW, 1, none⟩ = some (.int .i64 1) ∧ W.cell? ⟨aW, 2, none⟩ = some (.int .u8 2) ∧ W.cell? ⟨aW, 3, none⟩ = some (.int .i64 3) ∧ W.cell? ⟨aW, 4, none⟩ = some (.int .u8 1) ∧ W.cell? ⟨aW, 5, none⟩ = some (.int .u8 5) ∧ W.cell? ⟨aW, 6, none⟩ = some (.int .i64 3) ∧ W.cell? ⟨aW, 7, none⟩ = some (.int .i64 (-1)) ∧ W.cell? ⟨aW, 8, none⟩ = some (.int .i64 7) ∧ W.cell? ⟨aW, 9, none⟩ = some (.int .i64 9) ∧ W.cell? ⟨aW, 10, none⟩ = some (.slice A1 40 40)) ∧ (W.cell? ⟨aV, 0, none⟩ = some (.int .u8 1) ∧ W.cell? ⟨aV, 1, none⟩ = some (.int .i64 1) ∧ W.cell? ⟨aV, 2, none⟩ = some (.int .u8 2) ∧ W.cell? ⟨aV, 3, none⟩ = some (.int .i64 3) ∧ W.cell? ⟨aV, 4, none⟩ = some (.int .u8 1) ∧ W.cell? ⟨aV, 5, none⟩ = some (.int .u8 5) ∧ W.cell? ⟨aV, 6, none⟩ = some (.int .i64 3) ∧ W.cell? ⟨aV, 7, none⟩ = some (.int .i64 (-1)) ∧ W.cell? ⟨aV, 8, none⟩ = some (.int .i64 7) ∧ W.cell? ⟨aV, 9, none⟩ = some (.int .i64 9) ∧ W.cell? ⟨aV, 10, none⟩ = some (.slice A3 40 c3)) ∧ (W.cell? ⟨bl, 0, none⟩ = some (.int .u8 1) ∧ W.cell? ⟨bl, 1, none⟩ = some (.int .i64 1) ∧ W.cell? ⟨bl, 2, none⟩ = some (.int .u8 2) ∧ W.cell? ⟨bl, 3, none⟩ = some (.int .i64 3) ∧ W.cell? ⟨bl, 4, none⟩ = some (.int .u8 1) ∧ W.cell? ⟨bl, 5, none⟩ = some (.int .u8 5) ∧ W.cell? ⟨bl, 6, none⟩ = some (.int .i64 3) ∧ W.cell? ⟨bl, 7, none⟩ = some (.int .i64 (-1)) ∧ W.cell? ⟨bl, 8, none⟩ = some (.int .i64 7) ∧ W.cell? ⟨bl, 9, none⟩ = some (.int .i64 9) ∧ W.cell? ⟨bl, 10, none⟩ = some (.slice (some ⟨gl, 0, none⟩) 65500 65500)) ∧ (W.cell? ⟨aN, 0, none⟩ = some (.int .u8 2) ∧ W.cell? ⟨aN, 1, none⟩ = some (.int .i64 3)))
    (first | with_reducible exact CS3.out _ n5 | with_reducible exact CS3.out _ n4 | with_reducible exact CS3.out _ n3 | with_reducible exact CS3.out _ n2 | with_reducible exact CS3.out _ n1 | with_reducible exact CS3.out _ n0)
    (first
      | (go_at_call 18; (with_reducible refine (K1.out V.drew n0).mono ?_); rintro e v1 ⟨rfl, j1⟩; have n1 := n0.trans (j1.mono n0.size))
      | (go_at_call 20; (with_reducible refine (eNodes_any v1).mono ?_); rintro e v2 ⟨AN, cN, rfl, _, _, _, j2⟩; have n2 := n1.trans (j2.mono n1.size))
      | (go_at_call 23; (with_reducible refine (K3.out v2 n2).mono ?_); rintro e v3 ⟨AO, cO, rfl, RO, j3⟩; have n3 := n2.trans (j3.mono n2.size))
      | (go_at_call 22; (with_reducible refine (K4.out v3 n3 AO cO RO).mono ?_); rintro e v4 ⟨rfl, j4⟩; have n4 := n3.trans (j4.mono n3.size))
      | (go_at_call 22; (with_reducible refine (K5.out v4 n4).mono ?_); rintro e v5 ⟨rfl, j5⟩; have n5 := n4.trans (j5.mono n4.size)))
  go_wp2
  go_ret
  exact ⟨rfl, L26.trans (n5.mono L26.size)⟩
end Go.Proofs.YthenbpnlmpeafaaDoor
