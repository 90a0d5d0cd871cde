/- handfastlaw06: one, wakes. -/
import Derived.Test.YtjhicdinhcfbjaaOpS
namespace Go.Proofs.Ytjhicdinhcfbjaa
open Go.RowKit Go.Shelf
open SumM

set_option maxRecDepth 100000 in
theorem oone_any (w : World) : Calls Try.prog 19 #[] w fun e w' => e = .returned (.agg #[.int .u8 2, .int .u8 3, .int .i64 1, .int .i64 (-1), .int .i64 258, .int .i64 5]) ∧ Below w.heap.size w w' := by
  have bB := heap_alloc_new w (.cells #[.int .u8 0, .int .u8 0, .int .i64 0, .int .i64 0, .int .i64 0, .int .i64 0] 23)
  have L0 := (Below.refl w.heap.size w).alloc (Nat.le_refl _) (.cells #[.int .u8 0, .int .u8 0, .int .i64 0, .int .i64 0, .int .i64 0, .int .i64 0] 23)
  obtain ⟨q0, q1, q2, q3, q4, q5⟩ := o_cells _ _ _ _ _ _ bB
  have f0 := o_frozen bB 0
  have f1 := o_frozen bB 1
  have f2 := o_frozen bB 2
  have f3 := o_frozen bB 3
  have f4 := o_frozen bB 4
  have f5 := o_frozen bB 5
  go_enter Try.func19, Try.ntmps19
  go_upto_region 1 with (fail)
  generalize w.alloc (.cells #[.int .u8 0, .int .u8 0, .int .i64 0, .int .i64 0, .int .i64 0, .int .i64 0] 23) = W0 at *
  go_wp2
  refine bodyPost_ret (results_cell_row rfl _ _ w.heap.size 23 _ (0, 0) _ rfl (full_setCells bB [.int .u8 2, .int .u8 3, .int .i64 1, .int .i64 (-1), .int .i64 258, .int .i64 5] rfl) Try.underlying23 rfl Try.infoOpt) rfl ?_
  exact ⟨rfl, below_setCells w.heap.size (Nat.le_refl _) [.int .u8 2, .int .u8 3, .int .i64 1, .int .i64 (-1), .int .i64 258, .int .i64 5] 0 w _ L0⟩

/-- The bytes of the document's option. -/
def oex : List Int := [158, 16, 2, 3, 1, 255, 0, 0, 1, 2, 0, 0, 0, 0, 0, 5]
theorem oex_ok : optOk 2 3 1 (-1) 258 5 = true := by decide
theorem oex_optB : optB 2 3 1 (-1) 258 5 = oex := by decide
theorem oex_nums : ONums 2 3 1 (-1) 258 5 := ⟨by decide, by decide, by decide, by decide, by decide, by decide⟩
theorem ozero_nums : ONums 0 0 0 0 0 0 := ⟨by decide, by decide, by decide, by decide, by decide, by decide⟩
theorem oex_take : otY oex = 0 ∧ otF oex = (2, 3, 1, -1, 258, 5) := by
  have h := otY_optB oex_ok
  rwa [oex_optB] at h

theorem made_zeroO (n : Nat) : (madeCells (Value.int .u8 0).cells (n * 1)).toList = (List.replicate n (0 : Int)).map (Value.int .u8) := by
  apply List.ext_getElem
  · simp [size_madeCells]
  · intro k h1 h2
    simp [madeCells, Value.cells, Nat.mod_one]

set_option maxRecDepth 100000 in
set_option maxHeartbeats 8000000 in
theorem owakes_any (w : World) : Calls Try.prog 8 #[] w fun e w' => e = .returned (.bool true) ∧ Below w.heap.size w w' := by
  obtain ⟨i0, hi, hz0, hz1, hz2⟩ := info_parts Try.infoU8
  go_enter Try.func8, Try.ntmps8
  go_wp2_with (fail)
  refine (oone_any w).mono ?_
  rintro e w1 ⟨rfl, l1⟩
  go_wp2_with (fail)
  refine (oPut_yes 2 3 1 (-1) 258 5 oex_nums oex_ok w1).mono ?_
  rw [oex_optB]
  rintro e w2 ⟨A2, c2, rfl, hc2, hcm2, R2, mw2⟩
  have RB := Lib.hid R2
  clear R2
  have lw2 := l1.trans (mw2.mono l1.size)
  go_wp2_with (fail)
  refine (oTake_any A2 16 c2 oex rfl hc2 hcm2 w2 RB.out).mono ?_
  unfold OTakeRet
  rw [oex_take.1, oex_take.2]
  rintro e w3 ⟨rfl, mw3⟩
  have lw3 := lw2.trans (mw3.mono lw2.size)
  replace RB := Lib.hid ((RB.out.below mw3).more mw3.size)
  go_wp2_with (fail)
  have lw4 := lw3.alloc lw3.size (.cells #[.int .u8 2, .int .u8 3, .int .i64 1, .int .i64 (-1), .int .i64 258, .int .i64 5] 23)
  replace RB := Lib.hid (RB.out.allocS (.cells #[.int .u8 2, .int .u8 3, .int .i64 1, .int .i64 (-1), .int .i64 258, .int .i64 5] 23))
  have b3 := heap_alloc_new w3 (.cells #[.int .u8 2, .int .u8 3, .int .i64 1, .int .i64 (-1), .int .i64 258, .int .i64 5] 23)
  generalize w3.alloc (.cells #[.int .u8 2, .int .u8 3, .int .i64 1, .int .i64 (-1), .int .i64 258, .int .i64 5] 23) = w4 at *
  generalize w3.heap.size = a3 at *
  refine (oPut_no 0 0 0 0 0 0 ozero_nums (by decide) w4).mono ?_
  rintro e w5 ⟨A5, c5, rfl, mw5⟩
  have lw5 := lw4.trans (mw5.mono lw4.size)
  have b3_ := (mw5.block _ (Array.getElem?_eq_some_iff.1 b3).1).trans b3
  clear b3
  replace RB := Lib.hid ((RB.out.below mw5).more mw5.size)
  go_wp2_with (fail)
  have R6 : Row .u8 (w5.heap.size + 1) (w5.alloc (.cells #[.int .u8 158] 5)) (some ⟨w5.heap.size, 0, none⟩) [158] := Row.built .u8 w5 5 [158] (by decide)
  have lw6 := lw5.alloc lw5.size (.cells #[.int .u8 158] 5)
  have b3__ := (Below.heap_alloc w5 (.cells #[.int .u8 158] 5) _ (Array.getElem?_eq_some_iff.1 b3_).1).trans b3_
  clear b3_
  replace RB := Lib.hid (RB.out.allocS (.cells #[.int .u8 158] 5))
  have b6 := heap_alloc_new w5 (.cells #[.int .u8 158] 5)
  generalize w5.alloc (.cells #[.int .u8 158] 5) = w6 at *
  generalize w5.heap.size = a6 at *
  refine (oTake_any (some ⟨a6, 0, none⟩) 1 1 [158] rfl (by omega) (by omega) w6 (R6.more (show a6 + 1 ≤ w6.heap.size from (Array.getElem?_eq_some_iff.1 b6).1))).mono ?_
  unfold OTakeRet
  rw [show otY [158] = 61 by decide, show otF [158] = (0, 0, 0, 0, 0, 0) by decide]
  rintro e w7 ⟨rfl, mw7⟩
  clear R6
  have lw7 := lw6.trans (mw7.mono lw6.size)
  have b3___ := (mw7.block _ (Array.getElem?_eq_some_iff.1 b3__).1).trans b3__
  clear b3__
  have b6_ := (mw7.block _ (Array.getElem?_eq_some_iff.1 b6).1).trans b6
  clear b6
  replace RB := Lib.hid ((RB.out.below mw7).more mw7.size)
  clear b6_
  go_upto_region 5 with (fail)
  have lw8 := lw7.alloc lw7.size (.cells #[.int .u8 0, .int .u8 0, .int .i64 0, .int .i64 0, .int .i64 0, .int .i64 0] 23)
  have b3____ := (Below.heap_alloc w7 (.cells #[.int .u8 0, .int .u8 0, .int .i64 0, .int .i64 0, .int .i64 0, .int .i64 0] 23) _ (Array.getElem?_eq_some_iff.1 b3___).1).trans b3___
  clear b3___
  replace RB := Lib.hid (RB.out.allocS (.cells #[.int .u8 0, .int .u8 0, .int .i64 0, .int .i64 0, .int .i64 0, .int .i64 0] 23))
  generalize w7.alloc (.cells #[.int .u8 0, .int .u8 0, .int .i64 0, .int .i64 0, .int .i64 0, .int .i64 0] 23) = w8 at *
  go_wp2_with (at_make; refine wpList_make_full _ rfl _ _ 26 rfl w8.heap.size 5 i0 (.int .u8 0) 1 Try.underlying26 hi hz0 hz1 .i64 .i64 16 16 16 rfl rfl rfl rfl (by rw [hz2]; omega) (by unfold maxLen; omega) (by simp) ?_; intro w9 O9 g9; rw [made_zeroO] at O9; have mw9 := (Below.refl _ _).grown g9 (Nat.le_refl _) (fun j e => by cases e))
  have R9 := Row.of_own O9 (in_wf8 (fun x hx => by rw [List.eq_of_mem_replicate hx]; decide))
  clear O9 g9
  have lw9 := lw8.trans (mw9.mono lw8.size)
  have b3_____ := (mw9.block _ (Array.getElem?_eq_some_iff.1 b3____).1).trans b3____
  clear b3____
  replace RB := Lib.hid ((RB.out.below mw9).more mw9.size)
  refine (oTake_any _ 16 16 (List.replicate 16 0) rfl (by omega) (by omega) w9 R9).mono ?_
  unfold OTakeRet
  rw [show otY (List.replicate 16 0) = 60 by decide, show otF (List.replicate 16 0) = (0, 0, 0, 0, 0, 0) by decide]
  rintro e w10 ⟨rfl, mw10⟩
  clear R9
  have lw10 := lw9.trans (mw10.mono lw9.size)
  have b3______ := (mw10.block _ (Array.getElem?_eq_some_iff.1 b3_____).1).trans b3_____
  clear b3_____
  replace RB := Lib.hid ((RB.out.below mw10).more mw10.size)
  go_wp2_with (fail)
  have lw11 := lw10.alloc lw10.size (.cells #[.int .u8 0, .int .u8 0, .int .i64 0, .int .i64 0, .int .i64 0, .int .i64 0] 23)
  have b3_______ := (Below.heap_alloc w10 (.cells #[.int .u8 0, .int .u8 0, .int .i64 0, .int .i64 0, .int .i64 0, .int .i64 0] 23) _ (Array.getElem?_eq_some_iff.1 b3______).1).trans b3______
  clear b3______
  replace RB := Lib.hid (RB.out.allocS (.cells #[.int .u8 0, .int .u8 0, .int .i64 0, .int .i64 0, .int .i64 0, .int .i64 0] 23))
  generalize w10.alloc (.cells #[.int .u8 0, .int .u8 0, .int .i64 0, .int .i64 0, .int .i64 0, .int .i64 0] 23) = w11 at *
  refine (oOf_any 2 3 1 (-1) 258 5 (by decide) ⟨by decide, by decide, by decide, by decide, by decide, by decide⟩ w11).mono ?_
  rw [show ofY 2 3 1 (-1) 258 5 = 0 by decide, show ofV 2 3 1 (-1) 258 5 = (2, 3, 1, -1, 258, 5) by decide]
  rintro e w12 ⟨rfl, mw12⟩
  have lw12 := lw11.trans (mw12.mono lw11.size)
  have b3________ := (mw12.block _ (Array.getElem?_eq_some_iff.1 b3_______).1).trans b3_______
  clear b3_______
  replace RB := Lib.hid ((RB.out.below mw12).more mw12.size)
  go_wp2_with (fail)
  have lw13 := lw12.alloc lw12.size (.cells #[.int .u8 2, .int .u8 3, .int .i64 1, .int .i64 (-1), .int .i64 258, .int .i64 5] 23)
  have b3_________ := (Below.heap_alloc w12 (.cells #[.int .u8 2, .int .u8 3, .int .i64 1, .int .i64 (-1), .int .i64 258, .int .i64 5] 23) _ (Array.getElem?_eq_some_iff.1 b3________).1).trans b3________
  clear b3________
  replace RB := Lib.hid (RB.out.allocS (.cells #[.int .u8 2, .int .u8 3, .int .i64 1, .int .i64 (-1), .int .i64 258, .int .i64 5] 23))
  have b11 := heap_alloc_new w12 (.cells #[.int .u8 2, .int .u8 3, .int .i64 1, .int .i64 (-1), .int .i64 258, .int .i64 5] 23)
  generalize w12.alloc (.cells #[.int .u8 2, .int .u8 3, .int .i64 1, .int .i64 (-1), .int .i64 258, .int .i64 5] 23) = w13 at *
  generalize w12.heap.size = a11 at *
  refine (oOf_any 2 16 0 0 0 0 (by decide) ozero_nums w13).mono ?_
  rw [show ofY 2 16 0 0 0 0 = 2 by decide, show ofV 2 16 0 0 0 0 = (0, 0, 0, 0, 0, 0) by decide]
  rintro e w14 ⟨rfl, mw14⟩
  have lw14 := lw13.trans (mw14.mono lw13.size)
  have b3__________ := (mw14.block _ (Array.getElem?_eq_some_iff.1 b3_________).1).trans b3_________
  clear b3_________
  have b11_ := (mw14.block _ (Array.getElem?_eq_some_iff.1 b11).1).trans b11
  clear b11
  replace RB := Lib.hid ((RB.out.below mw14).more mw14.size)
  go_upto_region 8 with (fail)
  have lw15 := lw14.alloc lw14.size (.cells #[.int .u8 0, .int .u8 0, .int .i64 0, .int .i64 0, .int .i64 0, .int .i64 0] 23)
  have b3___________ := (Below.heap_alloc w14 (.cells #[.int .u8 0, .int .u8 0, .int .i64 0, .int .i64 0, .int .i64 0, .int .i64 0] 23) _ (Array.getElem?_eq_some_iff.1 b3__________).1).trans b3__________
  clear b3__________
  have b11__ := (Below.heap_alloc w14 (.cells #[.int .u8 0, .int .u8 0, .int .i64 0, .int .i64 0, .int .i64 0, .int .i64 0] 23) _ (Array.getElem?_eq_some_iff.1 b11_).1).trans b11_
  clear b11_
  replace RB := Lib.hid (RB.out.allocS (.cells #[.int .u8 0, .int .u8 0, .int .i64 0, .int .i64 0, .int .i64 0, .int .i64 0] 23))
  generalize w14.alloc (.cells #[.int .u8 0, .int .u8 0, .int .i64 0, .int .i64 0, .int .i64 0, .int .i64 0] 23) = w15 at *
  go_wp2_with (fail)
  refine (oone_any w15).mono ?_
  rintro e w16 ⟨rfl, mw16⟩
  have lw16 := lw15.trans (mw16.mono lw15.size)
  have b3____________ := (mw16.block _ (Array.getElem?_eq_some_iff.1 b3___________).1).trans b3___________
  clear b3___________
  have b11___ := (mw16.block _ (Array.getElem?_eq_some_iff.1 b11__).1).trans b11__
  clear b11__
  replace RB := Lib.hid ((RB.out.below mw16).more mw16.size)
  go_wp2_with (fail)
  refine (oTurned_any 2 3 1 (-1) 258 5 3 7 oex_nums (by decide) w16).mono ?_
  rw [show tuY 3 1 (-1) 5 3 7 = 0 by decide, show tuV 3 1 (-1) 5 3 7 = (3, 3, 1, -1, 7, 5) by decide]
  rintro e w17 ⟨rfl, mw17⟩
  have lw17 := lw16.trans (mw17.mono lw16.size)
  have b3_____________ := (mw17.block _ (Array.getElem?_eq_some_iff.1 b3____________).1).trans b3____________
  clear b3____________
  have b11____ := (mw17.block _ (Array.getElem?_eq_some_iff.1 b11___).1).trans b11___
  clear b11___
  replace RB := Lib.hid ((RB.out.below mw17).more mw17.size)
  go_upto_region 9 with (fail)
  have lw18 := lw17.alloc lw17.size (.cells #[.int .u8 3, .int .u8 3, .int .i64 1, .int .i64 (-1), .int .i64 7, .int .i64 5] 23)
  have b3______________ := (Below.heap_alloc w17 (.cells #[.int .u8 3, .int .u8 3, .int .i64 1, .int .i64 (-1), .int .i64 7, .int .i64 5] 23) _ (Array.getElem?_eq_some_iff.1 b3_____________).1).trans b3_____________
  clear b3_____________
  have b11_____ := (Below.heap_alloc w17 (.cells #[.int .u8 3, .int .u8 3, .int .i64 1, .int .i64 (-1), .int .i64 7, .int .i64 5] 23) _ (Array.getElem?_eq_some_iff.1 b11____).1).trans b11____
  clear b11____
  replace RB := Lib.hid (RB.out.allocS (.cells #[.int .u8 3, .int .u8 3, .int .i64 1, .int .i64 (-1), .int .i64 7, .int .i64 5] 23))
  have b15 := heap_alloc_new w17 (.cells #[.int .u8 3, .int .u8 3, .int .i64 1, .int .i64 (-1), .int .i64 7, .int .i64 5] 23)
  generalize w17.alloc (.cells #[.int .u8 3, .int .u8 3, .int .i64 1, .int .i64 (-1), .int .i64 7, .int .i64 5] 23) = w18 at *
  generalize w17.heap.size = a15 at *
  go_wp2_with (fail)
  refine (oone_any w18).mono ?_
  rintro e w19 ⟨rfl, mw19⟩
  have lw19 := lw18.trans (mw19.mono lw18.size)
  have b3_______________ := (mw19.block _ (Array.getElem?_eq_some_iff.1 b3______________).1).trans b3______________
  clear b3______________
  have b11______ := (mw19.block _ (Array.getElem?_eq_some_iff.1 b11_____).1).trans b11_____
  clear b11_____
  have b15_ := (mw19.block _ (Array.getElem?_eq_some_iff.1 b15).1).trans b15
  clear b15
  replace RB := Lib.hid ((RB.out.below mw19).more mw19.size)
  go_wp2_with (fail)
  refine (oTurned_any 2 3 1 (-1) 258 5 0 7 oex_nums (by decide) w19).mono ?_
  rw [show tuY 3 1 (-1) 5 0 7 = 2 by decide, show tuV 3 1 (-1) 5 0 7 = (0, 0, 0, 0, 0, 0) by decide]
  rintro e w20 ⟨rfl, mw20⟩
  have lw20 := lw19.trans (mw20.mono lw19.size)
  have b3________________ := (mw20.block _ (Array.getElem?_eq_some_iff.1 b3_______________).1).trans b3_______________
  clear b3_______________
  have b11_______ := (mw20.block _ (Array.getElem?_eq_some_iff.1 b11______).1).trans b11______
  clear b11______
  have b15__ := (mw20.block _ (Array.getElem?_eq_some_iff.1 b15_).1).trans b15_
  clear b15_
  replace RB := Lib.hid ((RB.out.below mw20).more mw20.size)
  go_wp2_with (fail)
  have lw21 := lw20.alloc lw20.size (.cells #[.int .u8 0, .int .u8 0, .int .i64 0, .int .i64 0, .int .i64 0, .int .i64 0] 23)
  have b3_________________ := (Below.heap_alloc w20 (.cells #[.int .u8 0, .int .u8 0, .int .i64 0, .int .i64 0, .int .i64 0, .int .i64 0] 23) _ (Array.getElem?_eq_some_iff.1 b3________________).1).trans b3________________
  clear b3________________
  have b11________ := (Below.heap_alloc w20 (.cells #[.int .u8 0, .int .u8 0, .int .i64 0, .int .i64 0, .int .i64 0, .int .i64 0] 23) _ (Array.getElem?_eq_some_iff.1 b11_______).1).trans b11_______
  clear b11_______
  have b15___ := (Below.heap_alloc w20 (.cells #[.int .u8 0, .int .u8 0, .int .i64 0, .int .i64 0, .int .i64 0, .int .i64 0] 23) _ (Array.getElem?_eq_some_iff.1 b15__).1).trans b15__
  clear b15__
  replace RB := Lib.hid (RB.out.allocS (.cells #[.int .u8 0, .int .u8 0, .int .i64 0, .int .i64 0, .int .i64 0, .int .i64 0] 23))
  generalize w20.alloc (.cells #[.int .u8 0, .int .u8 0, .int .i64 0, .int .i64 0, .int .i64 0, .int .i64 0] 23) = w21 at *
  have CS := Lib.hid (fun W (m : Below w21.heap.size w21 W) => show (convert 26 9 (.slice A2 16 c2)).run Try.prog W = .ok (.string ⟨#[158, 16, 2, 3, 1, 255, 0, 0, 1, 2, 0, 0, 0, 0, 0, 5]⟩) W ∧ (W.cell? ⟨a3, 0, none⟩ = some (.int .u8 2) ∧ W.cell? ⟨a3, 1, none⟩ = some (.int .u8 3) ∧ W.cell? ⟨a3, 2, none⟩ = some (.int .i64 1) ∧ W.cell? ⟨a3, 3, none⟩ = some (.int .i64 (-1)) ∧ W.cell? ⟨a3, 4, none⟩ = some (.int .i64 258) ∧ W.cell? ⟨a3, 5, none⟩ = some (.int .i64 5)) ∧ (W.cell? ⟨a11, 0, none⟩ = some (.int .u8 2) ∧ W.cell? ⟨a11, 1, none⟩ = some (.int .u8 3) ∧ W.cell? ⟨a11, 2, none⟩ = some (.int .i64 1) ∧ W.cell? ⟨a11, 3, none⟩ = some (.int .i64 (-1)) ∧ W.cell? ⟨a11, 4, none⟩ = some (.int .i64 258) ∧ W.cell? ⟨a11, 5, none⟩ = some (.int .i64 5)) ∧ (W.cell? ⟨a15, 0, none⟩ = some (.int .u8 3) ∧ W.cell? ⟨a15, 1, none⟩ = some (.int .u8 3) ∧ W.cell? ⟨a15, 2, none⟩ = some (.int .i64 1) ∧ W.cell? ⟨a15, 3, none⟩ = some (.int .i64 (-1)) ∧ W.cell? ⟨a15, 4, none⟩ = some (.int .i64 7) ∧ W.cell? ⟨a15, 5, none⟩ = some (.int .i64 5)) from
    ⟨Row.str (RB.out.below m) 16 c2 rfl, o_cells _ _ _ _ _ _ ((m.block _ (Array.getElem?_eq_some_iff.1 b3_________________).1).trans b3_________________), o_cells _ _ _ _ _ _ ((m.block _ (Array.getElem?_eq_some_iff.1 b11________).1).trans b11________), o_cells _ _ _ _ _ _ ((m.block _ (Array.getElem?_eq_some_iff.1 b15___).1).trans b15___)⟩)
  have KR1 := Lib.hid (fun W => show Calls Try.prog 17 #[.agg #[.int .u8 2, .int .u8 3, .int .i64 1, .int .i64 (-1), .int .i64 258, .int .i64 5]] W fun e w' => e = .returned (.bool true) ∧ Below W.heap.size W w' from by
    have h := oRight_any 2 3 1 (-1) 258 5 oex_nums W
    rwa [oex_ok] at h)
  have KR2 := Lib.hid (fun W => show Calls Try.prog 17 #[.agg #[.int .u8 0, .int .u8 0, .int .i64 0, .int .i64 0, .int .i64 0, .int .i64 0]] W fun e w' => e = .returned (.bool false) ∧ Below W.heap.size W w' from by
    have h := oRight_any 0 0 0 0 0 0 ozero_nums W
    rwa [show optOk 0 0 0 0 0 0 = false by decide] at h)
  have nc := (Below.refl w21.heap.size w21).drew
  have HL := Lib.hid lw21
  clear b3_________________ b11________ b15___ RB lw21
  simp only [List.append]
  go_region_held3 (fun W => (convert 26 9 (.slice A2 16 c2)).run Try.prog W = .ok (.string ⟨#[158, 16, 2, 3, 1, 255, 0, 0, 1, 2, 0, 0, 0, 0, 0, 5]⟩) W ∧ (W.cell? ⟨a3, 0, none⟩ = some (.int .u8 2) ∧ W.cell? ⟨a3, 1, none⟩ = some (.int .u8 3) ∧ W.cell? ⟨a3, 2, none⟩ = some (.int .i64 1) ∧ W.cell? ⟨a3, 3, none⟩ = some (.int .i64 (-1)) ∧ W.cell? ⟨a3, 4, none⟩ = some (.int .i64 258) ∧ W.cell? ⟨a3, 5, none⟩ = some (.int .i64 5)) ∧ (W.cell? ⟨a11, 0, none⟩ = some (.int .u8 2) ∧ W.cell? ⟨a11, 1, none⟩ = some (.int .u8 3) ∧ W.cell? ⟨a11, 2, none⟩ = some (.int .i64 1) ∧ W.cell? ⟨a11, 3, none⟩ = some (.int .i64 (-1)) ∧ W.cell? ⟨a11, 4, none⟩ = some (.int .i64 258) ∧ W.cell? ⟨a11, 5, none⟩ = some (.int .i64 5)) ∧ (W.cell? ⟨a15, 0, none⟩ = some (.int .u8 3) ∧ W.cell? ⟨a15, 1, none⟩ = some (.int .u8 3) ∧ W.cell? ⟨a15, 2, none⟩ = some (.int .i64 1) ∧ W.cell? ⟨a15, 3, none⟩ = some (.int .i64 (-1)) ∧ W.cell? ⟨a15, 4, none⟩ = some (.int .i64 7) ∧ W.cell? ⟨a15, 5, none⟩ = some (.int .i64 5)))
    (first | with_reducible exact CS.out _ nc)
    (first
      | (go_at_call 19; (with_reducible refine (oone_any _).mono ?_); rintro e wc ⟨rfl, kk⟩; have nc := nc.trans (kk.mono nc.size); clear kk)
      | (go_at_call 17; (with_reducible refine (KR1.out _).mono ?_); rintro e wc ⟨rfl, kk⟩; have nc := nc.trans (kk.mono nc.size); clear kk)
      | (go_at_call 17; (with_reducible refine (KR2.out _).mono ?_); rintro e wc ⟨rfl, kk⟩; have nc := nc.trans (kk.mono nc.size); clear kk))
  go_wp2
  go_ret
  exact ⟨rfl, HL.out.trans (nc.mono HL.out.size)⟩
end Go.Proofs.Ytjhicdinhcfbjaa
