/- The document's own Put of options. -/
import Derived.Test.YthenbpnlmpeafaaDoorOpB
namespace Go.Proofs.YthenbpnlmpeafaaDoor
open Go.RowKit Go.Shelf
open SumM

/-- An option's bytes in memory of the call's own, and no error. -/
def OPutRet (zs : List Int) (w : World) (e : Ending) (w' : World) : Prop :=
  ∃ g c, e = .returned (.tuple #[.slice (some ⟨g, 0, none⟩) 16 c, .int .i64 0]) ∧ w'.ownsRow w.heap.size 5 1 (.slice (some ⟨g, 0, none⟩) 16 c) 16 (zs.map (Value.int .u8)) ∧ Below w.heap.size w w'

set_option maxRecDepth 100000 in
set_option maxHeartbeats 8000000 in
theorem refOPut_yes (kd bu cu pv ge ti : Int) (hk : 0 ≤ kd ∧ kd ≤ 255) (hb : 0 ≤ bu ∧ bu ≤ 255) (hok : optOk kd bu cu pv ge ti = true) (w : World) :
    Calls Tryd.prog 32 #[.agg #[.int .u8 kd, .int .u8 bu, .int .i64 cu, .int .i64 pv, .int .i64 ge, .int .i64 ti]] w (OPutRet (optB kd bu cu pv ge ti) w) := by
  have bA := heap_alloc_new w (.cells #[.int .u8 kd, .int .u8 bu, .int .i64 cu, .int .i64 pv, .int .i64 ge, .int .i64 ti] 26)
  have L0 := (Below.refl w.heap.size w).alloc (Nat.le_refl _) (.cells #[.int .u8 kd, .int .u8 bu, .int .i64 cu, .int .i64 pv, .int .i64 ge, .int .i64 ti] 26)
  have hlim := optOk_iff.1 hok
  have KR := Lib.hid (fun W => show Calls Tryd.prog 24 #[.agg #[.int .u8 kd, .int .u8 bu, .int .i64 cu, .int .i64 pv, .int .i64 ge, .int .i64 ti]] W fun e w' => e = .returned (.bool true) ∧ Below W.heap.size W w' from by
    have h := refORight_any kd bu cu pv ge ti W
    rwa [hok] at h)
  have hin6 : In 255 [158, 16, kd, bu, cu % 256, pv % 256] := by
    intro x hx
    simp at hx
    omega
  have HI6 := Lib.hid hin6
  have b6 : 0 ≤ ge ∧ ge ≤ 2147483647 := by omega
  have b7 : 0 ≤ ti ∧ ti ≤ 1099511627776 := by omega
  obtain ⟨q0, q1, q2, q3, q4, q5⟩ := o_cells _ _ _ _ _ _ bA
  clear hok hin6 hlim
  go_enter Tryd.func32, Tryd.ntmps32
  go_upto_region 1 with (fail)
  generalize w.alloc (.cells #[.int .u8 kd, .int .u8 bu, .int .i64 cu, .int .i64 pv, .int .i64 ge, .int .i64 ti] 26) = W0 at *
  go_wp2_with (fail)
  refine (KR.out W0).mono ?_
  rintro e w1 ⟨rfl, m1⟩
  have L1 := L0.trans (m1.mono L0.size)
  have bA1 := (m1.block _ (Array.getElem?_eq_some_iff.1 bA).1).trans bA
  have hw1 : w.heap.size < w1.heap.size := (Array.getElem?_eq_some_iff.1 bA1).1
  clear q0 q1 q2 q3 q4 q5 bA L0 m1 KR
  obtain ⟨q0, q1, q2, q3, q4, q5⟩ := o_cells _ _ _ _ _ _ bA1
  have e1 := i64_and255 cu
  have e2 := i64_and255 pv
  have QS := Lib.hid (fun W (mm : Below w1.heap.size w1 W) => (show W.cell? ⟨w.heap.size, 4, none⟩ = some (.int .i64 ge) ∧ W.cell? ⟨w.heap.size, 5, none⟩ = some (.int .i64 ti) from
    have h := o_cells _ _ _ _ _ _ ((mm.block _ hw1).trans bA1)
    ⟨h.2.2.2.2.1, h.2.2.2.2.2⟩))
  obtain ⟨i0, hi, hz0, hz1, hz2⟩ := info_parts Tryd.infoU8
  go_upto_region 4 with (fail)
  have O0' : (w1.alloc (.cells #[.int .u8 158, .int .u8 16, .int .u8 kd, .int .u8 bu, .int .u8 (cu % 256), .int .u8 (pv % 256)] 5)).ownsRow w1.heap.size 5 1 (.slice (some ⟨w1.heap.size, 0, none⟩) 6 6) 6 (([158, 16, kd, bu, cu % 256, pv % 256] : List Int).map (Value.int .u8)) := own_built w1 w1.heap.size (Nat.le_refl _) 5 (([158, 16, kd, bu, cu % 256, pv % 256] : List Int).map (Value.int .u8)) 6 rfl (by unfold maxLen; omega)
  have Mg := (Below.refl w1.heap.size w1).alloc (Nat.le_refl _) (.cells #[.int .u8 158, .int .u8 16, .int .u8 kd, .int .u8 bu, .int .u8 (cu % 256), .int .u8 (pv % 256)] 5)
  have hggl' : w1.heap.size < (w1.alloc (.cells #[.int .u8 158, .int .u8 16, .int .u8 kd, .int .u8 bu, .int .u8 (cu % 256), .int .u8 (pv % 256)] 5)).heap.size := by simp
  generalize w1.alloc (.cells #[.int .u8 158, .int .u8 16, .int .u8 kd, .int .u8 bu, .int .u8 (cu % 256), .int .u8 (pv % 256)] 5) = wg at *
  have O0 := Lib.hid O0'
  have N0 : Below w1.heap.size w1 wg.drew := Mg.drew
  have O0 := show wg.drew.ownsRow w1.heap.size 5 1 (.slice (some ⟨w1.heap.size, 0, none⟩) 6 6) 6 (([158, 16, kd, bu, cu % 256, pv % 256] : List Int).map (Value.int .u8)) from O0.out
  have hggl : w1.heap.size < wg.drew.heap.size := hggl'
  obtain ⟨lg, hlg⟩ : ∃ l, ([158, 16, kd, bu, cu % 256, pv % 256] : List Int) = l := ⟨_, rfl⟩
  rw [hlg] at O0
  have HLG := Lib.hid hlg
  clear O0' Mg hggl' q0 q1 q2 q3 q4 q5 e1 e2 hlg bA1
  go_region_held3 (fun W => W.cell? ⟨w.heap.size, 4, none⟩ = some (.int .i64 ge) ∧ W.cell? ⟨w.heap.size, 5, none⟩ = some (.int .i64 ti))
    (first | with_reducible exact QS.out _ NY | with_reducible exact QS.out _ NX | with_reducible exact QS.out _ NB | with_reducible exact QS.out _ NA | with_reducible exact QS.out _ N0)
    (first
      | (go_at_call_of 51 (Value.int .i64 ge); (with_reducible refine (r6bytes4 ge b6 _).mono ?_); rintro e wA ⟨gA, cA, rfl, OA, mA⟩; have NA := N0.trans (mA.mono N0.size); have PA := own_below O0 mA)
      | (go_at_call_of 51 (Value.int .i64 ti); (with_reducible refine (r6bytes6 ti b7 _).mono ?_); rintro e wB ⟨gB, cB, rfl, OB, mB⟩; first | (have NB := NX.trans (mB.mono NX.size); have PX := own_below OX mB) | (have NB := NA.trans (mB.mono NA.size); have PB := own_below PA mB; have QA := own_below OA mB))
      | (refine step_append_w wA (by rfl) _ _ _ (by rfl) w1.heap.size 5 i0 (.int .u8 0) 1 Tryd.underlying27 hi hz0 hz1 hz2 rfl (.slice (some ⟨w1.heap.size, 0, none⟩) 6 6) 6 (lg.map (Value.int .u8)) (by rfl) PA ⟨gA, 0, none⟩ 4 cA (([ge / 16777216 % 256, ge / 65536 % 256, ge / 256 % 256, ge % 256] : List Int).map (Value.int .u8)) (by rfl) (by rfl) (OA.cells rfl) (one_u8 _) (by omega) (by unfold maxLen; omega) (by omega) NA.size ?_; intro gX cX wX OX hgX; rw [← List.map_append] at OX; have NX := NA.grown hgX NA.size (fun e he => by cases he <;> exact Nat.le_refl _))
      | (refine step_append_w wB (by rfl) _ _ _ (by rfl) w1.heap.size 5 i0 (.int .u8 0) 1 Tryd.underlying27 hi hz0 hz1 hz2 rfl (.slice (some ⟨w1.heap.size, 0, none⟩) 6 6) 6 (lg.map (Value.int .u8)) (by rfl) PB ⟨gA, 0, none⟩ 4 cA (([ge / 16777216 % 256, ge / 65536 % 256, ge / 256 % 256, ge % 256] : List Int).map (Value.int .u8)) (by rfl) (by rfl) (QA.cells rfl) (one_u8 _) (by omega) (by unfold maxLen; omega) (by omega) NB.size ?_; intro gX cX wX OX hgX; rw [← List.map_append] at OX; have NX := NB.grown hgX NB.size (fun e he => by cases he <;> exact Nat.le_refl _); have OB' := own_grown OB PB hgX (Nat.lt_of_lt_of_le hggl mA.size))
      | (refine step_append_w wB (by rfl) _ _ _ (by rfl) w1.heap.size 5 i0 (.int .u8 0) 1 Tryd.underlying27 hi hz0 hz1 hz2 rfl (.slice (some ⟨gX, 0, none⟩) (6 + 4) cX) (6 + 4) ((lg ++ [ge / 16777216 % 256, ge / 65536 % 256, ge / 256 % 256, ge % 256]).map (Value.int .u8)) (by rfl) PX ⟨gB, 0, none⟩ 6 cB (([ti / 1099511627776 % 256, ti / 4294967296 % 256, ti / 16777216 % 256, ti / 65536 % 256, ti / 256 % 256, ti % 256] : List Int).map (Value.int .u8)) (by rfl) (by rfl) (OB.cells rfl) (one_u8 _) (by omega) (by unfold maxLen; omega) (by omega) NB.size ?_; intro gY cY wY OY hgY; rw [← List.map_append] at OY; have NY := NB.grown hgY NB.size (fun e he => (PX.lt e he).1))
      | (refine step_append_w wX (by rfl) _ _ _ (by rfl) w1.heap.size 5 i0 (.int .u8 0) 1 Tryd.underlying27 hi hz0 hz1 hz2 rfl (.slice (some ⟨gX, 0, none⟩) (6 + 4) cX) (6 + 4) ((lg ++ [ge / 16777216 % 256, ge / 65536 % 256, ge / 256 % 256, ge % 256]).map (Value.int .u8)) (by rfl) OX ⟨gB, 0, none⟩ 6 cB (([ti / 1099511627776 % 256, ti / 4294967296 % 256, ti / 16777216 % 256, ti / 65536 % 256, ti / 256 % 256, ti % 256] : List Int).map (Value.int .u8)) (by rfl) (by rfl) (OB'.cells rfl) (one_u8 _) (by omega) (by unfold maxLen; omega) (by omega) NX.size ?_; intro gY cY wY OY hgY; rw [← List.map_append] at OY; have NY := NX.grown hgY NX.size (fun e he => (OX.lt e he).1)))
  all_goals
    have HE := Lib.hid (show lg ++ [ge / 16777216 % 256, ge / 65536 % 256, ge / 256 % 256, ge % 256] ++ [ti / 1099511627776 % 256, ti / 4294967296 % 256, ti / 16777216 % 256, ti / 65536 % 256, ti / 256 % 256, ti % 256] = optB kd bu cu pv ge ti by rw [← HLG.out]; rfl)
    rw [HE.out] at OY
    go_wp2
    go_ret2
    have OZ := own_base (b' := w.heap.size) OY (Nat.le_of_lt hw1)
    have LZ := L1.trans (NY.mono L1.size)
    exact ⟨gY, cY, rfl, OZ, LZ⟩

set_option maxRecDepth 100000 in
theorem refOPut_no (kd bu cu pv ge ti : Int) (hok : optOk kd bu cu pv ge ti = false) (w : World) :
    Calls Tryd.prog 32 #[.agg #[.int .u8 kd, .int .u8 bu, .int .i64 cu, .int .i64 pv, .int .i64 ge, .int .i64 ti]] w fun e w' => e = .returned (.tuple #[.slice none 0 0, .int .i64 2]) ∧ Below w.heap.size w w' := by
  have bA := heap_alloc_new w (.cells #[.int .u8 kd, .int .u8 bu, .int .i64 cu, .int .i64 pv, .int .i64 ge, .int .i64 ti] 26)
  have L0 := (Below.refl w.heap.size w).alloc (Nat.le_refl _) (.cells #[.int .u8 kd, .int .u8 bu, .int .i64 cu, .int .i64 pv, .int .i64 ge, .int .i64 ti] 26)
  have KR := Lib.hid (fun W => show Calls Tryd.prog 24 #[.agg #[.int .u8 kd, .int .u8 bu, .int .i64 cu, .int .i64 pv, .int .i64 ge, .int .i64 ti]] W fun e w' => e = .returned (.bool false) ∧ Below W.heap.size W w' from by
    have h := refORight_any kd bu cu pv ge ti W
    rwa [hok] at h)
  obtain ⟨q0, q1, q2, q3, q4, q5⟩ := o_cells _ _ _ _ _ _ bA
  clear hok
  go_enter Tryd.func32, Tryd.ntmps32
  go_upto_region 1 with (fail)
  generalize w.alloc (.cells #[.int .u8 kd, .int .u8 bu, .int .i64 cu, .int .i64 pv, .int .i64 ge, .int .i64 ti] 26) = W0 at *
  go_wp2_with (fail)
  refine (KR.out W0).mono ?_
  rintro e w1 ⟨rfl, m1⟩
  go_wp2
  go_ret2
  exact ⟨rfl, L0.trans (m1.mono L0.size)⟩
end Go.Proofs.YthenbpnlmpeafaaDoor
