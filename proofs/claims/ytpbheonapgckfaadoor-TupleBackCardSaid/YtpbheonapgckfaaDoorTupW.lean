/- handfastlaw04: one, wakes. -/
import Derived.Test.YtpbheonapgckfaaDoorTupO
namespace Go.Proofs.YtpbheonapgckfaaDoor
open Go.RowKit Go.Shelf
open SumM

theorem made_zeroT (n : Nat) : (madeCells (Value.int .u8 0).cells (n * 1)).toList = (List.replicate n (0 : Int)).map (Value.int .u8) := by
  apply List.ext_getElem
  · simp [size_madeCells]
  · intro k h1 h2
    simp [madeCells, Value.cells, Nat.mod_one]

theorem trow_lit (w : World) (t : TypeId) (us : List Tup) (h : ∀ u ∈ us, Tup.ok u) : TRow (w.alloc (.cells (flatT us).toArray t)).heap.size (w.alloc (.cells (flatT us).toArray t)) (some ⟨w.heap.size, 0, none⟩) us := by
  refine ⟨h, fun _ => ⟨w.heap.size, 0, rfl, by simp, fun j hj => ?_⟩⟩
  have K : ∀ r, r < 4 → (w.alloc (.cells (flatT us).toArray t)).cell? ⟨w.heap.size, 0 + j * 4 + r, none⟩ = (tupC (us[j]?.getD tup0))[r]? := by
    intro r hr
    rw [cell_of_row _ _ _ _ _ _ (heap_alloc_new w _), ← flatT_get us j r hj hr]
    simp
  exact ⟨K 0 (by decide), K 1 (by decide), K 2 (by decide), K 3 (by decide)⟩

theorem run_fieldT (W : World) : (Instr.field 25 (.agg #[.int .u32 167772162, .int .u32 167772161, .int .u16 258, .int .u16 80]) 2).run Tryd.prog W = .ok (.int .u16 258) W := by
  kernel_rfl

set_option maxRecDepth 100000 in
theorem uone_any (w : World) : Calls Tryd.prog 24 #[] w fun e w' => e = .returned (.agg #[.int .u32 167772161, .int .u32 167772162, .int .u16 80, .int .u16 258]) ∧ Below w.heap.size w w' := by
  have bB := heap_alloc_new w (.cells #[.int .u32 0, .int .u32 0, .int .u16 0, .int .u16 0] 25)
  have L0 := (Below.refl w.heap.size w).alloc (Nat.le_refl _) (.cells #[.int .u32 0, .int .u32 0, .int .u16 0, .int .u16 0] 25)
  obtain ⟨z0, z1, z2, z3⟩ := tup_cells _ _ _ _ bB
  have f0 := tup_frozen bB 0
  have f1 := tup_frozen bB 1
  have f2 := tup_frozen bB 2
  have f3 := tup_frozen bB 3
  go_enter Tryd.func24, Tryd.ntmps24
  go_upto_region 1 with (fail)
  generalize w.alloc (.cells #[.int .u32 0, .int .u32 0, .int .u16 0, .int .u16 0] 25) = W0 at *
  go_wp2
  refine bodyPost_ret (results_cell_row rfl _ _ w.heap.size 25 _ (0, 0) _ rfl (full_setCells bB [.int .u32 167772161, .int .u32 167772162, .int .u16 80, .int .u16 258] rfl) Tryd.underlying25 rfl Tryd.infoTup) rfl ?_
  exact ⟨rfl, below_setCells w.heap.size (Nat.le_refl _) [.int .u32 167772161, .int .u32 167772162, .int .u16 80, .int .u16 258] 0 w _ L0⟩

set_option maxRecDepth 100000 in
set_option maxHeartbeats 4000000 in
theorem uwakes_any (w : World) (hT : Tab w) : Calls Tryd.prog 8 #[] w fun e w' => e = .returned (.bool true) ∧ Below w.heap.size w w' := by
  have HT := Lib.hid hT
  clear hT
  go_enter Tryd.func8, Tryd.ntmps8
  have H1 : Hid (UNums 167772161 167772162 80 258) := Lib.hid ⟨by decide, by decide, by decide, by decide⟩
  have H2 : Hid (UNums 167772162 167772161 258 80) := Lib.hid ⟨by decide, by decide, by decide, by decide⟩
  go_wp2_with (fail)
  refine (uone_any w).mono ?_
  rintro e w1 ⟨rfl, m1⟩
  go_wp2_with (fail)
  refine (tBytes_any _ _ _ _ H1.out w1).mono ?_
  rintro e w2 ⟨A2, c2, rfl, hc2, r2, m2⟩
  have l2 := m1.trans (m2.mono m1.size)
  go_wp2_with (fail)
  refine (tTake_any A2 12 c2 (tupB 167772161 167772162 80 258) rfl hc2 w2 r2).mono ?_
  rw [(takeF_tupB H1.out).1, (takeF_tupB H1.out).2]
  rintro e w3 ⟨rfl, m3⟩
  have l3 := l2.trans (m3.mono l2.size)
  go_wp2_with (fail)
  have bT := heap_alloc_new w3 (.cells #[.int .u32 167772161, .int .u32 167772162, .int .u16 80, .int .u16 258] 25)
  have l3' := l3.alloc l3.size (.cells #[.int .u32 167772161, .int .u32 167772162, .int .u16 80, .int .u16 258] 25)
  have r3 := ((r2.below m3).more m3.size).allocS (.cells #[.int .u32 167772161, .int .u32 167772162, .int .u16 80, .int .u16 258] 25)
  have hzT : w3.heap.size < (w3.alloc (.cells #[.int .u32 167772161, .int .u32 167772162, .int .u16 80, .int .u16 258] 25)).heap.size := by simp
  generalize w3.alloc (.cells #[.int .u32 167772161, .int .u32 167772162, .int .u16 80, .int .u16 258] 25) = W3 at *
  generalize w3.heap.size = bt at *
  refine (tTake_any none 0 0 [] rfl (Nat.le_refl _) W3 (Row.nil _ _ _ _)).mono ?_
  rw [show takeY [] = 61 from rfl, show takeF [] = (0, 0, 0, 0) from rfl]
  rintro e w4 ⟨rfl, m4⟩
  have l4 := l3'.trans (m4.mono l3'.size)
  have bT4 := (m4.block _ hzT).trans bT
  have r4 := r3.step m4
  have l4' := l4.alloc l4.size (.cells #[.int .u32 0, .int .u32 0, .int .u16 0, .int .u16 0] 25)
  have bT4' := (Below.heap_alloc w4 (.cells #[.int .u32 0, .int .u32 0, .int .u16 0, .int .u16 0] 25) bt (Array.getElem?_eq_some_iff.1 bT4).1).trans bT4
  have r4' := r4.allocS (.cells #[.int .u32 0, .int .u32 0, .int .u16 0, .int .u16 0] 25)
  clear r2 r3 r4 l2 l3 l3' l4 bT bT4 m1 m2 m3 m4
  obtain ⟨i0, hi, hz0, hz1, hz2⟩ := info_parts Tryd.infoU8
  go_wp2_with (first
    | (at_make; refine wpList_make_full _ rfl _ _ 26 rfl w4.heap.size 5 i0 (.int .u8 0) 1 Tryd.underlying26 hi hz0 hz1 .i64 .i64 13 13 13 rfl rfl rfl rfl (by rw [hz2]; omega) (by unfold maxLen; omega) (by simp) ?_; intro w5 O5 g5; rw [made_zeroT, World.size_alloc] at O5; have l5 := l4'.grown g5 l4'.size (fun j e => by cases e); have m5 := (Below.refl _ _).grown g5 (Nat.le_refl _) (fun j e => by cases e); have r5 := r4'.step m5; have bT5 := (m5.block _ (Array.getElem?_eq_some_iff.1 bT4').1).trans bT4'; have R5 := Lib.hid (Row.of_own O5 (in_wf8 (fun x hx => by rw [List.eq_of_mem_replicate hx]; decide))))
    | (go_at_call 9; (with_reducible refine (tTake_any _ 13 13 (List.replicate 13 0) rfl (Nat.le_refl _) w5 R5.out).mono ?_); rw [show takeY (List.replicate 13 0) = 60 from rfl, show takeF (List.replicate 13 0) = (0, 0, 0, 0) from rfl]; rintro e w6 ⟨rfl, m6⟩; have l6 := l5.trans (m6.mono l5.size); have r6 := r5.step m6; have bT6 := (m6.block _ (Array.getElem?_eq_some_iff.1 bT5).1).trans bT5))
  have l7 := l6.alloc l6.size (.cells #[.int .u32 0, .int .u32 0, .int .u16 0, .int .u16 0] 25)
  have bT7 := (Below.heap_alloc w6 (.cells #[.int .u32 0, .int .u32 0, .int .u16 0, .int .u16 0] 25) bt (Array.getElem?_eq_some_iff.1 bT6).1).trans bT6
  have r7 := r6.allocS (.cells #[.int .u32 0, .int .u32 0, .int .u16 0, .int .u16 0] 25)
  generalize w6.alloc (.cells #[.int .u32 0, .int .u32 0, .int .u16 0, .int .u16 0] 25) = W7 at *
  clear r4' r5 r6 l4' l5 l6 bT4' bT5 bT6 m5 m6 O5 g5 R5
  refine (uone_any W7).mono ?_
  rintro e w8 ⟨rfl, m8⟩
  go_wp2_with (fail)
  refine (tBack_any _ _ _ _ w8).mono ?_
  rintro e w9 ⟨rfl, m9⟩
  go_wp2_with (fail)
  refine (uone_any w9).mono ?_
  rintro e w10 ⟨rfl, m10⟩
  have m710 := (m8.trans (m9.mono m8.size)).trans (m10.mono (m8.trans (m9.mono m8.size)).size)
  have l10 := l7.trans (m710.mono l7.size)
  have r10 := r7.step m710
  have bT10 := (m710.block _ (Array.getElem?_eq_some_iff.1 bT7).1).trans bT7
  clear m8 m9 m10 m710 l7 r7 bT7
  go_wp2_with (fail)
  have rS := trow_lit w10 25 [(167772162, 167772161, 258, 80), (167772161, 167772162, 80, 258)] (by
    intro u hu
    simp at hu
    rcases hu with rfl | rfl
    · exact H2.out
    · exact H1.out)
  have l10' := l10.alloc l10.size (.cells #[.int .u32 167772162, .int .u32 167772161, .int .u16 258, .int .u16 80, .int .u32 167772161, .int .u32 167772162, .int .u16 80, .int .u16 258] 25)
  have bT10' := (Below.heap_alloc w10 (.cells #[.int .u32 167772162, .int .u32 167772161, .int .u16 258, .int .u16 80, .int .u32 167772161, .int .u32 167772162, .int .u16 80, .int .u16 258] 25) bt (Array.getElem?_eq_some_iff.1 bT10).1).trans bT10
  have r10' := r10.allocS (.cells #[.int .u32 167772162, .int .u32 167772161, .int .u16 258, .int .u16 80, .int .u32 167772161, .int .u32 167772162, .int .u16 80, .int .u16 258] 25)
  refine (tSorted_any _ 2 2 _ _ rS rfl (by omega)).mono ?_
  rw [show sortT [(167772162, 167772161, 258, 80), (167772161, 167772162, 80, 258)] = [(167772161, 167772162, 80, 258), (167772162, 167772161, 258, 80)] by decide]
  rintro e w11 ⟨A11, c11, rfl, r11, m11⟩
  have l11 := l10'.trans (m11.mono l10'.size)
  have rb := r10'.step m11
  have bT11 := (m11.block _ (Array.getElem?_eq_some_iff.1 bT10').1).trans bT10'
  clear m11 l10 l10' r10 r10' bT10 bT10' rS
  generalize w4.heap.size = b4 at *
  generalize w6.heap.size = b6 at *
  go_wp2_with (fail)
  have eS := Lib.hid (fun W (m : Below w11.heap.size w11 W) => show (convert 26 9 (.slice A2 12 c2)).run Tryd.prog W = .ok (.string ⟨#[10, 0, 0, 1, 10, 0, 0, 2, 0, 80, 1, 2]⟩) W from by
    rw [show (⟨#[10, 0, 0, 1, 10, 0, 0, 2, 0, 80, 1, 2]⟩ : ByteArray) = strOfNums (tupB 167772161 167772162 80 258) from rfl]
    exact Row.str (rb.below m) 12 c2 rfl)
  have T11 := Lib.hid (HT.out.step l11 (Nat.le_refl _))
  have KT := Lib.hid (fun W (m : Below w11.heap.size w11 W) => show Calls Tryd.prog 19 #[.agg #[.int .u32 167772161, .int .u32 167772162, .int .u16 80, .int .u16 258]] W fun e w' => e = .returned (.string ⟨#[49, 48, 46, 48, 46, 48, 46, 49, 58, 56, 48, 62, 49, 48, 46, 48, 46, 48, 46, 50, 58, 50, 53, 56]⟩) ∧ Below W.heap.size W w' from by
    rw [show (⟨#[49, 48, 46, 48, 46, 48, 46, 49, 58, 56, 48, 62, 49, 48, 46, 48, 46, 48, 46, 50, 58, 50, 53, 56]⟩ : ByteArray) = strOfNums (textL 167772161 167772162 80 258) by simp [textL, endL, dotL, decL, strOfNums]]
    exact tText_any _ _ _ _ H1.out W (T11.out.step m (Nat.le_refl _)))
  have KL := Lib.hid (fun W => show Calls Tryd.prog 15 #[.agg #[.int .u32 167772161, .int .u32 167772162, .int .u16 80, .int .u16 258], .agg #[.int .u32 167772162, .int .u32 167772161, .int .u16 258, .int .u16 80]] W fun e w' => e = .returned (.bool true) ∧ Below W.heap.size W w' from by
    have h := tLess_any _ _ _ _ _ _ _ _ H1.out H2.out W
    rwa [show decide (cmpU 167772161 167772162 80 258 167772162 167772161 258 80 < 0) = true by decide] at h)
  have KC := Lib.hid (fun W => show Calls Tryd.prog 13 #[.agg #[.int .u32 167772161, .int .u32 167772162, .int .u16 80, .int .u16 258], .agg #[.int .u32 167772161, .int .u32 167772162, .int .u16 80, .int .u16 258]] W fun e w' => e = .returned (.int .i64 0) ∧ Below W.heap.size W w' from by
    have h := tCmp_any _ _ _ _ _ _ _ _ H1.out H1.out W
    rwa [show cmpU 167772161 167772162 80 258 167772161 167772162 80 258 = 0 by decide] at h)
  have CS0 := Lib.hid (fun W (m : Below w11.heap.size w11 W) => tup_cells _ _ _ _ ((m.block _ (Array.getElem?_eq_some_iff.1 bT11).1).trans bT11))
  have CS := Lib.hid (fun W (m : Below w11.heap.size w11 W) => And.intro (eS.out W m) (CS0.out W m))
  clear CS0 eS
  have RS := Lib.hid r11
  have eF : ∀ W : World, (Instr.field 25 (.agg #[.int .u32 167772162, .int .u32 167772161, .int .u16 258, .int .u16 80]) 2).run Tryd.prog W = .ok (.int .u16 258) W := run_fieldT
  have n0 := (Below.refl w11.heap.size w11).drew
  have KA := Lib.hid (fun W (m : Below w11.heap.size w11 W) => show Calls Tryd.prog 21 #[.slice A11 2 c11, .slice (some ⟨W.heap.size, 0, none⟩) 2 2] (W.alloc (.cells #[.int .u32 167772161, .int .u32 167772162, .int .u16 80, .int .u16 258, .int .u32 167772162, .int .u32 167772161, .int .u16 258, .int .u16 80] 25)) fun e w' => e = .returned (.bool true) ∧ ∃ n, w' = (W.alloc (.cells #[.int .u32 167772161, .int .u32 167772162, .int .u16 80, .int .u16 258, .int .u32 167772162, .int .u32 167772161, .int .u16 258, .int .u16 80] 25)).drewN n from
    r4All_any A11 _ 2 c11 2 _ [(167772161, 167772162, 80, 258), (167772162, 167772161, 258, 80)] _ ((RS.out.below (m.alloc m.size (.cells #[.int .u32 167772161, .int .u32 167772162, .int .u16 80, .int .u16 258, .int .u32 167772162, .int .u32 167772161, .int .u16 258, .int .u16 80] 25))).more (m.alloc m.size (.cells #[.int .u32 167772161, .int .u32 167772162, .int .u16 80, .int .u16 258, .int .u32 167772162, .int .u32 167772161, .int .u16 258, .int .u16 80] 25)).size) (trow_lit W 25 [(167772161, 167772162, 80, 258), (167772162, 167772161, 258, 80)] RS.out.1) rfl (by omega))
  clear bT11 r11 rb
  go_region_held3 (fun W => (convert 26 9 (.slice A2 12 c2)).run Tryd.prog W = .ok (.string ⟨#[10, 0, 0, 1, 10, 0, 0, 2, 0, 80, 1, 2]⟩) W ∧ W.cell? ⟨bt, 0, none⟩ = some (.int .u32 167772161) ∧ W.cell? ⟨bt, 1, none⟩ = some (.int .u32 167772162) ∧ W.cell? ⟨bt, 2, none⟩ = some (.int .u16 80) ∧ W.cell? ⟨bt, 3, none⟩ = some (.int .u16 258))
    (first | with_reducible exact CS.out _ n27 | with_reducible exact CS.out _ (n26.alloc n26.size _) | with_reducible exact CS.out _ n26 | with_reducible exact CS.out _ n25 | with_reducible exact CS.out _ n24 | with_reducible exact CS.out _ n23 | with_reducible exact CS.out _ n22 | with_reducible exact CS.out _ n21 | with_reducible exact CS.out _ n20 | with_reducible exact CS.out _ n19 | with_reducible exact CS.out _ n18 | with_reducible exact CS.out _ n17 | with_reducible exact CS.out _ n16 | with_reducible exact CS.out _ n15 | with_reducible exact CS.out _ n14 | with_reducible exact CS.out _ n13 | with_reducible exact CS.out _ n12 | with_reducible exact CS.out _ n0)
    (first
      | (go_at_call 24; (with_reducible refine (uone_any w11.drew).mono ?_); rintro e w12 ⟨rfl, k12⟩; have n12 := n0.trans (k12.mono n0.size))
      | (go_at_call 24; (with_reducible refine (uone_any w12).mono ?_); rintro e w13 ⟨rfl, k13⟩; have n13 := n12.trans (k13.mono n12.size))
      | (go_at_call 19; (with_reducible refine (KT.out w13 n13).mono ?_); rintro e w14 ⟨rfl, k14⟩; have n14 := n13.trans (k14.mono n13.size))
      | (go_at_call 24; (with_reducible refine (uone_any w14).mono ?_); rintro e w15 ⟨rfl, k15⟩; have n15 := n14.trans (k15.mono n14.size))
      | (go_at_call 17; (with_reducible refine (tBack_any 167772161 167772162 80 258 w15).mono ?_); rintro e w16 ⟨rfl, k16⟩; have n16 := n15.trans (k16.mono n15.size))
      | (go_at_call 24; (with_reducible refine (uone_any w16).mono ?_); rintro e w17 ⟨rfl, k17⟩; have n17 := n16.trans (k17.mono n16.size))
      | (go_at_call 24; (with_reducible refine (uone_any w17).mono ?_); rintro e w18 ⟨rfl, k18⟩; have n18 := n17.trans (k18.mono n17.size))
      | (go_at_call 17; (with_reducible refine (tBack_any 167772161 167772162 80 258 w18).mono ?_); rintro e w19 ⟨rfl, k19⟩; have n19 := n18.trans (k19.mono n18.size))
      | (go_at_call 15; (with_reducible refine (KL.out w19).mono ?_); rintro e w20 ⟨rfl, k20⟩; have n20 := n19.trans (k20.mono n19.size))
      | (go_at_call 24; (with_reducible refine (uone_any w20).mono ?_); rintro e w21 ⟨rfl, k21⟩; have n21 := n20.trans (k21.mono n20.size))
      | (go_at_call 24; (with_reducible refine (uone_any w21).mono ?_); rintro e w22 ⟨rfl, k22⟩; have n22 := n21.trans (k22.mono n21.size))
      | (go_at_call 13; (with_reducible refine (KC.out w22).mono ?_); rintro e w23 ⟨rfl, k23⟩; have n23 := n22.trans (k23.mono n22.size))
      | (go_at_call 24; (with_reducible refine (uone_any w23).mono ?_); rintro e w24 ⟨rfl, k24⟩; have n24 := n23.trans (k24.mono n23.size))
      | (go_at_call 24; (with_reducible refine (uone_any w24).mono ?_); rintro e w25 ⟨rfl, k25⟩; have n25 := n24.trans (k25.mono n24.size))
      | (go_at_call 17; (with_reducible refine (tBack_any 167772161 167772162 80 258 w25).mono ?_); rintro e w26 ⟨rfl, k26⟩; have n26 := n25.trans (k26.mono n25.size))
      | (go_at_call 21; (with_reducible refine (KA.out _ n26).mono ?_); rintro e w99 ⟨rfl, nq, rfl⟩; have n27 := below_drn (n26.alloc n26.size (.cells #[.int .u32 167772161, .int .u32 167772162, .int .u16 80, .int .u16 258, .int .u32 167772162, .int .u32 167772161, .int .u16 258, .int .u16 80] 25)) nq))
  go_wp2
  go_ret
  exact ⟨rfl, l11.trans (n27.mono l11.size)⟩
end Go.Proofs.YtpbheonapgckfaaDoor
