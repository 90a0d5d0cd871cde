/- 'handfastlaw04.TupleBack' returns true at every two tuples and all bytes, and leaves what lay as it lay. -/
import Derived.Test.YtpbheonapgckfaaDoorTupEq
import Derived.Deep.RegionHeldLaw
import Derived.Deep.DrawnRows
namespace Go.Proofs.YtpbheonapgckfaaDoor
open Go.RowKit Go.Shelf
open SumM
attribute [local go_sem ↓] Go.wp_at_zero Go.wp_at_succ

set_option maxRecDepth 100000 in
set_option maxHeartbeats 16000000 in
theorem tupBack_walk (ts td tp tq : Int) (ts' td' tp' tq' : Int) (a2 : Option Addr) (len2 cap2 : Nat) (z2 : List Int) (w : World) (hT : Tab w) (H : UNums ts td tp tq) (H' : UNums ts' td' tp' tq') (w2 : IsRow .u8 w a2 len2 cap2 z2) :
    Calls Tryd.prog 4 #[.agg #[.int .u32 ts, .int .u32 td, .int .u16 tp, .int .u16 tq], .agg #[.int .u32 ts', .int .u32 td', .int .u16 tp', .int .u16 tq'], .slice a2 len2 cap2] w fun e w' => e = .returned (.bool true) ∧ Below w.heap.size w w' := by
  obtain ⟨hrz, hzl, hnz, hlz, hmz⟩ := w2.row
  generalize z2.take len2 = zs at *
  unfold maxLen at hmz
  have ZL := Lib.hid hzl
  have ZI := Lib.hid (row_in hrz)
  have bB := heap_alloc_new (w.alloc (.cells #[.int .u32 ts, .int .u32 td, .int .u16 tp, .int .u16 tq] 25)) (.cells #[.int .u32 ts', .int .u32 td', .int .u16 tp', .int .u16 tq'] 25)
  rw [World.size_alloc] at bB
  have bA := (Below.heap_alloc (w.alloc (.cells #[.int .u32 ts, .int .u32 td, .int .u16 tp, .int .u16 tq] 25)) (.cells #[.int .u32 ts', .int .u32 td', .int .u16 tp', .int .u16 tq'] 25) w.heap.size (by simp)).trans (heap_alloc_new w (.cells #[.int .u32 ts, .int .u32 td, .int .u16 tp, .int .u16 tq] 25))
  have L0 := ((Below.refl w.heap.size w).alloc (Nat.le_refl _) (.cells #[.int .u32 ts, .int .u32 td, .int .u16 tp, .int .u16 tq] 25)).alloc (by simp) (.cells #[.int .u32 ts', .int .u32 td', .int .u16 tp', .int .u16 tq'] 25)
  have RZ := Lib.hid (fun W (m : Below w.heap.size w W) => (hrz.below m).more m.size)
  have TW := Lib.hid (fun W (m : Below w.heap.size w W) => uwakes_any W (hT.step m (Nat.le_refl _)))
  have HH := Lib.hid (And.intro H H')
  clear H H' hT hrz hzl w2
  by_cases hbig : 100 < len2
  · have p1 : decide ((100 : Int) < (len2 : Int)) = true := decide_eq_true (by omega)
    clear bA bB
    go_enter Tryd.func4, Tryd.ntmps4
    go_wp2_with (go_at_call 8; (with_reducible refine (TW.out _ L0).mono ?_); rintro e w3 ⟨rfl, m3⟩)
    go_ret
    exact ⟨rfl, L0.trans (m3.mono L0.size)⟩
  have p1 : decide ((100 : Int) < (len2 : Int)) = false := decide_eq_false (by omega)
  go_enter Tryd.func4, Tryd.ntmps4
  go_upto_region 1 with (fail)
  generalize (w.alloc (.cells #[.int .u32 ts, .int .u32 td, .int .u16 tp, .int .u16 tq] 25)).alloc (.cells #[.int .u32 ts', .int .u32 td', .int .u16 tp', .int .u16 tq'] 25) = W0 at *
  go_upto_region 3 with (fail)
  have CS := Lib.hid (fun W (m : Below W0.heap.size W0 W) => And.intro (tup_cells _ _ _ _ ((m.block _ (Array.getElem?_eq_some_iff.1 bA).1).trans bA)) (tup_cells _ _ _ _ ((m.block _ (Array.getElem?_eq_some_iff.1 bB).1).trans bB)))
  have n0 := (Below.refl W0.heap.size W0).drew
  have K1 := Lib.hid (fun W => tBytes_any ts td tp tq HH.out.1 W)
  have K2 := Lib.hid (fun W => tBytes_any ts' td' tp' tq' HH.out.2 W)
  clear bA bB
  go_region_held3 (fun W => (W.cell? ⟨w.heap.size, 0, none⟩ = some (.int .u32 ts) ∧ W.cell? ⟨w.heap.size, 1, none⟩ = some (.int .u32 td) ∧ W.cell? ⟨w.heap.size, 2, none⟩ = some (.int .u16 tp) ∧ W.cell? ⟨w.heap.size, 3, none⟩ = some (.int .u16 tq)) ∧ (W.cell? ⟨w.heap.size + 1, 0, none⟩ = some (.int .u32 ts') ∧ W.cell? ⟨w.heap.size + 1, 1, none⟩ = some (.int .u32 td') ∧ W.cell? ⟨w.heap.size + 1, 2, none⟩ = some (.int .u16 tp') ∧ W.cell? ⟨w.heap.size + 1, 3, none⟩ = some (.int .u16 tq')))
    (first | with_reducible exact CS.out _ n2 | with_reducible exact CS.out _ n1 | with_reducible exact CS.out _ n0)
    (first
      | (go_at_call 11; (with_reducible refine (K1.out W0.drew).mono ?_); rintro e w1 ⟨A1, c1, rfl, hc1, R1, k1⟩; have n1 := n0.trans (k1.mono n0.size))
      | (go_at_call 11; (with_reducible refine (K2.out w1).mono ?_); rintro e w2 ⟨A2, c2, rfl, hc2, R2, k2⟩; have n2 := n1.trans (k2.mono n1.size); replace R1 := R1.step k2))
  go_wp2_with (fail)
  have L2 := L0.trans (n2.mono L0.size)
  clear k1 k2 n0 n1 K1 K2
  refine (tTake_any A1 12 c1 _ rfl hc1 w2 R1).mono ?_
  rw [(takeF_tupB HH.out.1).1, (takeF_tupB HH.out.1).2]
  rintro e w3 ⟨rfl, m3⟩
  replace R1 := R1.step m3
  replace R2 := R2.step m3
  have L3 := L2.trans (m3.mono L2.size)
  have n3 := n2.trans (m3.mono n2.size)
  clear L2 n2 m3
  go_wp2_with (fail)
  have bX := heap_alloc_new w3 (.cells #[.int .u32 ts, .int .u32 td, .int .u16 tp, .int .u16 tq] 25)
  have n4 := n3.alloc n3.size (.cells #[.int .u32 ts, .int .u32 td, .int .u16 tp, .int .u16 tq] 25)
  have L4 := L3.alloc L3.size (.cells #[.int .u32 ts, .int .u32 td, .int .u16 tp, .int .u16 tq] 25)
  replace R1 := R1.allocS (.cells #[.int .u32 ts, .int .u32 td, .int .u16 tp, .int .u16 tq] 25)
  replace R2 := R2.allocS (.cells #[.int .u32 ts, .int .u32 td, .int .u16 tp, .int .u16 tq] 25)
  generalize w3.alloc (.cells #[.int .u32 ts, .int .u32 td, .int .u16 tp, .int .u16 tq] 25) = W4 at *
  generalize w3.heap.size = bt at *
  have o2 := (str_order (ts := ts) (td := td) (tp := tp) (tq := tq) (ts' := ts') (td' := td') (tp' := tp') (tq' := tq')).2
  have CR := Lib.hid (fun W (m : Below W4.heap.size W4 W) => And.intro (CS.out W (n4.trans (m.mono n4.size))) (And.intro (tup_cells _ _ _ _ ((m.block _ (Array.getElem?_eq_some_iff.1 bX).1).trans bX)) (And.intro ((R1.below m).str 12 c1 rfl) ((R2.below m).str 12 c2 rfl))))
  have HZ := Lib.hid (cmpU_zero HH.out.1 HH.out.2)
  generalize strOfNums (tupB ts td tp tq) = X at *
  generalize strOfNums (tupB ts' td' tp' tq') = Y at *
  have q0 := (Below.refl W4.heap.size W4).drew
  have L5 := L4.drew
  clear n3 L3 R1 R2 bX n4 L4
  have p2 : (X.toList == Y.toList) = eqU ts td tp tq ts' td' tp' tq' := by
    rw [o2]
    unfold eqU
    by_cases h : ts = ts' ∧ td = td' ∧ tp = tp' ∧ tq = tq'
    · rw [decide_eq_true h, decide_eq_true (HZ.out.2 h)]
    · rw [decide_eq_false h, decide_eq_false (mt HZ.out.1 h)]
  have E1 : ∀ W, (Go.binOp .neq 25 (.agg #[.int .u32 ts, .int .u32 td, .int .u16 tp, .int .u16 tq]) (.agg #[.int .u32 ts, .int .u32 td, .int .u16 tp, .int .u16 tq])).run Tryd.prog W = .ok (.bool false) W := fun W => by
    have h := run_neU ts td tp tq ts td tp tq W
    rwa [eqU_same] at h
  have E2 := fun W => run_eqU ts td tp tq ts' td' tp' tq' W
  generalize eqU ts td tp tq ts' td' tp' tq' = bb at *
  have e3 : (bb == bb) = true := by simp
  have e4 : (bb != bb) = false := by simp
  clear o2
  go_region_held3 (fun W => ((W.cell? ⟨w.heap.size, 0, none⟩ = some (.int .u32 ts) ∧ W.cell? ⟨w.heap.size, 1, none⟩ = some (.int .u32 td) ∧ W.cell? ⟨w.heap.size, 2, none⟩ = some (.int .u16 tp) ∧ W.cell? ⟨w.heap.size, 3, none⟩ = some (.int .u16 tq)) ∧ (W.cell? ⟨w.heap.size + 1, 0, none⟩ = some (.int .u32 ts') ∧ W.cell? ⟨w.heap.size + 1, 1, none⟩ = some (.int .u32 td') ∧ W.cell? ⟨w.heap.size + 1, 2, none⟩ = some (.int .u16 tp') ∧ W.cell? ⟨w.heap.size + 1, 3, none⟩ = some (.int .u16 tq'))) ∧ (W.cell? ⟨bt, 0, none⟩ = some (.int .u32 ts) ∧ W.cell? ⟨bt, 1, none⟩ = some (.int .u32 td) ∧ W.cell? ⟨bt, 2, none⟩ = some (.int .u16 tp) ∧ W.cell? ⟨bt, 3, none⟩ = some (.int .u16 tq)) ∧ (convert 26 9 (.slice A1 12 c1)).run Tryd.prog W = .ok (.string X) W ∧ (convert 26 9 (.slice A2 12 c2)).run Tryd.prog W = .ok (.string Y) W)
    (first | with_reducible exact CR.out _ q0)
    (fail)
  clear E1 E2 e3 e4
  go_wp2_with (fail)
  clear CR CS HZ p2 q0
  refine (tTake_any a2 len2 cap2 zs ZL.out hlz _ (RZ.out _ L5)).mono ?_
  rintro e w6 ⟨rfl, m6⟩
  have L6 := L5.trans (m6.mono L5.size)
  clear L5 m6
  by_cases h12 : len2 = 12
  · subst h12
    have HU := Lib.hid (takeF_ok zs ZI.out)
    have HB := Lib.hid (tupB_takeF ZI.out ZL.out)
    have hy : takeY zs = 0 := by unfold takeY; rw [ZL.out, if_neg (by omega), if_neg (by omega)]
    rw [hy]
    clear hy
    generalize (takeF zs).1 = f1 at *
    generalize (takeF zs).2.1 = f2 at *
    generalize (takeF zs).2.2.1 = f3 at *
    generalize (takeF zs).2.2.2 = f4 at *
    go_wp2_with (fail)
    have bU := heap_alloc_new w6 (.cells #[.int .u32 f1, .int .u32 f2, .int .u16 f3, .int .u16 f4] 25)
    have L7 := L6.alloc L6.size (.cells #[.int .u32 f1, .int .u32 f2, .int .u16 f3, .int .u16 f4] 25)
    generalize w6.alloc (.cells #[.int .u32 f1, .int .u32 f2, .int .u16 f3, .int .u16 f4] 25) = W7 at *
    generalize w6.heap.size = bu at *
    have CU := Lib.hid (fun W (m : Below W7.heap.size W7 W) => And.intro (tup_cells _ _ _ _ ((m.block _ (Array.getElem?_eq_some_iff.1 bU).1).trans bU)) ((RZ.out W (L7.trans (m.mono L7.size))).str 12 cap2 ZL.out))
    have q0 := (Below.refl W7.heap.size W7).drew
    have KB := Lib.hid (fun W => tBytes_any f1 f2 f3 f4 HU.out W)
    have TX := Lib.hid (fun W (m : Below W7.heap.size W7 W) => TW.out W (L7.trans (m.mono L7.size)))
    clear bU
    go_region_held_law (fun W => (W.cell? ⟨bu, 0, none⟩ = some (.int .u32 f1) ∧ W.cell? ⟨bu, 1, none⟩ = some (.int .u32 f2) ∧ W.cell? ⟨bu, 2, none⟩ = some (.int .u16 f3) ∧ W.cell? ⟨bu, 3, none⟩ = some (.int .u16 f4)) ∧ (convert 26 9 (.slice a2 12 cap2)).run Tryd.prog W = .ok (.string (strOfNums zs)) W)
      (first | with_reducible exact CU.out _ q2 | with_reducible exact CU.out _ q1 | with_reducible exact CU.out _ q0)
      (first
        | (go_at_call 11; (with_reducible refine (KB.out W7.drew).mono ?_); rintro e v1 ⟨A3, c3, rfl, hc3, R3, j1⟩; have q1 := q0.trans (j1.mono q0.size); have s3 := R3.str 12 c3 rfl; rw [HB.out] at s3)
        | (go_at_call 8; (with_reducible refine (TX.out v1 q1).mono ?_); rintro e v2 ⟨rfl, j2⟩; have q2 := q1.trans (j2.mono q1.size)))
    all_goals
      go_wp2
      go_ret
      exact ⟨rfl, L7.trans (q2.mono L7.size)⟩
  · have hF : takeF zs = (0, 0, 0, 0) := by unfold takeF; rw [ZL.out, if_neg h12]
    have hYY : (takeY zs = 61 ∧ len2 < 12) ∨ (takeY zs = 60 ∧ 12 < len2) := by
      unfold takeY
      rw [ZL.out]
      rcases Nat.lt_or_ge len2 12 with h | h
      · rw [if_pos h]; exact .inl ⟨rfl, h⟩
      · rw [if_neg (by omega), if_pos (by omega)]; exact .inr ⟨rfl, by omega⟩
    rw [hF]
    have hne : ((len2 : Int) != 12) = true := by simp; omega
    have bU := heap_alloc_new w6 (.cells #[.int .u32 0, .int .u32 0, .int .u16 0, .int .u16 0] 25)
    have L7 := L6.alloc L6.size (.cells #[.int .u32 0, .int .u32 0, .int .u16 0, .int .u16 0] 25)
    rcases hYY with ⟨hy, hlt⟩ | ⟨hy, hlt⟩
    all_goals
      rw [hy]
      clear hy hF
      first
        | (have d1 : decide ((len2 : Int) < 12) = true := decide_eq_true (by omega); have d2 : decide ((12 : Int) < (len2 : Int)) = false := decide_eq_false (by omega))
        | (have d1 : decide ((len2 : Int) < 12) = false := decide_eq_false (by omega); have d2 : decide ((12 : Int) < (len2 : Int)) = true := decide_eq_true (by omega))
      clear h12 hlt
      go_wp2_with (fail)
      refine (TW.out _ L7).mono ?_
      rintro e v1 ⟨rfl, j1⟩
      go_wp2
      go_ret
      exact ⟨rfl, L7.trans (j1.mono L7.size)⟩
end Go.Proofs.YtpbheonapgckfaaDoor
