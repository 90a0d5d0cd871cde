/- 'handfastlaw04.TupleOrder' returns true at every three tuples, and leaves what lay as it lay. -/
import Derived.Test.YtpbheonapgckfaaDoorTupR
import Derived.Deep.RegionHeldLaw
import Derived.Deep.DrawnRows
import Derived.Deep.DeepCutAuto
namespace Go.Proofs.YtpbheonapgckfaaDoor
open Go.RowKit Go.Shelf
open SumM
attribute [local go_sem ↓] Go.wp_at_zero Go.wp_at_succ

set_option maxRecDepth 100000 in
set_option maxHeartbeats 16000000 in
theorem tupOrder_walk (ts td tp tq : Int) (ts' td' tp' tq' : Int) (ts'' td'' tp'' tq'' : Int) (w : World) (hT : Tab w) (H : UNums ts td tp tq) (H' : UNums ts' td' tp' tq') (H'' : UNums ts'' td'' tp'' tq'') :
    Calls Tryd.prog 5 #[.agg #[.int .u32 ts, .int .u32 td, .int .u16 tp, .int .u16 tq], .agg #[.int .u32 ts', .int .u32 td', .int .u16 tp', .int .u16 tq'], .agg #[.int .u32 ts'', .int .u32 td'', .int .u16 tp'', .int .u16 tq'']] w fun e w' => e = .returned (.bool true) ∧ Below w.heap.size w w' := by
  have bC := heap_alloc_new ((w.alloc (.cells #[.int .u32 ts, .int .u32 td, .int .u16 tp, .int .u16 tq] 25)).alloc (.cells #[.int .u32 ts', .int .u32 td', .int .u16 tp', .int .u16 tq'] 25)) (.cells #[.int .u32 ts'', .int .u32 td'', .int .u16 tp'', .int .u16 tq''] 25)
  have bB := (Below.heap_alloc _ (.cells #[.int .u32 ts'', .int .u32 td'', .int .u16 tp'', .int .u16 tq''] 25) (w.alloc (.cells #[.int .u32 ts, .int .u32 td, .int .u16 tp, .int .u16 tq] 25)).heap.size (by simp)).trans (heap_alloc_new (w.alloc (.cells #[.int .u32 ts, .int .u32 td, .int .u16 tp, .int .u16 tq] 25)) (.cells #[.int .u32 ts', .int .u32 td', .int .u16 tp', .int .u16 tq'] 25))
  have bA := (Below.heap_alloc _ (.cells #[.int .u32 ts'', .int .u32 td'', .int .u16 tp'', .int .u16 tq''] 25) w.heap.size (by simp; omega)).trans ((Below.heap_alloc _ (.cells #[.int .u32 ts', .int .u32 td', .int .u16 tp', .int .u16 tq'] 25) w.heap.size (by simp)).trans (heap_alloc_new w (.cells #[.int .u32 ts, .int .u32 td, .int .u16 tp, .int .u16 tq] 25)))
  simp only [World.size_alloc] at bB bC
  have L0 := (((Below.refl w.heap.size w).alloc (Nat.le_refl _) (.cells #[.int .u32 ts, .int .u32 td, .int .u16 tp, .int .u16 tq] 25)).alloc (by simp) (.cells #[.int .u32 ts', .int .u32 td', .int .u16 tp', .int .u16 tq'] 25)).alloc (by simp; omega) (.cells #[.int .u32 ts'', .int .u32 td'', .int .u16 tp'', .int .u16 tq''] 25)
  have T0 := Lib.hid (hT.step L0 (Nat.le_refl _))
  have HH := Lib.hid (And.intro H (And.intro H' H''))
  clear H H' H'' hT
  go_enter Tryd.func5, Tryd.ntmps5
  go_upto_region 1 with (fail)
  generalize ((w.alloc (.cells #[.int .u32 ts, .int .u32 td, .int .u16 tp, .int .u16 tq] 25)).alloc (.cells #[.int .u32 ts', .int .u32 td', .int .u16 tp', .int .u16 tq'] 25)).alloc (.cells #[.int .u32 ts'', .int .u32 td'', .int .u16 tp'', .int .u16 tq''] 25) = W0 at *
  have CS := Lib.hid (fun W (m : Below W0.heap.size W0 W) => And.intro (tup_cells _ _ _ _ ((m.block _ (Array.getElem?_eq_some_iff.1 bA).1).trans bA)) (And.intro (tup_cells _ _ _ _ ((m.block _ (Array.getElem?_eq_some_iff.1 bB).1).trans bB)) (tup_cells _ _ _ _ ((m.block _ (Array.getElem?_eq_some_iff.1 bC).1).trans bC))))
  clear bA bB bC
  have n0 := (Below.refl W0.heap.size W0).drew
  have K1 := Lib.hid (fun W => tBytes_any ts td tp tq HH.out.1 W)
  have K2 := Lib.hid (fun W => tBytes_any ts' td' tp' tq' HH.out.2.1 W)
  have CF := Lib.hid (fun W (m : Below W0.heap.size W0 W) => show (W.cell? ⟨w.heap.size, 0, none⟩ = some (.int .u32 ts) ∧ W.cell? ⟨w.heap.size, 1, none⟩ = some (.int .u32 td) ∧ W.cell? ⟨w.heap.size, 2, none⟩ = some (.int .u16 tp) ∧ W.cell? ⟨w.heap.size, 3, none⟩ = some (.int .u16 tq)) ∧ (W.cell? ⟨w.heap.size + 1, 0, none⟩ = some (.int .u32 ts') ∧ W.cell? ⟨w.heap.size + 1, 1, none⟩ = some (.int .u32 td') ∧ W.cell? ⟨w.heap.size + 1, 2, none⟩ = some (.int .u16 tp') ∧ W.cell? ⟨w.heap.size + 1, 3, none⟩ = some (.int .u16 tq')) from ⟨(CS.out W m).1, (CS.out W m).2.1⟩)
  go_region_held_law (fun W => (W.cell? ⟨w.heap.size, 0, none⟩ = some (.int .u32 ts) ∧ W.cell? ⟨w.heap.size, 1, none⟩ = some (.int .u32 td) ∧ W.cell? ⟨w.heap.size, 2, none⟩ = some (.int .u16 tp) ∧ W.cell? ⟨w.heap.size, 3, none⟩ = some (.int .u16 tq)) ∧ (W.cell? ⟨w.heap.size + 1, 0, none⟩ = some (.int .u32 ts') ∧ W.cell? ⟨w.heap.size + 1, 1, none⟩ = some (.int .u32 td') ∧ W.cell? ⟨w.heap.size + 1, 2, none⟩ = some (.int .u16 tp') ∧ W.cell? ⟨w.heap.size + 1, 3, none⟩ = some (.int .u16 tq')))
    (first | with_reducible exact CF.out _ n2 | with_reducible exact CF.out _ n1 | with_reducible exact CF.out _ n0)
    (first
      | (go_at_call 11; (with_reducible refine (K1.out W0.drew).mono ?_); rintro e w1 ⟨A1, c1, rfl, hc1, R1, k1⟩; have n1 := n0.trans (k1.mono n0.size); have s1 := R1.str 12 c1 rfl)
      | (go_at_call 11; (with_reducible refine (K2.out w1).mono ?_); rintro e w2 ⟨A2, c2, rfl, hc2, R2, k2⟩; have n2 := n1.trans (k2.mono n1.size); have s2 := R2.str 12 c2 rfl; have s3 := (R1.step k2).str 12 c1 rfl))
  all_goals
    obtain ⟨⟨a0, a1, a2, a3⟩, ⟨b0, b1, b2, b3⟩, ⟨d0, d1, d2, d3⟩⟩ := CS.out w2 n2
    have nc := n2
    clear s1 s2 s3 R1 R2 K1 K2 k1 k2 n0 n1 n2 CF
    obtain ⟨o1, o2⟩ := str_order (ts := ts) (td := td) (tp := tp) (tq := tq) (ts' := ts') (td' := td') (tp' := tp') (tq' := tq')
    have KC := Lib.hid (fun W => tCmp_any ts td tp tq ts' td' tp' tq' HH.out.1 HH.out.2.1 W)
    have KD := Lib.hid (fun W => show Calls Tryd.prog 13 #[.agg #[.int .u32 ts', .int .u32 td', .int .u16 tp', .int .u16 tq'], .agg #[.int .u32 ts, .int .u32 td, .int .u16 tp, .int .u16 tq]] W fun e w' => e = .returned (.int .i64 (-(cmpU ts td tp tq ts' td' tp' tq'))) ∧ Below W.heap.size W w' from by
      have h := tCmp_any ts' td' tp' tq' ts td tp tq HH.out.2.1 HH.out.1 W
      rwa [show cmpU ts' td' tp' tq' ts td tp tq = -(cmpU ts td tp tq ts' td' tp' tq') from cmpL_swap _ _] at h)
    have KL := Lib.hid (fun W => tLess_any ts td tp tq ts' td' tp' tq' HH.out.1 HH.out.2.1 W)
    have KM := Lib.hid (fun W => tLess_any ts' td' tp' tq' ts'' td'' tp'' tq'' HH.out.2.1 HH.out.2.2 W)
    have KN := Lib.hid (fun W => tLess_any ts td tp tq ts'' td'' tp'' tq'' HH.out.1 HH.out.2.2 W)
    have HTR : Hid (cmpU ts td tp tq ts' td' tp' tq' < 0 → cmpU ts' td' tp' tq' ts'' td'' tp'' tq'' < 0 → cmpU ts td tp tq ts'' td'' tp'' tq'' < 0) := Lib.hid (fun h1 h2 => cmpT_trans (ts, td, tp, tq) (ts', td', tp', tq') (ts'', td'', tp'', tq'') h1 h2)
    have hin : cmpU ts td tp tq ts' td' tp' tq' = -1 ∨ cmpU ts td tp tq ts' td' tp' tq' = 0 ∨ cmpU ts td tp tq ts' td' tp' tq' = 1 := cmpL_in _ _
    generalize cmpU ts td tp tq ts' td' tp' tq' = nn at *
    generalize cmpU ts' td' tp' tq' ts'' td'' tp'' tq'' = mm at *
    generalize cmpU ts td tp tq ts'' td'' tp'' tq'' = kk at *
    generalize strOfNums (tupB ts td tp tq) = X at *
    generalize strOfNums (tupB ts' td' tp' tq') = Y at *
    rcases hin with rfl | rfl | rfl
    all_goals
      first
        | (have p1 : Op.bytesLess X.toList Y.toList = true := o1; have p2 : (X.toList == Y.toList) = false := o2; clear o1 o2)
        | (have p1 : Op.bytesLess X.toList Y.toList = false := o1; have p2 : (X.toList == Y.toList) = true := o2; clear o1 o2)
        | (have p1 : Op.bytesLess X.toList Y.toList = false := o1; have p2 : (X.toList == Y.toList) = false := o2; clear o1 o2)
      go_wp2_with (first
        | (go_at_call 13; (with_reducible refine (KC.out _).mono ?_); rintro e wc ⟨rfl, kc⟩; have nc := nc.trans (kc.mono nc.size); obtain ⟨⟨a0, a1, a2, a3⟩, ⟨b0, b1, b2, b3⟩, ⟨d0, d1, d2, d3⟩⟩ := CS.out _ nc; clear kc)
        | (go_at_call 13; (with_reducible refine (KD.out _).mono ?_); rintro e wc ⟨rfl, kc⟩; have nc := nc.trans (kc.mono nc.size); obtain ⟨⟨a0, a1, a2, a3⟩, ⟨b0, b1, b2, b3⟩, ⟨d0, d1, d2, d3⟩⟩ := CS.out _ nc; clear kc)
        | (go_at_call 15; (with_reducible refine (KL.out _).mono ?_); rintro e wc ⟨rfl, kc⟩; have nc := nc.trans (kc.mono nc.size); obtain ⟨⟨a0, a1, a2, a3⟩, ⟨b0, b1, b2, b3⟩, ⟨d0, d1, d2, d3⟩⟩ := CS.out _ nc; clear kc)
        | (go_at_call 15; (with_reducible refine (KM.out _).mono ?_); rintro e wc ⟨rfl, kc⟩; have nc := nc.trans (kc.mono nc.size); obtain ⟨⟨a0, a1, a2, a3⟩, ⟨b0, b1, b2, b3⟩, ⟨d0, d1, d2, d3⟩⟩ := CS.out _ nc; clear kc)
        | (go_at_call 15; (with_reducible refine (KN.out _).mono ?_); rintro e wc ⟨rfl, kc⟩; have nc := nc.trans (kc.mono nc.size); obtain ⟨⟨a0, a1, a2, a3⟩, ⟨b0, b1, b2, b3⟩, ⟨d0, d1, d2, d3⟩⟩ := CS.out _ nc; clear kc))
      all_goals
        first
          | (exfalso; rename_i hq; rw [decide_eq_true (HTR.out (by omega) (by assumption))] at hq; cases hq)
          | (refine (tBack_any ts td tp tq wc).mono ?_
             rintro e w9 ⟨rfl, k9⟩
             have n9 := nc.trans (k9.mono nc.size)
             go_wp2_with (fail)
             have bO := heap_alloc_new w9 (.cells #[.int .u32 td, .int .u32 ts, .int .u16 tq, .int .u16 tp] 25)
             have n10 := n9.alloc n9.size (.cells #[.int .u32 td, .int .u32 ts, .int .u16 tq, .int .u16 tp] 25)
             generalize w9.alloc (.cells #[.int .u32 td, .int .u32 ts, .int .u16 tq, .int .u16 tp] 25) = WA at *
             generalize w9.heap.size = bo at *
             have CO := Lib.hid (fun W (m : Below WA.heap.size WA W) => show (W.cell? ⟨w.heap.size, 0, none⟩ = some (.int .u32 ts) ∧ W.cell? ⟨w.heap.size, 1, none⟩ = some (.int .u32 td) ∧ W.cell? ⟨w.heap.size, 2, none⟩ = some (.int .u16 tp) ∧ W.cell? ⟨w.heap.size, 3, none⟩ = some (.int .u16 tq)) ∧ (W.cell? ⟨bo, 0, none⟩ = some (.int .u32 td) ∧ W.cell? ⟨bo, 1, none⟩ = some (.int .u32 ts) ∧ W.cell? ⟨bo, 2, none⟩ = some (.int .u16 tq) ∧ W.cell? ⟨bo, 3, none⟩ = some (.int .u16 tp)) from ⟨(CS.out W (n10.trans (m.mono n10.size))).1, tup_cells _ _ _ _ ((m.block _ (Array.getElem?_eq_some_iff.1 bO).1).trans bO)⟩)
             have q0 := (Below.refl WA.heap.size WA).drew
             have TW := Lib.hid (fun W (m : Below WA.heap.size WA W) => uwakes_any W (T0.out.step (n10.trans (m.mono n10.size)) (Nat.le_refl _)))
             clear a0 a1 a2 a3 b0 b1 b2 b3 d0 d1 d2 d3 n9 k9 bO
             go_region_held3 (fun W => (W.cell? ⟨w.heap.size, 0, none⟩ = some (.int .u32 ts) ∧ W.cell? ⟨w.heap.size, 1, none⟩ = some (.int .u32 td) ∧ W.cell? ⟨w.heap.size, 2, none⟩ = some (.int .u16 tp) ∧ W.cell? ⟨w.heap.size, 3, none⟩ = some (.int .u16 tq)) ∧ (W.cell? ⟨bo, 0, none⟩ = some (.int .u32 td) ∧ W.cell? ⟨bo, 1, none⟩ = some (.int .u32 ts) ∧ W.cell? ⟨bo, 2, none⟩ = some (.int .u16 tq) ∧ W.cell? ⟨bo, 3, none⟩ = some (.int .u16 tp)))
               (first | with_reducible exact CO.out _ q2 | with_reducible exact CO.out _ q1 | with_reducible exact CO.out _ q0)
               (first
                 | (go_at_call 17; (with_reducible refine (tBack_any td ts tq tp WA.drew).mono ?_); rintro e v1 ⟨rfl, j1⟩; have q1 := q0.trans (j1.mono q0.size))
                 | (go_at_call 8; (with_reducible refine (TW.out v1 q1).mono ?_); rintro e v2 ⟨rfl, j2⟩; have q2 := q1.trans (j2.mono q1.size)))
             go_wp2
             go_ret
             exact ⟨rfl, L0.trans ((n10.trans (q2.mono n10.size)).mono L0.size)⟩)
end Go.Proofs.YtpbheonapgckfaaDoor
