/- 'handfastlaw04.TupleTells' returns true at every two tuples, all bytes and all tuples that came in, and leaves what lay as it lay. -/
import Derived.Test.YtpbheonapgckfaaDoorTupR
import Derived.Deep.DeepCutAuto
import Derived.Deep.RegionHeldLaw
import Derived.Deep.DrawnRows
namespace Go.Proofs.YtpbheonapgckfaaDoor
open Go.RowKit Go.Shelf
open SumM
attribute [local go_sem ↓] Go.wp_at_zero Go.wp_at_succ

set_option maxRecDepth 100000 in
set_option maxHeartbeats 16000000 in
theorem tupTells_walk (ts td tp tq : Int) (ts' td' tp' tq' : Int) (a2 : Option Addr) (len2 cap2 : Nat) (z2 : List Int) (a3 : Option Addr) (len3 cap3 : Nat) (us : List Tup) (w : World) (hT : Tab w) (H : UNums ts td tp tq) (H' : UNums ts' td' tp' tq') (w2 : IsRow .u8 w a2 len2 cap2 z2) (w3 : IsTRow w a3 len3 cap3 us) :
    Calls Tryd.prog 3 #[.agg #[.int .u32 ts, .int .u32 td, .int .u16 tp, .int .u16 tq], .agg #[.int .u32 ts', .int .u32 td', .int .u16 tp', .int .u16 tq'], .slice a2 len2 cap2, .slice a3 len3 cap3] w fun e w' => e = .returned (.bool true) ∧ Below w.heap.size w w' := by
  obtain ⟨hrz, hzl, hnz, hlz, hmz⟩ := w2.row
  generalize z2.take len2 = zs at *
  obtain ⟨hru, hul, hnu, hlu, hmu⟩ := w3
  unfold maxLen at hmz hmu
  have ZL := Lib.hid hzl
  have UL := Lib.hid hul
  have bB := heap_alloc_new (w.alloc (.cells #[.int .u32 ts, .int .u32 td, .int .u16 tp, .int .u16 tq] 25)) (.cells #[.int .u32 ts', .int .u32 td', .int .u16 tp', .int .u16 tq'] 25)
  rw [World.size_alloc] at bB
  have bA := (Below.heap_alloc (w.alloc (.cells #[.int .u32 ts, .int .u32 td, .int .u16 tp, .int .u16 tq] 25)) (.cells #[.int .u32 ts', .int .u32 td', .int .u16 tp', .int .u16 tq'] 25) w.heap.size (by simp)).trans (heap_alloc_new w (.cells #[.int .u32 ts, .int .u32 td, .int .u16 tp, .int .u16 tq] 25))
  have L0 := ((Below.refl w.heap.size w).alloc (Nat.le_refl _) (.cells #[.int .u32 ts, .int .u32 td, .int .u16 tp, .int .u16 tq] 25)).alloc (by simp) (.cells #[.int .u32 ts', .int .u32 td', .int .u16 tp', .int .u16 tq'] 25)
  have RZ := Lib.hid (fun W (m : Below w.heap.size w W) => (hrz.below m).more m.size)
  have RU := Lib.hid (fun W (m : Below w.heap.size w W) => (hru.below m).more m.size)
  have TW := Lib.hid (fun W (m : Below w.heap.size w W) => uwakes_any W (hT.step m (Nat.le_refl _)))
  have TT := Lib.hid (fun W (m : Below w.heap.size w W) => hT.step m (Nat.le_refl _))
  have HH := Lib.hid (And.intro H H')
  have HUO := Lib.hid hru.1
  clear H H' hT hrz hzl hul hru w2 hnz hnu
  by_cases hbig : 100 < len2 ∨ 60 < len3
  · have hc : ∃ p q : Bool, decide ((100 : Int) < (len2 : Int)) = p ∧ decide ((60 : Int) < (len3 : Int)) = q ∧ ((p = true) ∨ (p = false ∧ q = true)) := by
      refine ⟨_, _, rfl, rfl, ?_⟩
      by_cases h1 : 100 < len2
      · exact .inl (decide_eq_true (by omega))
      · exact .inr ⟨decide_eq_false (by omega), decide_eq_true (by omega)⟩
    obtain ⟨p, q, p1, p2, hpq⟩ := hc
    rcases hpq with rfl | ⟨rfl, rfl⟩
    all_goals
      clear bA bB hbig
      go_enter Tryd.func3, Tryd.ntmps3
      go_wp2_with (go_at_call 8; (with_reducible refine (TW.out _ L0).mono ?_); rintro e w3 ⟨rfl, m3⟩)
      go_ret
      exact ⟨rfl, L0.trans (m3.mono L0.size)⟩
  have p1 : decide ((100 : Int) < (len2 : Int)) = false := decide_eq_false (by omega)
  have p2 : decide ((60 : Int) < (len3 : Int)) = false := decide_eq_false (by omega)
  have hlen3 : len3 ≤ 1000 := by omega
  go_enter Tryd.func3, Tryd.ntmps3
  go_upto_region 1 with (fail)
  generalize (w.alloc (.cells #[.int .u32 ts, .int .u32 td, .int .u16 tp, .int .u16 tq] 25)).alloc (.cells #[.int .u32 ts', .int .u32 td', .int .u16 tp', .int .u16 tq'] 25) = W0 at *
  go_wp2_with (fail)
  refine (tTake_any a2 len2 cap2 zs ZL.out hlz W0 (RZ.out W0 L0)).mono ?_
  rintro e w1 ⟨rfl, m1⟩
  have L1 := L0.trans (m1.mono L0.size)
  generalize hF1 : (takeF zs).1 = f1 at *
  generalize hF2 : (takeF zs).2.1 = f2 at *
  generalize hF3 : (takeF zs).2.2.1 = f3 at *
  generalize hF4 : (takeF zs).2.2.2 = f4 at *
  generalize hFY : takeY zs = fy at *
  have KT := Lib.hid (fun W (m : Below w.heap.size w W) => show Calls Tryd.prog 10 #[.slice a2 len2 cap2] W fun e w' => e = .returned (.tuple #[.agg #[.int .u32 f1, .int .u32 f2, .int .u16 f3, .int .u16 f4], .int .i64 fy]) ∧ Below W.heap.size W w' from by
    have h := r4Take_any a2 len2 cap2 zs ZL.out hlz W (RZ.out W m)
    rwa [hF1, hF2, hF3, hF4, hFY] at h)
  clear hF1 hF2 hF3 hF4 hFY
  go_wp2_with (fail)
  have bT := heap_alloc_new w1 (.cells #[.int .u32 f1, .int .u32 f2, .int .u16 f3, .int .u16 f4] 25)
  have L2 := L1.alloc L1.size (.cells #[.int .u32 f1, .int .u32 f2, .int .u16 f3, .int .u16 f4] 25)
  have k2 := (m1.alloc m1.size (.cells #[.int .u32 f1, .int .u32 f2, .int .u16 f3, .int .u16 f4] 25))
  generalize w1.alloc (.cells #[.int .u32 f1, .int .u32 f2, .int .u16 f3, .int .u16 f4] 25) = W2 at *
  generalize w1.heap.size = bt at *
  refine (KT.out W2 L2).mono ?_
  rintro e w3 ⟨rfl, m3⟩
  have L3 := L2.trans (m3.mono L2.size)
  have k3 := k2.trans (m3.mono k2.size)
  have bT3 := (m3.block _ (Array.getElem?_eq_some_iff.1 bT).1).trans bT
  clear bT m3 m1 k2 L1 L2 KT
  go_wp2_with (fail)
  have bU := heap_alloc_new w3 (.cells #[.int .u32 f1, .int .u32 f2, .int .u16 f3, .int .u16 f4] 25)
  have bT4 := (Below.heap_alloc w3 (.cells #[.int .u32 f1, .int .u32 f2, .int .u16 f3, .int .u16 f4] 25) bt (Array.getElem?_eq_some_iff.1 bT3).1).trans bT3
  have L4 := L3.alloc L3.size (.cells #[.int .u32 f1, .int .u32 f2, .int .u16 f3, .int .u16 f4] 25)
  have k4 := k3.alloc k3.size (.cells #[.int .u32 f1, .int .u32 f2, .int .u16 f3, .int .u16 f4] 25)
  have bA4 := (k4.block _ (Array.getElem?_eq_some_iff.1 bA).1).trans bA
  have bB4 := (k4.block _ (Array.getElem?_eq_some_iff.1 bB).1).trans bB
  generalize w3.alloc (.cells #[.int .u32 f1, .int .u32 f2, .int .u16 f3, .int .u16 f4] 25) = W4 at *
  generalize w3.heap.size = bu at *
  have CS := Lib.hid (fun W (m : Below W4.heap.size W4 W) => show (W.cell? ⟨w.heap.size, 0, none⟩ = some (.int .u32 ts) ∧ W.cell? ⟨w.heap.size, 1, none⟩ = some (.int .u32 td) ∧ W.cell? ⟨w.heap.size, 2, none⟩ = some (.int .u16 tp) ∧ W.cell? ⟨w.heap.size, 3, none⟩ = some (.int .u16 tq)) ∧ (W.cell? ⟨w.heap.size + 1, 0, none⟩ = some (.int .u32 ts') ∧ W.cell? ⟨w.heap.size + 1, 1, none⟩ = some (.int .u32 td') ∧ W.cell? ⟨w.heap.size + 1, 2, none⟩ = some (.int .u16 tp') ∧ W.cell? ⟨w.heap.size + 1, 3, none⟩ = some (.int .u16 tq')) ∧ (W.cell? ⟨bt, 0, none⟩ = some (.int .u32 f1) ∧ W.cell? ⟨bt, 1, none⟩ = some (.int .u32 f2) ∧ W.cell? ⟨bt, 2, none⟩ = some (.int .u16 f3) ∧ W.cell? ⟨bt, 3, none⟩ = some (.int .u16 f4)) ∧ (W.cell? ⟨bu, 0, none⟩ = some (.int .u32 f1) ∧ W.cell? ⟨bu, 1, none⟩ = some (.int .u32 f2) ∧ W.cell? ⟨bu, 2, none⟩ = some (.int .u16 f3) ∧ W.cell? ⟨bu, 3, none⟩ = some (.int .u16 f4)) from
    ⟨tup_cells _ _ _ _ ((m.block _ (Array.getElem?_eq_some_iff.1 bA4).1).trans bA4), tup_cells _ _ _ _ ((m.block _ (Array.getElem?_eq_some_iff.1 bB4).1).trans bB4), tup_cells _ _ _ _ ((m.block _ (Array.getElem?_eq_some_iff.1 bT4).1).trans bT4), tup_cells _ _ _ _ ((m.block _ (Array.getElem?_eq_some_iff.1 bU).1).trans bU)⟩)
  have CA := Lib.hid (fun W (m : Below W4.heap.size W4 W) => (CS.out W m).1)
  have n0 := (Below.refl W4.heap.size W4).drew
  have K1 := Lib.hid (fun W => tBytes_any ts td tp tq HH.out.1 W)
  have K2 := Lib.hid (fun W => show Calls Tryd.prog 12 #[.agg #[.int .u32 ts, .int .u32 td, .int .u16 tp, .int .u16 tq]] W (fun e w' => ∃ A c, e = .returned (.slice A 12 c) ∧ Row .u8 w'.heap.size w' A (tupB ts td tp tq) ∧ Below W.heap.size W w') from
    (r4Bytes_any ts td tp tq HH.out.1 W).mono fun e w' ⟨A, c, he, O, L⟩ => ⟨A, c, he, Row.of_own O (r4wf _ (tupB_in ts td tp tq)), L⟩)
  have K3 := Lib.hid (fun W => tCmp_any ts td tp tq ts' td' tp' tq' HH.out.1 HH.out.2 W)
  have K4 := Lib.hid (fun W => r4Cmp_any ts td tp tq ts' td' tp' tq' HH.out.1 HH.out.2 W)
  have K5 := Lib.hid (fun W => tLess_any ts td tp tq ts' td' tp' tq' HH.out.1 HH.out.2 W)
  have K6 := Lib.hid (fun W => r4Less_any ts td tp tq ts' td' tp' tq' HH.out.1 HH.out.2 W)
  generalize cmpU ts td tp tq ts' td' tp' tq' = cu at *
  generalize decide (cu < 0) = cl at *
  have SX := Lib.hid (fun (W : World) (A : Option Addr) (c : Nat) (R : Row .u8 W.heap.size W A (tupB ts td tp tq)) => R.str 12 c rfl)
  generalize hX : strOfNums (tupB ts td tp tq) = X at *
  clear hX
  have e1 : (X.toList == X.toList) = true := by simp
  have e2 : (X.toList != X.toList) = false := by simp
  have e3 : (cu != cu) = false := by simp
  have e4 : (cl != cl) = false := by simp
  have e5 : (fy != fy) = false := by simp
  clear bA bB bT3 bT4 bU bA4 bB4 k3 k4 L0 L3
  go_wp2_with (fail)
  go_cut [66] (fun s66 wx => s66 = .bool false ∧ Below W4.heap.size W4 wx)
  case first =>
    go_region_held_law (fun W => (W.cell? ⟨w.heap.size, 0, none⟩ = some (.int .u32 ts) ∧ W.cell? ⟨w.heap.size, 1, none⟩ = some (.int .u32 td) ∧ W.cell? ⟨w.heap.size, 2, none⟩ = some (.int .u16 tp) ∧ W.cell? ⟨w.heap.size, 3, none⟩ = some (.int .u16 tq)) ∧ (W.cell? ⟨w.heap.size + 1, 0, none⟩ = some (.int .u32 ts') ∧ W.cell? ⟨w.heap.size + 1, 1, none⟩ = some (.int .u32 td') ∧ W.cell? ⟨w.heap.size + 1, 2, none⟩ = some (.int .u16 tp') ∧ W.cell? ⟨w.heap.size + 1, 3, none⟩ = some (.int .u16 tq')) ∧ (W.cell? ⟨bt, 0, none⟩ = some (.int .u32 f1) ∧ W.cell? ⟨bt, 1, none⟩ = some (.int .u32 f2) ∧ W.cell? ⟨bt, 2, none⟩ = some (.int .u16 f3) ∧ W.cell? ⟨bt, 3, none⟩ = some (.int .u16 f4)) ∧ (W.cell? ⟨bu, 0, none⟩ = some (.int .u32 f1) ∧ W.cell? ⟨bu, 1, none⟩ = some (.int .u32 f2) ∧ W.cell? ⟨bu, 2, none⟩ = some (.int .u16 f3) ∧ W.cell? ⟨bu, 3, none⟩ = some (.int .u16 f4)))
      (first | with_reducible exact CS.out _ n6 | with_reducible exact CS.out _ n5 | with_reducible exact CS.out _ n4 | with_reducible exact CS.out _ n3 | with_reducible exact CS.out _ n2 | with_reducible exact CS.out _ n1 | with_reducible exact CS.out _ n0)
      (first
        | (go_at_call 11; (with_reducible refine (K1.out W4.drew).mono ?_); rintro e v1 ⟨A1, c1, rfl, hc1, R1, j1⟩; have n1 := n0.trans (j1.mono n0.size); have s1 := SX.out v1 A1 c1 R1)
        | (go_at_call 12; (with_reducible refine (K2.out v1).mono ?_); rintro e v2 ⟨A2, c2, rfl, R2, j2⟩; have n2 := n1.trans (j2.mono n1.size); have s2 := SX.out v2 A2 c2 R2; have s3 := SX.out v2 A1 c1 (R1.step j2))
        | (go_at_call 13; (with_reducible refine (K3.out v2).mono ?_); rintro e v3 ⟨rfl, j3⟩; have n3 := n2.trans (j3.mono n2.size))
        | (go_at_call 14; (with_reducible refine (K4.out v3).mono ?_); rintro e v4 ⟨rfl, j4⟩; have n4 := n3.trans (j4.mono n3.size))
        | (go_at_call 15; (with_reducible refine (K5.out v4).mono ?_); rintro e v5 ⟨rfl, j5⟩; have n5 := n4.trans (j5.mono n4.size))
        | (go_at_call 16; (with_reducible refine (K6.out v5).mono ?_); rintro e v6 ⟨rfl, j6⟩; have n6 := n5.trans (j6.mono n5.size)))
    all_goals (go_wp2_with fail; go_meet; exact ⟨rfl, n6⟩)
  case rest =>
    obtain ⟨rfl, n6⟩ := hcut
    have CB := Lib.hid (fun W (m : Below wc.heap.size wc W) => CA.out W (n6.trans (m.mono n6.size)))
    have LC := L4.trans (n6.mono L4.size)
    clear n0 n6 CA CS K1 K2 K3 K4 K5 K6 SX e1 e2 e3 e4 e5 L4
    have HSL := Lib.hid (show (sortT us).length = len3 by rw [sortT_length, UL.out])
    have HSO := Lib.hid (sortT_ok HUO.out)
    have K1 := Lib.hid (fun W => tBack_any ts td tp tq W)
    have K2 := Lib.hid (fun W => r4Back_any ts td tp tq W)
    have K3 := Lib.hid (fun W (m : Below wc.heap.size wc W) => tText_any ts td tp tq HH.out.1 W (TT.out W (LC.trans (m.mono LC.size))))
    have K4 := Lib.hid (fun W => r4Text_any ts td tp tq HH.out.1 W)
    have K5 := Lib.hid (fun W (m : Below wc.heap.size wc W) => show Calls Tryd.prog 22 #[.slice a3 len3 cap3] W (fun e w' => ∃ A c, e = .returned (.slice A len3 c) ∧ TRow w'.heap.size w' A (sortT us) ∧ Below W.heap.size W w') from by
      have h := tSorted_any a3 len3 cap3 us W (RU.out W (LC.trans (m.mono LC.size))) UL.out hlen3
      unfold TRowRet at h
      rwa [sortT_length, UL.out] at h)
    have K6 := Lib.hid (fun W (m : Below wc.heap.size wc W) => r4Sorted_any a3 len3 cap3 us W (RU.out W (LC.trans (m.mono LC.size))) UL.out hlen3)
    have K8 := Lib.hid (fun W (m : Below wc.heap.size wc W) => TW.out W (LC.trans (m.mono LC.size)))
    generalize sortT us = ss at *
    generalize strOfNums (textL ts td tp tq) = X at *
    have e1 : (X.toList == X.toList) = true := by simp
    have n0 := (Below.refl wc.heap.size wc).drew
    go_wp2_with (fail)
    go_region_held3 (fun W => W.cell? ⟨w.heap.size, 0, none⟩ = some (.int .u32 ts) ∧ W.cell? ⟨w.heap.size, 1, none⟩ = some (.int .u32 td) ∧ W.cell? ⟨w.heap.size, 2, none⟩ = some (.int .u16 tp) ∧ W.cell? ⟨w.heap.size, 3, none⟩ = some (.int .u16 tq))
      (first | with_reducible exact CB.out _ n8 | with_reducible exact CB.out _ n7 | with_reducible exact CB.out _ n6 | with_reducible exact CB.out _ n5 | with_reducible exact CB.out _ n4 | with_reducible exact CB.out _ n3 | with_reducible exact CB.out _ n2 | with_reducible exact CB.out _ n1 | with_reducible exact CB.out _ n0)
      (first
        | (go_at_call 17; (with_reducible refine (K1.out wc.drew).mono ?_); rintro e v1 ⟨rfl, j1⟩; have n1 := n0.trans (j1.mono n0.size))
        | (go_at_call 18; (with_reducible refine (K2.out v1).mono ?_); rintro e v2 ⟨rfl, j2⟩; have n2 := n1.trans (j2.mono n1.size))
        | (go_at_call 19; (with_reducible refine (K3.out v2 n2).mono ?_); rintro e v3 ⟨rfl, j3⟩; have n3 := n2.trans (j3.mono n2.size))
        | (go_at_call 20; (with_reducible refine (K4.out v3).mono ?_); rintro e v4 ⟨rfl, j4⟩; have n4 := n3.trans (j4.mono n3.size))
        | (go_at_call 22; (with_reducible refine (K5.out v4 n4).mono ?_); rintro e v5 ⟨A5, c5, rfl, R5, j5⟩; have n5 := n4.trans (j5.mono n4.size))
        | (go_at_call 23; (with_reducible refine (K6.out v5 n5).mono ?_); rintro e v6 ⟨A6, c6, rfl, O6, j6⟩; have n6 := n5.trans (j6.mono n5.size); have R6 := TRow.of_own O6 HSO.out; have R7 := (R5.below j6).more j6.size)
        | (go_at_call 21; (with_reducible refine (r4All_any A5 A6 len3 c5 c6 v6.heap.size ss v6 R7 R6 HSL.out hlen3).mono ?_); rintro e v7 ⟨rfl, nd, rfl⟩; have n7 := below_drn n6 nd)
        | (go_at_call 8; (with_reducible refine (K8.out _ n7).mono ?_); rintro e v8 ⟨rfl, j8⟩; have n8 := n7.trans (j8.mono n7.size)))
    go_wp2
    go_ret
    exact ⟨rfl, LC.trans (n8.mono LC.size)⟩
end Go.Proofs.YtpbheonapgckfaaDoor
