/- 'handfastlaw07.EncapTells' returns true at every node, address, every two wraps and all bytes, and leaves what lay as it lay. -/
import Derived.Test.YthenbpnlmpeafaaDoorEnW
import Derived.Test.YthenbpnlmpeafaaDoorEnX
import Derived.Test.YthenbpnlmpeafaaDoorEnL
namespace Go.Proofs.YthenbpnlmpeafaaDoor
open Go.RowKit Go.Shelf
open SumM
attribute [local go_sem ↓] Go.wp_at_zero Go.wp_at_succ

set_option maxRecDepth 100000 in
set_option maxHeartbeats 16000000 in
theorem eTells_walk (nk ni : Int) (ad : Int) (fk fi xk xi kd bu cu pv ge ti : Int) (wa : Option Addr) (wn wc : Nat) (zs : List Int) (fk' fi' xk' xi' kd' bu' cu' pv' ge' ti' : Int) (wa' : Option Addr) (wn' wc' : Nat) (zs' : List Int) (a4 : Option Addr) (len4 cap4 : Nat) (z4 : List Int) (w : World) (hT : Wid w ∧ 0 < w.heap.size)
    (_ : IsNd nk ni) (_ : (Lit.int .u32 ad).wf = true) (HP : IsWr w fk fi xk xi kd bu cu pv ge ti wa wn wc zs) (HQ : IsWr w fk' fi' xk' xi' kd' bu' cu' pv' ge' ti' wa' wn' wc' zs') (w4 : IsRow .u8 w a4 len4 cap4 z4) :
    Calls Tryd.prog 3 #[.agg #[.int .u8 nk, .int .i64 ni], .int .u32 ad, .agg #[.int .u8 fk, .int .i64 fi, .int .u8 xk, .int .i64 xi, .int .u8 kd, .int .u8 bu, .int .i64 cu, .int .i64 pv, .int .i64 ge, .int .i64 ti, .slice wa wn wc], .agg #[.int .u8 fk', .int .i64 fi', .int .u8 xk', .int .i64 xi', .int .u8 kd', .int .u8 bu', .int .i64 cu', .int .i64 pv', .int .i64 ge', .int .i64 ti', .slice wa' wn' wc'], .slice a4 len4 cap4] w fun e w' => e = .returned (.bool true) ∧ Below w.heap.size w w' := by
  obtain ⟨hrz, hzl, _, hlz, hmz⟩ := w4.row
  generalize z4.take len4 = bs at *
  unfold maxLen at hmz
  have hb1 := HP.hc
  have hb2 := HQ.hc
  unfold maxLen at hb1 hb2
  have bD := blk_al (blk_al (heap_alloc_new w (.cells #[.int .u8 nk, .int .i64 ni] 23)) (.cells #[.int .u8 fk, .int .i64 fi, .int .u8 xk, .int .i64 xi, .int .u8 kd, .int .u8 bu, .int .i64 cu, .int .i64 pv, .int .i64 ge, .int .i64 ti, .slice wa wn wc] 29)) (.cells #[.int .u8 fk', .int .i64 fi', .int .u8 xk', .int .i64 xi', .int .u8 kd', .int .u8 bu', .int .i64 cu', .int .i64 pv', .int .i64 ge', .int .i64 ti', .slice wa' wn' wc'] 29)
  have bW := blk_al (heap_alloc_new_at (w := w.alloc (.cells #[.int .u8 nk, .int .i64 ni] 23)) (m := w.heap.size + 1) (by simp) (.cells #[.int .u8 fk, .int .i64 fi, .int .u8 xk, .int .i64 xi, .int .u8 kd, .int .u8 bu, .int .i64 cu, .int .i64 pv, .int .i64 ge, .int .i64 ti, .slice wa wn wc] 29)) (.cells #[.int .u8 fk', .int .i64 fi', .int .u8 xk', .int .i64 xi', .int .u8 kd', .int .u8 bu', .int .i64 cu', .int .i64 pv', .int .i64 ge', .int .i64 ti', .slice wa' wn' wc'] 29)
  have bV := heap_alloc_new_at (w := (w.alloc (.cells #[.int .u8 nk, .int .i64 ni] 23)).alloc (.cells #[.int .u8 fk, .int .i64 fi, .int .u8 xk, .int .i64 xi, .int .u8 kd, .int .u8 bu, .int .i64 cu, .int .i64 pv, .int .i64 ge, .int .i64 ti, .slice wa wn wc] 29)) (m := w.heap.size + 2) (by simp) (.cells #[.int .u8 fk', .int .i64 fi', .int .u8 xk', .int .i64 xi', .int .u8 kd', .int .u8 bu', .int .i64 cu', .int .i64 pv', .int .i64 ge', .int .i64 ti', .slice wa' wn' wc'] 29)
  have L := (((Below.refl w.heap.size w).alloc (Nat.le_refl _) (.cells #[.int .u8 nk, .int .i64 ni] 23)).alloc (by simp) (.cells #[.int .u8 fk, .int .i64 fi, .int .u8 xk, .int .i64 xi, .int .u8 kd, .int .u8 bu, .int .i64 cu, .int .i64 pv, .int .i64 ge, .int .i64 ti, .slice wa wn wc] 29)).alloc (by simp; omega) (.cells #[.int .u8 fk', .int .i64 fi', .int .u8 xk', .int .i64 xi', .int .u8 kd', .int .u8 bu', .int .i64 cu', .int .i64 pv', .int .i64 ge', .int .i64 ti', .slice wa' wn' wc'] 29)
  have HI := Lib.hid (row_in hrz)
  have HL := Lib.hid (And.intro hzl (And.intro hlz hmz))
  have RB := Lib.hid (fun W (m : Below w.heap.size w W) => (hrz.below m).more m.size)
  have RP := Lib.hid (fun W (m : Below w.heap.size w W) => (HP.hr.below m).more m.size)
  have RQ := Lib.hid (fun W (m : Below w.heap.size w W) => (HQ.hr.below m).more m.size)
  have HPL := Lib.hid (And.intro HP.hl (And.intro HP.hn (And.intro HP.no HQ.hl)))
  have TT := Lib.hid (fun W (m : Below w.heap.size w W) => And.intro (hT.1.below hT.2 m) (Nat.lt_of_lt_of_le hT.2 m.size))
  have TWK := Lib.hid (fun W (m : Below w.heap.size w W) => ewakes_any W (TT.out W m).2 (TT.out W m).1)
  obtain ⟨q0, q1⟩ := nod_cells _ _ bD
  obtain ⟨x0, x1, x2, x3, x4, x5, x6, x7, x8, x9, x10⟩ := wr_cells _ _ _ _ _ _ _ _ _ _ _ _ _ bW
  obtain ⟨y0, y1, y2, y3, y4, y5, y6, y7, y8, y9, y10⟩ := wr_cells _ _ _ _ _ _ _ _ _ _ _ _ _ bV
  clear w4 hT HP HQ hrz hzl
  by_cases hbig : 3000 < wn ∨ 3000 < wn' ∨ 3000 < len4
  · have hc : (decide ((3000 : Int) < (wn : Int)) = true) ∨ (decide ((3000 : Int) < (wn : Int)) = false ∧ decide ((3000 : Int) < (wn' : Int)) = true) ∨ (decide ((3000 : Int) < (wn : Int)) = false ∧ decide ((3000 : Int) < (wn' : Int)) = false ∧ decide ((3000 : Int) < (len4 : Int)) = true) := by
      simp only [decide_eq_true_eq, decide_eq_false_iff_not]
      omega
    clear hbig bD bW bV hlz hmz hb1 hb2
    rcases hc with p1 | ⟨p1, p2⟩ | ⟨p1, p2, p3⟩
    all_goals
      go_enter Tryd.func3, Tryd.ntmps3
      go_upto_region 1 with (fail)
      generalize ((w.alloc (.cells #[.int .u8 nk, .int .i64 ni] 23)).alloc (.cells #[.int .u8 fk, .int .i64 fi, .int .u8 xk, .int .i64 xi, .int .u8 kd, .int .u8 bu, .int .i64 cu, .int .i64 pv, .int .i64 ge, .int .i64 ti, .slice wa wn wc] 29)).alloc (.cells #[.int .u8 fk', .int .i64 fi', .int .u8 xk', .int .i64 xi', .int .u8 kd', .int .u8 bu', .int .i64 cu', .int .i64 pv', .int .i64 ge', .int .i64 ti', .slice wa' wn' wc'] 29) = W0 at *
      go_wp2_with (go_at_call 8; (with_reducible refine (TWK.out _ L).mono ?_); rintro e w3 ⟨rfl, m3⟩)
      go_ret
      exact ⟨rfl, L.trans (m3.mono L.size)⟩
  have p1 : decide ((3000 : Int) < (wn : Int)) = false := decide_eq_false (by omega)
  have p2 : decide ((3000 : Int) < (wn' : Int)) = false := decide_eq_false (by omega)
  have p3 : decide ((3000 : Int) < (len4 : Int)) = false := decide_eq_false (by omega)
  have h4 : len4 ≤ 1000000 := by omega
  have hwn : wn ≤ 281474976710600 := by omega
  have hwo : wn ≤ 1000000 := by omega
  have HB := Lib.hid (And.intro h4 (And.intro hwn hwo))
  clear hbig hlz hmz hb1 hb2 h4 hwn hwo
  obtain ⟨da, hda⟩ : ∃ x, adrV (nk, ni) = x := ⟨_, rfl⟩
  obtain ⟨db, hdb⟩ : ∃ x, isNod (nk, ni) = x := ⟨_, rfl⟩
  obtain ⟨⟨d0, d1⟩, hd⟩ : ∃ v, nodV ad = v := ⟨_, rfl⟩
  obtain ⟨d2, hd2⟩ : ∃ v, nodB ad = v := ⟨_, rfl⟩
  have KA := Lib.hid (fun W => show Calls Tryd.prog 9 #[.agg #[.int .u8 nk, .int .i64 ni]] W fun e w' => e = .returned (.tuple #[.int .u32 da, .bool db]) ∧ Below W.heap.size W w' from by
    have h := eAddr_is nk ni W
    rwa [hda, hdb] at h)
  have KB := Lib.hid (fun W => show Calls Tryd.prog 10 #[.agg #[.int .u8 nk, .int .i64 ni]] W fun e w' => e = .returned (.tuple #[.int .u32 da, .bool db]) ∧ Below W.heap.size W w' from by
    have h := r7Addr_any nk ni W
    rwa [hda, hdb] at h)
  have KC := Lib.hid (fun W => show Calls Tryd.prog 11 #[.int .u32 ad] W fun e w' => e = .returned (.tuple #[.agg #[.int .u8 d0, .int .i64 d1], .bool d2]) ∧ Below W.heap.size W w' from by
    have h := eNode_is ad W
    rwa [hd, hd2] at h)
  have KD := Lib.hid (fun W => show Calls Tryd.prog 12 #[.int .u32 ad] W fun e w' => e = .returned (.tuple #[.agg #[.int .u8 d0, .int .i64 d1], .bool d2]) ∧ Below W.heap.size W w' from by
    have h := r7Node_any ad W
    rwa [hd, hd2] at h)
  obtain ⟨py, hpy⟩ : ∃ y, enY fk fi xk xi kd bu cu pv ge ti zs.length = y := ⟨_, rfl⟩
  obtain ⟨pz, hpz⟩ : ∃ z, enZ fk fi xk xi kd bu cu pv ge ti zs = z := ⟨_, rfl⟩
  have KP := Lib.hid (fun W (m : Below w.heap.size w W) => show Calls Tryd.prog 13 #[.agg #[.int .u8 fk, .int .i64 fi, .int .u8 xk, .int .i64 xi, .int .u8 kd, .int .u8 bu, .int .i64 cu, .int .i64 pv, .int .i64 ge, .int .i64 ti, .slice wa wn wc]] W fun e w' => ∃ A n c, e = .returned (.tuple #[.slice A n c, .int .u8 py]) ∧ pz.length = n ∧ Row .u8 w'.heap.size w' A pz ∧ Below W.heap.size W w' from by
    refine (ePut_is fk fi xk xi kd bu cu pv ge ti wa wn wc zs HPL.out.2.2.1 HB.out.2.1 W (TT.out W m).2 (TT.out W m).1 (RP.out W m) HPL.out.1 HPL.out.2.1).mono ?_
    rintro e w' ⟨A, n, c, rfl, h1, h2, _, _, _, m'⟩
    rw [hpz] at h1 h2
    rw [hpy]
    exact ⟨A, n, c, rfl, h1, h2, m'⟩)
  have KQ := Lib.hid (fun W (m : Below w.heap.size w W) => show Calls Tryd.prog 14 #[.agg #[.int .u8 fk, .int .i64 fi, .int .u8 xk, .int .i64 xi, .int .u8 kd, .int .u8 bu, .int .i64 cu, .int .i64 pv, .int .i64 ge, .int .i64 ti, .slice wa wn wc]] W fun e w' => ∃ A n c, e = .returned (.tuple #[.slice A n c, .int .u8 py]) ∧ pz.length = n ∧ Row .u8 w'.heap.size w' A pz ∧ Below W.heap.size W w' from by
    refine (r7Put_any fk fi xk xi kd bu cu pv ge ti wa wn wc zs HPL.out.2.2.1 HB.out.2.1 W (RP.out W m) HPL.out.1 HPL.out.2.1).mono ?_
    rintro e w' ⟨A, n, c, rfl, h1, h2, _, _, _, m'⟩
    rw [hpz] at h1 h2
    rw [hpy]
    exact ⟨A, n, c, rfl, h1, h2, m'⟩)
  obtain ⟨⟨r0, r1, r2, r3, r4, r5, r6, r7, r8, r9⟩, hr⟩ : ∃ v, etT bs = v := ⟨_, rfl⟩
  obtain ⟨rs, hrs⟩ : ∃ v, etS bs = v := ⟨_, rfl⟩
  obtain ⟨ry, hry⟩ : ∃ v, etY bs = v := ⟨_, rfl⟩
  obtain ⟨rn, hrn⟩ : ∃ v, rs.length = v := ⟨_, rfl⟩
  have KT := Lib.hid (fun W (m : Below w.heap.size w W) => show Calls Tryd.prog 15 #[.slice a4 len4 cap4] W fun e w' => ∃ A c, e = .returned (.tuple #[.agg #[.int .u8 r0, .int .i64 r1, .int .u8 r2, .int .i64 r3, .int .u8 r4, .int .u8 r5, .int .i64 r6, .int .i64 r7, .int .i64 r8, .int .i64 r9, .slice A rn c], .int .u8 ry]) ∧ Row .u8 w'.heap.size w' A rs ∧ Below W.heap.size W w' from by
    refine (eTake_any a4 len4 cap4 bs HL.out.1 HL.out.2.1 (by have := HL.out.2.2; omega) HB.out.1 W (TT.out W m).2 (TT.out W m).1 (RB.out W m)).mono ?_
    intro e w' h
    have h := et_as HI.out h
    unfold EtAs at h
    rwa [hr, hrs, hry, hrn] at h)
  have KU := Lib.hid (fun W (m : Below w.heap.size w W) => show Calls Tryd.prog 16 #[.slice a4 len4 cap4] W fun e w' => ∃ A c, e = .returned (.tuple #[.agg #[.int .u8 r0, .int .i64 r1, .int .u8 r2, .int .i64 r3, .int .u8 r4, .int .u8 r5, .int .i64 r6, .int .i64 r7, .int .i64 r8, .int .i64 r9, .slice A rn c], .int .u8 ry]) ∧ Row .u8 w'.heap.size w' A rs ∧ Below W.heap.size W w' from by
    refine (r7Take_any a4 len4 cap4 bs HL.out.1 HL.out.2.1 (by have := HL.out.2.2; omega) HB.out.1 W (RB.out W m)).mono ?_
    intro e w' h
    have h := et_as HI.out h
    unfold EtAs at h
    rwa [hr, hrs, hry, hrn] at h)
  have HRN := Lib.hid hrn
  clear hda hdb hd hd2 hpy hpz hr hrs hry hrn
  go_enter Tryd.func3, Tryd.ntmps3
  go_upto_region 1 with (fail)
  generalize ((w.alloc (.cells #[.int .u8 nk, .int .i64 ni] 23)).alloc (.cells #[.int .u8 fk, .int .i64 fi, .int .u8 xk, .int .i64 xi, .int .u8 kd, .int .u8 bu, .int .i64 cu, .int .i64 pv, .int .i64 ge, .int .i64 ti, .slice wa wn wc] 29)).alloc (.cells #[.int .u8 fk', .int .i64 fi', .int .u8 xk', .int .i64 xi', .int .u8 kd', .int .u8 bu', .int .i64 cu', .int .i64 pv', .int .i64 ge', .int .i64 ti', .slice wa' wn' wc'] 29) = W0 at *
  clear x0 x1 x2 x3 x4 x5 x6 x7 x8 x9 y0 y1 y2 y3 y4 y5 y6 y7 y8 y9 q0 q1
  obtain ⟨q0, q1⟩ := nod_cells _ _ bD
  have x10' := x10
  have y10' := y10
  go_wp2_with (fail)
  refine (KA.out W0).mono ?_
  rintro e v1 ⟨rfl, m⟩
  replace bD := (m.block _ (Array.getElem?_eq_some_iff.1 bD).1).trans bD
  replace bW := (m.block _ (Array.getElem?_eq_some_iff.1 bW).1).trans bW
  replace bV := (m.block _ (Array.getElem?_eq_some_iff.1 bV).1).trans bV
  replace L := L.trans (m.mono L.size)
  clear m
  clear q0 q1 x10 y10 x10' y10'
  obtain ⟨q0, q1⟩ := nod_cells _ _ bD
  go_wp2_with (fail)
  refine (KB.out v1).mono ?_
  rintro e v2 ⟨rfl, m⟩
  replace bD := (m.block _ (Array.getElem?_eq_some_iff.1 bD).1).trans bD
  replace bW := (m.block _ (Array.getElem?_eq_some_iff.1 bW).1).trans bW
  replace bV := (m.block _ (Array.getElem?_eq_some_iff.1 bV).1).trans bV
  replace L := L.trans (m.mono L.size)
  clear m
  clear q0 q1
  go_wp2_with (fail)
  refine (KC.out v2).mono ?_
  rintro e v3 ⟨rfl, m⟩
  replace bD := (m.block _ (Array.getElem?_eq_some_iff.1 bD).1).trans bD
  replace bW := (m.block _ (Array.getElem?_eq_some_iff.1 bW).1).trans bW
  replace bV := (m.block _ (Array.getElem?_eq_some_iff.1 bV).1).trans bV
  replace L := L.trans (m.mono L.size)
  clear m
  go_upto_region 6 with (fail)
  replace bD := blk_al bD (.cells #[.int .u8 d0, .int .i64 d1] 23)
  replace bW := blk_al bW (.cells #[.int .u8 d0, .int .i64 d1] 23)
  replace bV := blk_al bV (.cells #[.int .u8 d0, .int .i64 d1] 23)
  have bX := heap_alloc_new v3 (.cells #[.int .u8 d0, .int .i64 d1] 23)
  replace L := L.alloc L.size (.cells #[.int .u8 d0, .int .i64 d1] 23)
  generalize v3.alloc (.cells #[.int .u8 d0, .int .i64 d1] 23) = U4 at *
  generalize v3.heap.size = aX at *
  go_wp2_with (fail)
  refine (KD.out U4).mono ?_
  rintro e v5 ⟨rfl, m⟩
  replace bD := (m.block _ (Array.getElem?_eq_some_iff.1 bD).1).trans bD
  replace bW := (m.block _ (Array.getElem?_eq_some_iff.1 bW).1).trans bW
  replace bV := (m.block _ (Array.getElem?_eq_some_iff.1 bV).1).trans bV
  replace bX := (m.block _ (Array.getElem?_eq_some_iff.1 bX).1).trans bX
  replace L := L.trans (m.mono L.size)
  clear m
  go_upto_region 7 with (fail)
  replace bD := blk_al bD (.cells #[.int .u8 d0, .int .i64 d1] 23)
  replace bW := blk_al bW (.cells #[.int .u8 d0, .int .i64 d1] 23)
  replace bV := blk_al bV (.cells #[.int .u8 d0, .int .i64 d1] 23)
  replace bX := blk_al bX (.cells #[.int .u8 d0, .int .i64 d1] 23)
  have bY := heap_alloc_new v5 (.cells #[.int .u8 d0, .int .i64 d1] 23)
  replace L := L.alloc L.size (.cells #[.int .u8 d0, .int .i64 d1] 23)
  generalize v5.alloc (.cells #[.int .u8 d0, .int .i64 d1] 23) = U6 at *
  generalize v5.heap.size = aY at *
  obtain ⟨x0, x1, x2, x3, x4, x5, x6, x7, x8, x9, x10⟩ := wr_cells _ _ _ _ _ _ _ _ _ _ _ _ _ bW
  go_wp2_with (fail)
  refine (KP.out U6 L).mono ?_
  rintro e v7 ⟨A7, n7, c7, rfl, hz7, R7n, m⟩
  replace bD := (m.block _ (Array.getElem?_eq_some_iff.1 bD).1).trans bD
  replace bW := (m.block _ (Array.getElem?_eq_some_iff.1 bW).1).trans bW
  replace bV := (m.block _ (Array.getElem?_eq_some_iff.1 bV).1).trans bV
  replace bX := (m.block _ (Array.getElem?_eq_some_iff.1 bX).1).trans bX
  replace bY := (m.block _ (Array.getElem?_eq_some_iff.1 bY).1).trans bY
  replace L := L.trans (m.mono L.size)
  clear m
  have R7 := Lib.hid R7n
  clear R7n
  have HZ7 := Lib.hid hz7
  clear hz7
  clear x0 x1 x2 x3 x4 x5 x6 x7 x8 x9 x10
  obtain ⟨x0, x1, x2, x3, x4, x5, x6, x7, x8, x9, x10⟩ := wr_cells _ _ _ _ _ _ _ _ _ _ _ _ _ bW
  go_wp2_with (fail)
  refine (KQ.out v7 L).mono ?_
  rintro e v8 ⟨A8, n8, c8, rfl, hz8, R8n, m⟩
  replace bD := (m.block _ (Array.getElem?_eq_some_iff.1 bD).1).trans bD
  replace bW := (m.block _ (Array.getElem?_eq_some_iff.1 bW).1).trans bW
  replace bV := (m.block _ (Array.getElem?_eq_some_iff.1 bV).1).trans bV
  replace bX := (m.block _ (Array.getElem?_eq_some_iff.1 bX).1).trans bX
  replace bY := (m.block _ (Array.getElem?_eq_some_iff.1 bY).1).trans bY
  replace R7 := Lib.hid (R7.out.step m)
  replace L := L.trans (m.mono L.size)
  clear m
  have R8 := Lib.hid R8n
  clear R8n
  have HZ8 := Lib.hid hz8
  clear hz8
  clear x0 x1 x2 x3 x4 x5 x6 x7 x8 x9 x10
  go_wp2_with (fail)
  refine (KT.out v8 L).mono ?_
  rintro e v9 ⟨A9, c9, rfl, R9n, m⟩
  replace bD := (m.block _ (Array.getElem?_eq_some_iff.1 bD).1).trans bD
  replace bW := (m.block _ (Array.getElem?_eq_some_iff.1 bW).1).trans bW
  replace bV := (m.block _ (Array.getElem?_eq_some_iff.1 bV).1).trans bV
  replace bX := (m.block _ (Array.getElem?_eq_some_iff.1 bX).1).trans bX
  replace bY := (m.block _ (Array.getElem?_eq_some_iff.1 bY).1).trans bY
  replace R7 := Lib.hid (R7.out.step m)
  replace R8 := Lib.hid (R8.out.step m)
  replace L := L.trans (m.mono L.size)
  clear m
  have R9 := Lib.hid R9n
  clear R9n
  go_upto_region 10 with (fail)
  replace bD := blk_al bD (.cells #[.int .u8 r0, .int .i64 r1, .int .u8 r2, .int .i64 r3, .int .u8 r4, .int .u8 r5, .int .i64 r6, .int .i64 r7, .int .i64 r8, .int .i64 r9, .slice A9 rn c9] 29)
  replace bW := blk_al bW (.cells #[.int .u8 r0, .int .i64 r1, .int .u8 r2, .int .i64 r3, .int .u8 r4, .int .u8 r5, .int .i64 r6, .int .i64 r7, .int .i64 r8, .int .i64 r9, .slice A9 rn c9] 29)
  replace bV := blk_al bV (.cells #[.int .u8 r0, .int .i64 r1, .int .u8 r2, .int .i64 r3, .int .u8 r4, .int .u8 r5, .int .i64 r6, .int .i64 r7, .int .i64 r8, .int .i64 r9, .slice A9 rn c9] 29)
  replace bX := blk_al bX (.cells #[.int .u8 r0, .int .i64 r1, .int .u8 r2, .int .i64 r3, .int .u8 r4, .int .u8 r5, .int .i64 r6, .int .i64 r7, .int .i64 r8, .int .i64 r9, .slice A9 rn c9] 29)
  replace bY := blk_al bY (.cells #[.int .u8 r0, .int .i64 r1, .int .u8 r2, .int .i64 r3, .int .u8 r4, .int .u8 r5, .int .i64 r6, .int .i64 r7, .int .i64 r8, .int .i64 r9, .slice A9 rn c9] 29)
  have bT := heap_alloc_new v9 (.cells #[.int .u8 r0, .int .i64 r1, .int .u8 r2, .int .i64 r3, .int .u8 r4, .int .u8 r5, .int .i64 r6, .int .i64 r7, .int .i64 r8, .int .i64 r9, .slice A9 rn c9] 29)
  replace R7 := Lib.hid (R7.out.allocS (.cells #[.int .u8 r0, .int .i64 r1, .int .u8 r2, .int .i64 r3, .int .u8 r4, .int .u8 r5, .int .i64 r6, .int .i64 r7, .int .i64 r8, .int .i64 r9, .slice A9 rn c9] 29))
  replace R8 := Lib.hid (R8.out.allocS (.cells #[.int .u8 r0, .int .i64 r1, .int .u8 r2, .int .i64 r3, .int .u8 r4, .int .u8 r5, .int .i64 r6, .int .i64 r7, .int .i64 r8, .int .i64 r9, .slice A9 rn c9] 29))
  replace R9 := Lib.hid (R9.out.allocS (.cells #[.int .u8 r0, .int .i64 r1, .int .u8 r2, .int .i64 r3, .int .u8 r4, .int .u8 r5, .int .i64 r6, .int .i64 r7, .int .i64 r8, .int .i64 r9, .slice A9 rn c9] 29))
  replace L := L.alloc L.size (.cells #[.int .u8 r0, .int .i64 r1, .int .u8 r2, .int .i64 r3, .int .u8 r4, .int .u8 r5, .int .i64 r6, .int .i64 r7, .int .i64 r8, .int .i64 r9, .slice A9 rn c9] 29)
  generalize v9.alloc (.cells #[.int .u8 r0, .int .i64 r1, .int .u8 r2, .int .i64 r3, .int .u8 r4, .int .u8 r5, .int .i64 r6, .int .i64 r7, .int .i64 r8, .int .i64 r9, .slice A9 rn c9] 29) = U10 at *
  generalize v9.heap.size = aT at *
  go_wp2_with (fail)
  refine (KU.out U10 L).mono ?_
  rintro e v11 ⟨A10, c10, rfl, R10n, m⟩
  replace bD := (m.block _ (Array.getElem?_eq_some_iff.1 bD).1).trans bD
  replace bW := (m.block _ (Array.getElem?_eq_some_iff.1 bW).1).trans bW
  replace bV := (m.block _ (Array.getElem?_eq_some_iff.1 bV).1).trans bV
  replace bX := (m.block _ (Array.getElem?_eq_some_iff.1 bX).1).trans bX
  replace bY := (m.block _ (Array.getElem?_eq_some_iff.1 bY).1).trans bY
  replace bT := (m.block _ (Array.getElem?_eq_some_iff.1 bT).1).trans bT
  replace R7 := Lib.hid (R7.out.step m)
  replace R8 := Lib.hid (R8.out.step m)
  replace R9 := Lib.hid (R9.out.step m)
  replace L := L.trans (m.mono L.size)
  clear m
  have R10 := Lib.hid R10n
  clear R10n
  go_upto_region 11 with (fail)
  replace bD := blk_al bD (.cells #[.int .u8 r0, .int .i64 r1, .int .u8 r2, .int .i64 r3, .int .u8 r4, .int .u8 r5, .int .i64 r6, .int .i64 r7, .int .i64 r8, .int .i64 r9, .slice A10 rn c10] 29)
  replace bW := blk_al bW (.cells #[.int .u8 r0, .int .i64 r1, .int .u8 r2, .int .i64 r3, .int .u8 r4, .int .u8 r5, .int .i64 r6, .int .i64 r7, .int .i64 r8, .int .i64 r9, .slice A10 rn c10] 29)
  replace bV := blk_al bV (.cells #[.int .u8 r0, .int .i64 r1, .int .u8 r2, .int .i64 r3, .int .u8 r4, .int .u8 r5, .int .i64 r6, .int .i64 r7, .int .i64 r8, .int .i64 r9, .slice A10 rn c10] 29)
  replace bX := blk_al bX (.cells #[.int .u8 r0, .int .i64 r1, .int .u8 r2, .int .i64 r3, .int .u8 r4, .int .u8 r5, .int .i64 r6, .int .i64 r7, .int .i64 r8, .int .i64 r9, .slice A10 rn c10] 29)
  replace bY := blk_al bY (.cells #[.int .u8 r0, .int .i64 r1, .int .u8 r2, .int .i64 r3, .int .u8 r4, .int .u8 r5, .int .i64 r6, .int .i64 r7, .int .i64 r8, .int .i64 r9, .slice A10 rn c10] 29)
  replace bT := blk_al bT (.cells #[.int .u8 r0, .int .i64 r1, .int .u8 r2, .int .i64 r3, .int .u8 r4, .int .u8 r5, .int .i64 r6, .int .i64 r7, .int .i64 r8, .int .i64 r9, .slice A10 rn c10] 29)
  have bU := heap_alloc_new v11 (.cells #[.int .u8 r0, .int .i64 r1, .int .u8 r2, .int .i64 r3, .int .u8 r4, .int .u8 r5, .int .i64 r6, .int .i64 r7, .int .i64 r8, .int .i64 r9, .slice A10 rn c10] 29)
  replace R7 := Lib.hid (R7.out.allocS (.cells #[.int .u8 r0, .int .i64 r1, .int .u8 r2, .int .i64 r3, .int .u8 r4, .int .u8 r5, .int .i64 r6, .int .i64 r7, .int .i64 r8, .int .i64 r9, .slice A10 rn c10] 29))
  replace R8 := Lib.hid (R8.out.allocS (.cells #[.int .u8 r0, .int .i64 r1, .int .u8 r2, .int .i64 r3, .int .u8 r4, .int .u8 r5, .int .i64 r6, .int .i64 r7, .int .i64 r8, .int .i64 r9, .slice A10 rn c10] 29))
  replace R9 := Lib.hid (R9.out.allocS (.cells #[.int .u8 r0, .int .i64 r1, .int .u8 r2, .int .i64 r3, .int .u8 r4, .int .u8 r5, .int .i64 r6, .int .i64 r7, .int .i64 r8, .int .i64 r9, .slice A10 rn c10] 29))
  replace R10 := Lib.hid (R10.out.allocS (.cells #[.int .u8 r0, .int .i64 r1, .int .u8 r2, .int .i64 r3, .int .u8 r4, .int .u8 r5, .int .i64 r6, .int .i64 r7, .int .i64 r8, .int .i64 r9, .slice A10 rn c10] 29))
  replace L := L.alloc L.size (.cells #[.int .u8 r0, .int .i64 r1, .int .u8 r2, .int .i64 r3, .int .u8 r4, .int .u8 r5, .int .i64 r6, .int .i64 r7, .int .i64 r8, .int .i64 r9, .slice A10 rn c10] 29)
  generalize v11.alloc (.cells #[.int .u8 r0, .int .i64 r1, .int .u8 r2, .int .i64 r3, .int .u8 r4, .int .u8 r5, .int .i64 r6, .int .i64 r7, .int .i64 r8, .int .i64 r9, .slice A10 rn c10] 29) = U12 at *
  generalize v11.heap.size = aU at *
  obtain ⟨q0, q1⟩ := nod_cells _ _ bX
  obtain ⟨q2, q3⟩ := nod_cells _ _ bY
  have E1 := fun W => run_neD d0 d1 W
  have KS := Lib.hid (show Calls Tryd.prog 17 #[.slice A7 n7 c7, .slice A8 n8 c8] U12 fun e w' => e = .returned (.bool true) ∧ U12 = w' from by
    have h := law7Same_any A7 n7 c7 pz A8 n8 c8 pz _ _ U12 R7.out HZ7.out R8.out HZ8.out
    rwa [eqB_true.2 rfl] at h)
  have KV := Lib.hid (show Calls Tryd.prog 18 #[.agg #[.int .u8 r0, .int .i64 r1, .int .u8 r2, .int .i64 r3, .int .u8 r4, .int .u8 r5, .int .i64 r6, .int .i64 r7, .int .i64 r8, .int .i64 r9, .slice A9 rn c9], .agg #[.int .u8 r0, .int .i64 r1, .int .u8 r2, .int .i64 r3, .int .u8 r4, .int .u8 r5, .int .i64 r6, .int .i64 r7, .int .i64 r8, .int .i64 r9, .slice A10 rn c10]] U12 fun e w' => e = .returned (.bool true) ∧ Below U12.heap.size U12 w' from by
    have h := r7Same_any r0 r1 r2 r3 r4 r5 r6 r7 r8 r9 A9 rn c9 r0 r1 r2 r3 r4 r5 r6 r7 r8 r9 A10 rn c10 rs rs _ _ U12 (Nat.le_refl _) (Nat.le_refl _) R9.out HRN.out R10.out HRN.out
    rwa [show wrB r0 r1 r2 r3 r4 r5 r6 r7 r8 r9 rs r0 r1 r2 r3 r4 r5 r6 r7 r8 r9 rs = true by simp [wrB, eqD, eqO, eqB]] at h)
  obtain ⟨x0, x1, x2, x3, x4, x5, x6, x7, x8, x9, x10⟩ := wr_cells _ _ _ _ _ _ _ _ _ _ _ _ _ bT
  obtain ⟨y0, y1, y2, y3, y4, y5, y6, y7, y8, y9, y10⟩ := wr_cells _ _ _ _ _ _ _ _ _ _ _ _ _ bU
  have BW := Lib.hid (And.intro bW bV)
  have HLL := Lib.hid L
  clear bD bW bV bX bY bT bU L R7 R8 R9 R10
  go_wp2_with (first
    | (go_at_call 17; (with_reducible refine KS.out.mono ?_); rintro e u1 ⟨rfl, rfl⟩)
    | (go_at_call 18; (with_reducible refine KV.out.mono ?_); rintro e u2 ⟨rfl, m⟩; (have HM := Lib.hid m); clear m))
  have HX := Lib.hid (And.intro (HLL.out.trans (HM.out.mono HLL.out.size)) (And.intro ((HM.out.block _ (Array.getElem?_eq_some_iff.1 BW.out.1).1).trans BW.out.1) ((HM.out.block _ (Array.getElem?_eq_some_iff.1 BW.out.2).1).trans BW.out.2)))
  clear q0 q1 q2 q3 x0 x1 x2 x3 x4 x5 x6 x7 x8 x9 x10 y0 y1 y2 y3 y4 y5 y6 y7 y8 y9 y10 HM BW HLL KA KB KC KD KP KQ KT KU KS KV E1
  have CS := Lib.hid (fun W (m : Below u2.heap.size u2 W) => show (W.cell? ⟨w.heap.size + 1, 0, none⟩ = some (.int .u8 fk) ∧ W.cell? ⟨w.heap.size + 1, 1, none⟩ = some (.int .i64 fi) ∧ W.cell? ⟨w.heap.size + 1, 2, none⟩ = some (.int .u8 xk) ∧ W.cell? ⟨w.heap.size + 1, 3, none⟩ = some (.int .i64 xi) ∧ W.cell? ⟨w.heap.size + 1, 4, none⟩ = some (.int .u8 kd) ∧ W.cell? ⟨w.heap.size + 1, 5, none⟩ = some (.int .u8 bu) ∧ W.cell? ⟨w.heap.size + 1, 6, none⟩ = some (.int .i64 cu) ∧ W.cell? ⟨w.heap.size + 1, 7, none⟩ = some (.int .i64 pv) ∧ W.cell? ⟨w.heap.size + 1, 8, none⟩ = some (.int .i64 ge) ∧ W.cell? ⟨w.heap.size + 1, 9, none⟩ = some (.int .i64 ti) ∧ W.cell? ⟨w.heap.size + 1, 10, none⟩ = some (.slice wa wn wc)) ∧ (W.cell? ⟨w.heap.size + 2, 0, none⟩ = some (.int .u8 fk') ∧ W.cell? ⟨w.heap.size + 2, 1, none⟩ = some (.int .i64 fi') ∧ W.cell? ⟨w.heap.size + 2, 2, none⟩ = some (.int .u8 xk') ∧ W.cell? ⟨w.heap.size + 2, 3, none⟩ = some (.int .i64 xi') ∧ W.cell? ⟨w.heap.size + 2, 4, none⟩ = some (.int .u8 kd') ∧ W.cell? ⟨w.heap.size + 2, 5, none⟩ = some (.int .u8 bu') ∧ W.cell? ⟨w.heap.size + 2, 6, none⟩ = some (.int .i64 cu') ∧ W.cell? ⟨w.heap.size + 2, 7, none⟩ = some (.int .i64 pv') ∧ W.cell? ⟨w.heap.size + 2, 8, none⟩ = some (.int .i64 ge') ∧ W.cell? ⟨w.heap.size + 2, 9, none⟩ = some (.int .i64 ti') ∧ W.cell? ⟨w.heap.size + 2, 10, none⟩ = some (.slice wa' wn' wc')) from
    ⟨wr_cells _ _ _ _ _ _ _ _ _ _ _ _ _ ((m.block _ (Array.getElem?_eq_some_iff.1 HX.out.2.1).1).trans HX.out.2.1), wr_cells _ _ _ _ _ _ _ _ _ _ _ _ _ ((m.block _ (Array.getElem?_eq_some_iff.1 HX.out.2.2).1).trans HX.out.2.2)⟩)
  have LX := Lib.hid (fun W (m : Below u2.heap.size u2 W) => HX.out.1.trans (m.mono HX.out.1.size))
  have K3 := Lib.hid (fun W (m : Below u2.heap.size u2 W) => eSame_any fk fi xk xi kd bu cu pv ge ti wa wn wc fk' fi' xk' xi' kd' bu' cu' pv' ge' ti' wa' wn' wc' zs zs' _ _ W (Nat.le_refl _) (Nat.le_refl _) (RP.out _ (LX.out W m)) HPL.out.1 (RQ.out _ (LX.out W m)) HPL.out.2.2.2)
  have K4 := Lib.hid (fun W (m : Below u2.heap.size u2 W) => r7Same_any fk fi xk xi kd bu cu pv ge ti wa wn wc fk' fi' xk' xi' kd' bu' cu' pv' ge' ti' wa' wn' wc' zs zs' _ _ W (Nat.le_refl _) (Nat.le_refl _) (RP.out _ (LX.out W m)) HPL.out.1 (RQ.out _ (LX.out W m)) HPL.out.2.2.2)
  have K5 := Lib.hid (fun W (m : Below u2.heap.size u2 W) => show Calls Tryd.prog 23 #[.agg #[.int .u8 fk, .int .i64 fi, .int .u8 xk, .int .i64 xi, .int .u8 kd, .int .u8 bu, .int .i64 cu, .int .i64 pv, .int .i64 ge, .int .i64 ti, .slice wa wn wc]] W fun e w' => ∃ A c, e = .returned (.agg #[.int .u8 fk, .int .i64 fi, .int .u8 xk, .int .i64 xi, .int .u8 kd, .int .u8 bu, .int .i64 cu, .int .i64 pv, .int .i64 ge, .int .i64 ti, .slice A wn c]) ∧ Row .u8 w'.heap.size w' A zs ∧ Below W.heap.size W w' from by
    refine (eOwn_any fk fi xk xi kd bu cu pv ge ti wa wn wc zs W (RP.out _ (LX.out W m)) HPL.out.1 HPL.out.2.1 HB.out.2.2).mono ?_
    rintro e w' ⟨A, c, rfl, ho, m'⟩
    exact ⟨A, c, rfl, Row.of_own ho (in_wf8 (row_in (RP.out _ (LX.out W m)))), m'⟩)
  have K6 := Lib.hid (fun W (m : Below u2.heap.size u2 W) (A : Option Addr) (c : Nat) (R : Row .u8 W.heap.size W A zs) => show Calls Tryd.prog 18 #[.agg #[.int .u8 fk, .int .i64 fi, .int .u8 xk, .int .i64 xi, .int .u8 kd, .int .u8 bu, .int .i64 cu, .int .i64 pv, .int .i64 ge, .int .i64 ti, .slice A wn c], .agg #[.int .u8 fk, .int .i64 fi, .int .u8 xk, .int .i64 xi, .int .u8 kd, .int .u8 bu, .int .i64 cu, .int .i64 pv, .int .i64 ge, .int .i64 ti, .slice wa wn wc]] W fun e w' => e = .returned (.bool true) ∧ Below W.heap.size W w' from by
    have h := r7Same_any fk fi xk xi kd bu cu pv ge ti A wn c fk fi xk xi kd bu cu pv ge ti wa wn wc zs zs _ _ W (Nat.le_refl _) (Nat.le_refl _) R HPL.out.1 (RP.out _ (LX.out W m)) HPL.out.1
    rwa [show wrB fk fi xk xi kd bu cu pv ge ti zs fk fi xk xi kd bu cu pv ge ti zs = true by simp [wrB, eqD, eqO, eqB]] at h)
  have K7 := Lib.hid (fun W (m : Below u2.heap.size u2 W) => TWK.out _ (LX.out W m))
  have K1 := Lib.hid (fun W (m : Below u2.heap.size u2 W) => show Calls Tryd.prog 20 #[] W fun e w' => ∃ A c, e = .returned (.slice A 10 c) ∧ SRow nodC 2 w'.heap.size w' A allN ∧ Below W.heap.size W w' from by
    refine (eNodes_any W).mono ?_
    rintro e w' ⟨A, c, rfl, _, _, hs, m'⟩
    exact ⟨A, c, rfl, hs, m'⟩)
  have K2 := Lib.hid (fun W (m : Below u2.heap.size u2 W) => show Calls Tryd.prog 21 #[] W fun e w' => ∃ A c, e = .returned (.slice A 10 c) ∧ SRow nodC 2 w'.heap.size w' A allN ∧ Below W.heap.size W w' from by
    refine (r7Nodes_any W).mono ?_
    rintro e w' ⟨g, c, rfl, _, _, ho, m'⟩
    exact ⟨_, c, rfl, SRow.of_own nodC_len (by decide) ho, m'⟩)
  generalize wrB fk fi xk xi kd bu cu pv ge ti zs fk' fi' xk' xi' kd' bu' cu' pv' ge' ti' zs' = pb at *
  have e5 : (pb == pb) = true := by simp
  have n0 := (Below.refl u2.heap.size u2).drew
  go_region_held3 (fun W => (W.cell? ⟨w.heap.size + 1, 0, none⟩ = some (.int .u8 fk) ∧ W.cell? ⟨w.heap.size + 1, 1, none⟩ = some (.int .i64 fi) ∧ W.cell? ⟨w.heap.size + 1, 2, none⟩ = some (.int .u8 xk) ∧ W.cell? ⟨w.heap.size + 1, 3, none⟩ = some (.int .i64 xi) ∧ W.cell? ⟨w.heap.size + 1, 4, none⟩ = some (.int .u8 kd) ∧ W.cell? ⟨w.heap.size + 1, 5, none⟩ = some (.int .u8 bu) ∧ W.cell? ⟨w.heap.size + 1, 6, none⟩ = some (.int .i64 cu) ∧ W.cell? ⟨w.heap.size + 1, 7, none⟩ = some (.int .i64 pv) ∧ W.cell? ⟨w.heap.size + 1, 8, none⟩ = some (.int .i64 ge) ∧ W.cell? ⟨w.heap.size + 1, 9, none⟩ = some (.int .i64 ti) ∧ W.cell? ⟨w.heap.size + 1, 10, none⟩ = some (.slice wa wn wc)) ∧ (W.cell? ⟨w.heap.size + 2, 0, none⟩ = some (.int .u8 fk') ∧ W.cell? ⟨w.heap.size + 2, 1, none⟩ = some (.int .i64 fi') ∧ W.cell? ⟨w.heap.size + 2, 2, none⟩ = some (.int .u8 xk') ∧ W.cell? ⟨w.heap.size + 2, 3, none⟩ = some (.int .i64 xi') ∧ W.cell? ⟨w.heap.size + 2, 4, none⟩ = some (.int .u8 kd') ∧ W.cell? ⟨w.heap.size + 2, 5, none⟩ = some (.int .u8 bu') ∧ W.cell? ⟨w.heap.size + 2, 6, none⟩ = some (.int .i64 cu') ∧ W.cell? ⟨w.heap.size + 2, 7, none⟩ = some (.int .i64 pv') ∧ W.cell? ⟨w.heap.size + 2, 8, none⟩ = some (.int .i64 ge') ∧ W.cell? ⟨w.heap.size + 2, 9, none⟩ = some (.int .i64 ti') ∧ W.cell? ⟨w.heap.size + 2, 10, none⟩ = some (.slice wa' wn' wc')))
    (first | with_reducible exact CS.out _ n8 | with_reducible exact CS.out _ n7 | with_reducible exact CS.out _ n6 | with_reducible exact CS.out _ n5 | with_reducible exact CS.out _ n4 | with_reducible exact CS.out _ n3 | with_reducible exact CS.out _ n2 | with_reducible exact CS.out _ n1 | with_reducible exact CS.out _ n0)
    (first
      | (go_at_call 20; (with_reducible refine (K1.out u2.drew n0).mono ?_); rintro e v21 ⟨AN, cN, rfl, SN, j1⟩; have n1 := n0.trans (j1.mono n0.size))
      | (go_at_call 21; (with_reducible refine (K2.out v21 n1).mono ?_); rintro e v22 ⟨AM, cM, rfl, SM, j2⟩; have n2 := n1.trans (j2.mono n1.size))
      | (go_at_call 19; (with_reducible refine (law7Nodes_any AN AM cN cM v22 ((SN.below j2).more j2.size) SM).mono ?_); rintro e v23 ⟨rfl, j3⟩; have n3 := n2.trans (j3.mono n2.size))
      | (go_at_call 22; (with_reducible refine (K3.out v23 n3).mono ?_); rintro e v24 ⟨rfl, j4⟩; have n4 := n3.trans (j4.mono n3.size))
      | (go_at_call 18; (with_reducible refine (K4.out v24 n4).mono ?_); rintro e v25 ⟨rfl, j5⟩; have n5 := n4.trans (j5.mono n4.size))
      | (go_at_call 23; (with_reducible refine (K5.out v25 n5).mono ?_); rintro e v26 ⟨AO, cO, rfl, RO, j6⟩; have n6 := n5.trans (j6.mono n5.size))
      | (go_at_call 18; (with_reducible refine (K6.out v26 n6 AO cO RO).mono ?_); rintro e v27 ⟨rfl, j7⟩; have n7 := n6.trans (j7.mono n6.size))
      | (go_at_call 8; (with_reducible refine (K7.out v27 n7).mono ?_); rintro e v28 ⟨rfl, j8⟩; have n8 := n7.trans (j8.mono n7.size)))
  go_wp2
  go_ret
  exact ⟨rfl, HX.out.1.trans (n8.mono HX.out.1.size)⟩
end Go.Proofs.YthenbpnlmpeafaaDoor
